import Derived.Test.YtfhkfnoajbbfdaaGreatDoorPart42
/- The document's instructions that speak of no cell. -/
namespace Go.Proofs.YtfhkfnoajbbfdaaGreatDoor
open Go.RowKit

section
variable {D : Nat → Prop} {lab : Nat → Nat × Nat} {w : World} {bm mb : Nat} {tv : Value} {m : Nat → Int} {ts : List CT}

set_option maxRecDepth 100000 in
set_option maxHeartbeats 1000000 in
theorem cMem_bad (h : CMach D lab w bm mb tv m ts) (k : Nat) (hk : k < ts.length) (u : ByteArray) (hu : u = ⟨#[108, 111, 97, 100]⟩ ∨ u = ⟨#[115, 116, 111, 114, 101]⟩) (d : Int) (x y z : Vl) (n : Int) (a : Int) (ha : a < 0 ∨ 256 ≤ a) (b : Int) :
    Calls Tryz.prog 73 #[ptr bm, .int .i64 k, insAgg u d x y z n, .int .i64 a, .int .i64 b] w fun e w' => e = .returned (.tuple #[]) ∧ CMach D lab w' bm mb tv m (ts.set k { ts[k] with T := { ts[k].T with st := 9 } }) ∧ Chg (fun j _ => D j) w w' := by
  have H := hid h
  obtain ⟨tg, tk, rfl, p1, p2, _⟩ := thr_ptr h k hk
  have hc := h.tc
  have hth := h.th k hk
  have c5 := hth.state
  have f5 := hth.free 5 (by omega)
  have lbm := lt_of_shape h.sh
  have lb := lt_of_shape hth.sh
  have hk1 : (k : Int) < (ts.length : Int) := by omega
  have hcase : a < 0 ∨ (¬ a < 0 ∧ 256 ≤ a) := by omega
  clear h hth ha
  generalize hTb : ts[k].b = tb at *
  rcases hu with rfl | rfl <;> rcases hcase with h1 | ⟨h1, h2⟩
  all_goals
    go_enter Tryz.func73, Tryz.ntmps73
    go_wp2
    refine bodyPost_ret (results_none rfl _ _ _) rfl ?_
    subst hTb
    obtain ⟨r1, r2⟩ := cm_state H.out k hk 9
    exact ⟨rfl, r1.below ((Below.refl _ _).alloc (Nat.le_refl _) _), r2.alloc _⟩

set_option maxRecDepth 100000 in
set_option maxHeartbeats 1000000 in
theorem cMem_badL (h : CMach D lab w bm mb tv m ts) (hD : ∀ k, w.heap.size ≤ k → D k) (k : Nat) (hk : k < ts.length) (u : ByteArray) (hu : u = ⟨#[99, 97, 115]⟩ ∨ u = ⟨#[120, 97, 100, 100]⟩) (d : Int) (x y z : Vl) (n : Int) (a : Int) (ha : a < 0 ∨ 256 ≤ a) (b : Int) (hql : ts[k].T.q.length < 1000) (hadr : ∀ p ∈ ts[k].T.q, 0 ≤ p.1 ∧ p.1 < 256) :
    Calls Tryz.prog 73 #[ptr bm, .int .i64 k, insAgg u d x y z n, .int .i64 a, .int .i64 b] w fun e w' => e = .returned (.tuple #[]) ∧ (∃ lab' wv', CMach D lab' w' bm mb tv (drainM m ts[k].T.q) (ts.set k { ts[k] with wv := wv', T := { ts[k].T with q := [], st := 9 } })) ∧ Chg (fun j _ => D j) w w' := by
  have H := hid h
  have HDR := hid (fun W (hW : CMach D lab W bm mb tv m ts) hDW => cDrain_any hW hDW k hk hadr hql)
  obtain ⟨tg, tk, rfl, p1, p2, _⟩ := thr_ptr h k hk
  have hc := h.tc
  have hth := h.th k hk
  have lbm := lt_of_shape h.sh
  have lb := lt_of_shape hth.sh
  have hk1 : (k : Int) < (ts.length : Int) := by omega
  have hcase : a < 0 ∨ (¬ a < 0 ∧ 256 ≤ a) := by omega
  clear h hth ha
  generalize hTb : ts[k].b = tb at *
  generalize hm0 : drainM m ts[k].T.q = m2 at *
  rcases hu with rfl | rfl <;> rcases hcase with h1 | ⟨h1, h2⟩
  all_goals
    go_enter Tryz.func73, Tryz.ntmps73
    go_wp2_with fail
    generalize hA : w.alloc _ = WA
    have bA : Below w.heap.size w WA := by rw [← hA]; exact (Below.refl _ w).alloc (Nat.le_refl _) _
    have sA : WA.heap.size = w.heap.size + 1 := by rw [← hA]; simp
    have HA := hid (H.out.below bA)
    have BA := hid bA
    have HSA := hid sA
    clear hA bA sA
    refine (HDR.out WA HA.out (fun j hj => hD j (by have := HSA.out; omega))).mono ?_
    rintro e W2 ⟨rfl, ⟨lab2, wv2, hm2⟩, hc2⟩
    have hks : k < (ts.set k { ts[k] with wv := wv2, T := { ts[k].T with q := [] } }).length := by simpa using hk
    have hth2 := hm2.th k hks
    rw [set_get hk] at hth2
    have c5 := hth2.state
    have f5 := hth2.free 5 (by omega)
    simp only at c5 f5
    rw [hTb] at c5 f5
    have HM2 := hid hm2
    have HC2 : Hid (Chg (fun j _ => D j) WA W2) := hid (hc2.mono (fun j _ _ e => e.elim (fun e => e ▸ HA.out.lm.2) (fun e => e ▸ (hTb ▸ (HA.out.lts k hk).b.2))))
    clear hm2 hc2 hth2 HDR
    go_wp2
    refine bodyPost_ret (results_none rfl _ _ _) rfl ?_
    have key := cm_state HM2.out k hks 9
    rw [set_get hk] at key
    simp only [List.set_set] at key
    rw [hTb] at key
    exact ⟨rfl, ⟨lab2, wv2, by simpa [hTb] using key.1⟩, ((Chg.of_below BA.out).trans HC2.out).trans key.2⟩
end
end Go.Proofs.YtfhkfnoajbbfdaaGreatDoor

/- The document's Step: threads that do no more; the code's end. -/
namespace Go.Proofs.YtfhkfnoajbbfdaaGreatDoor
open Go.RowKit

section
variable {D : Nat → Prop} {lab : Nat → Nat × Nat} {w : World} {bm mb : Nat} {tv : Value} {m : Nat → Int} {ts : List CT}

set_option maxRecDepth 100000 in
set_option maxHeartbeats 1000000 in
theorem cStep_none (h : CMach D lab w bm mb tv m ts) (k : Int) (hk : k < 0 ∨ (ts.length : Int) ≤ k) :
    Calls Tryz.prog 49 #[ptr bm, .int .i64 k] w fun e w' => e = .returned (.tuple #[]) ∧ w' = w := by
  obtain ⟨ta, tk, rfl⟩ := row_slice h.trow
  have hc := h.tc
  clear h
  generalize ts.length = n at *
  by_cases h0 : k < 0
  · go_enter Tryz.func49, Tryz.ntmps49
    go_wp2
    refine bodyPost_ret (results_none rfl _ _ _) rfl ?_
    exact ⟨rfl, rfl⟩
  · have h1 : (n : Int) ≤ k := hk.resolve_left h0
    clear hk
    go_enter Tryz.func49, Tryz.ntmps49
    go_wp2
    refine bodyPost_ret (results_none rfl _ _ _) rfl ?_
    exact ⟨rfl, rfl⟩

set_option maxRecDepth 100000 in
set_option maxHeartbeats 1000000 in
theorem cStep_over (h : CMach D lab w bm mb tv m ts) (k : Nat) (hk : k < ts.length) (hs : ¬ ts[k].T.st = 0) :
    Calls Tryz.prog 49 #[ptr bm, .int .i64 k] w fun e w' => e = .returned (.tuple #[]) ∧ w' = w := by
  obtain ⟨tg, tk, rfl, p1, p2, _⟩ := thr_ptr h k hk
  have hc := h.tc
  have c5 := (h.th k hk).state
  have hk0 : ¬ (k : Int) < 0 := by omega
  have hk1 : (k : Int) < (ts.length : Int) := by omega
  have hs' : (ts[k].T.st != 0) = true := by simpa using hs
  clear h
  generalize ts[k].b = tb at *
  generalize ts[k].T.st = st at *
  generalize hn : ts.length = n at *
  go_enter Tryz.func49, Tryz.ntmps49
  go_wp2
  refine bodyPost_ret (results_none rfl _ _ _) rfl ?_
  exact ⟨rfl, rfl⟩

set_option maxRecDepth 100000 in
set_option maxHeartbeats 1000000 in
theorem cStep_end (h : CMach D lab w bm mb tv m ts) (k : Nat) (hk : k < ts.length) (hs : ts[k].T.st = 0) (hp : (ts[k].code.length : Int) ≤ ts[k].T.pl) :
    Calls Tryz.prog 49 #[ptr bm, .int .i64 k] w fun e w' => e = .returned (.tuple #[]) ∧ CMach D lab w' bm mb tv m (ts.set k { ts[k] with T := { ts[k].T with st := 10 } }) ∧ Chg (fun j _ => D j) w w' := by
  have H := hid h
  obtain ⟨tg, tk, rfl, p1, p2, _⟩ := thr_ptr h k hk
  have hc := h.tc
  have hth := h.th k hk
  have c5 := hth.state
  have f5 := hth.free 5 (by omega)
  have c1 := hth.pc
  have c0 := hth.codec
  obtain ⟨ca, ck, hcv⟩ := row_slice hth.crow
  rw [hcv] at c0
  rw [hs] at c5
  have hk0 : ¬ (k : Int) < 0 := by omega
  have hk1 : (k : Int) < (ts.length : Int) := by omega
  clear h hth hcv hs
  generalize hTb : ts[k].b = tb at *
  generalize hTp : ts[k].T.pl = pl at *
  generalize hTc : ts[k].code.length = cl at *
  go_enter Tryz.func49, Tryz.ntmps49
  go_wp2_with fail
  go_region
  all_goals
    go_wp2
    refine bodyPost_ret (results_none rfl _ _ _) rfl ?_
    subst hTb
    subst hTp
    obtain ⟨r1, r2⟩ := cm_state H.out k hk 10
    exact ⟨rfl, r1.keep (M := fun _ _ => False) ((Chg.refl _ _).drew) (fun _ _ _ e => e), r2.drew⟩
end
end Go.Proofs.YtfhkfnoajbbfdaaGreatDoor

/- The document's Step: the instruction that is next. -/
namespace Go.Proofs.YtfhkfnoajbbfdaaGreatDoor
open Go.RowKit

theorem insCells_len (ic : Ic) : (insCells ic).length = 9 := rfl

theorem code_cell (c : List Ic) (p : Nat) (h : p < c.length) (j : Nat) (hj : j < 9) : (c.flatMap insCells)[9 * p + j]? = (insCells c[p])[j]? := by
  induction c generalizing p with
  | nil => simp at h
  | cons i c ih =>
    rw [List.flatMap_cons]
    cases p with
    | zero =>
      rw [List.getElem?_append_left (by rw [insCells_len]; omega)]
      simp
    | succ p =>
      rw [List.getElem?_append_right (by rw [insCells_len]; omega), insCells_len, show 9 * (p + 1) + j - 9 = 9 * p + j by omega, ih p (by simpa using h)]
      simp

/-- The nine cells of the instruction that is next. -/
theorem code_at {w : World} {g cap : Nat} {c : List Ic} (h : w.ownsRow 0 127 9 (.slice (some ⟨g, 0, none⟩) c.length cap) c.length (c.flatMap insCells)) (p : Nat) (hp : p < c.length) (j : Nat) (hj : j < 9) (u : Value) (hu : (insCells c[p])[j]? = some u) : w.cell? ⟨g, p * 9 + j, none⟩ = some u := by
  have := h.cells (g := g) rfl (9 * p + j) u (by rw [code_cell c p hp j hj]; exact hu)
  have e : (⟨g, 0, none⟩ : Addr).add (9 * p + j) = ⟨g, p * 9 + j, none⟩ := by
    rw [show 9 * p + j = p * 9 + j by omega]
    unfold Addr.add
    split
    · rename_i h0; rw [h0]
    · simp
  rwa [e] at this

section
variable {D : Nat → Prop} {lab : Nat → Nat × Nat} {w : World} {bm mb : Nat} {tv : Value} {m : Nat → Int} {ts : List CT}

set_option maxRecDepth 100000 in
set_option maxHeartbeats 1000000 in
theorem cStep_halt (h : CMach D lab w bm mb tv m ts) (k : Nat) (hk : k < ts.length) (hs : ts[k].T.st = 0) (p : Nat) (hpl : ts[k].T.pl = p) (hp : p < ts[k].code.length) (hcl : ts[k].code.length ≤ 4000) (x y z : Vl) (d n : Int)
    (hic : dOf (ts[k].code[p]'hp) = ⟨⟨#[104, 97, 108, 116]⟩, d, x, y, z, n⟩) (hx : x.ok) (hy : y.ok) :
    Calls Tryz.prog 49 #[ptr bm, .int .i64 k] w fun e w' => e = .returned (.tuple #[]) ∧ CMach D lab w' bm mb tv m (ts.set k { ts[k] with T := { ts[k].T with pl := (p : Int) + 1, st := 10 } }) ∧ Chg (fun j _ => D j) w w' := by
  have H := hid h
  obtain ⟨tg, tk, rfl, p1, p2, _⟩ := thr_ptr h k hk
  have hc := h.tc
  have hth := h.th k hk
  have c5 := hth.state
  have f5 := hth.free 5 (by omega)
  have c1 := hth.pc
  have f1 := hth.free 1 (by omega)
  have c0 := hth.codec
  have hrow := hth.crow
  obtain ⟨cg, ck, hcv⟩ : ∃ cg ck, ts[k].cv = .slice (some ⟨cg, 0, none⟩) ts[k].code.length ck := by
    rcases hrow.2 with ⟨e1, e2⟩ | ⟨g', cap', cur, e1, _⟩
    · omega
    · exact ⟨g', cap', e1⟩
  rw [hcv] at c0 hrow
  rw [hs] at c5
  rw [hpl] at c1
  have I : ∀ j u, j < 9 → (insCells (ts[k].code[p]'hp))[j]? = some u → w.cell? ⟨cg, p * 9 + j, none⟩ = some u := fun j u hj hu => code_at hrow p hp j hj u hu
  unfold insCells at I
  rw [hic] at I
  have i0 := I 0 _ (by omega) rfl
  have i1 := I 1 _ (by omega) rfl
  have i2 := I 2 _ (by omega) rfl
  have i3 := I 3 _ (by omega) rfl
  have i4 := I 4 _ (by omega) rfl
  have i5 := I 5 _ (by omega) rfl
  have i6 := I 6 _ (by omega) rfl
  have i7 := I 7 _ (by omega) rfl
  have i8 := I 8 _ (by omega) rfl
  have hk0 : ¬ (k : Int) < 0 := by omega
  have hk1 : (k : Int) < (ts.length : Int) := by omega
  have hp1 : (p : Int) < (ts[k].code.length : Int) := by omega
  simp only [Nat.add_zero] at i0 i1 i2 i3 i4 i5 i6 i7 i8
  have hlb := lt_of_shape hth.sh
  have hlc : cg < w.heap.size := World.block_lt_of_cell? _ _ i0
  clear h hth hcv hs hrow I
  generalize hTb : ts[k].b = tb at *
  clear hic
  go_enter Tryz.func49, Tryz.ntmps49
  go_wp2_with fail
  go_region
  all_goals
    go_wp2_with fail
    go_region
    all_goals
      go_wp2_with fail
      generalize hA : World.drew _ = WA
      obtain ⟨r1, r2⟩ := cm_pc H.out k hk ((p : Int) + 1)
      rw [hTb] at r1 r2
      have HM : Hid (CMach D lab WA bm mb (.slice (some ⟨tg, 0, none⟩) ts.length tk) m (ts.set k { ts[k] with T := { ts[k].T with pl := (p : Int) + 1 } })) := hid (by rw [← hA]; simpa [hTb] using ((r1.below ((Below.refl _ _).alloc (Nat.le_refl _) _)).keep (M := fun _ _ => False) (((Chg.refl _ _).drew).drew) (fun _ _ _ e => e)))
      have HC : Hid (Chg (fun j _ => D j) w WA) := hid (by rw [← hA]; exact ((r2.alloc _).drew).drew)
      have hsz : (w.setCell ⟨tb, 1, none⟩ (.int .i64 ((p : Int) + 1))).heap.size = w.heap.size := size_set _ _ _
      have iw : WA.cell? ⟨w.heap.size, 0, none⟩ = some (.string ⟨#[104, 97, 108, 116]⟩) := by rw [← hA, ← hsz]; exact World.cell?_alloc_new _ _ _ 0
      have ib : WA.cell? ⟨w.heap.size, 4, none⟩ = some (.bool y.reg) := by rw [← hA, ← hsz]; exact World.cell?_alloc_new _ _ _ 4
      have ibv : WA.cell? ⟨w.heap.size, 5, none⟩ = some (.int .i64 y.v) := by rw [← hA, ← hsz]; exact World.cell?_alloc_new _ _ _ 5
      have lI : w.heap.size < WA.heap.size := World.block_lt_of_cell? _ _ iw
      clear hA r1 r2 hsz
      have hks : k < (ts.set k { ts[k] with T := { ts[k].T with pl := (p : Int) + 1 } }).length := by simpa using hk
      have hth2 := HM.out.th k hks
      rw [set_get hk] at hth2
      have G1 := cGet_any hth2 x hx
      simp only [hTb] at G1
      refine G1.mono ?_
      rintro e W2 ⟨rfl, b2⟩
      have HM2 := hid (HM.out.below b2)
      have iw2 := (b2.cell (p := ⟨w.heap.size, 0, none⟩) lI).trans iw
      have ib2 := (b2.cell (p := ⟨w.heap.size, 4, none⟩) lI).trans ib
      have ibv2 := (b2.cell (p := ⟨w.heap.size, 5, none⟩) lI).trans ibv
      have lI2 : w.heap.size < W2.heap.size := World.block_lt_of_cell? _ _ iw2
      have HC2 := hid (HC.out.trans (Chg.of_below b2))
      clear b2 iw ib ibv hth2 HM HC G1
      go_wp2_with fail
      have hth3 := HM2.out.th k hks
      rw [set_get hk] at hth3
      have G2 := cGet_any hth3 y hy
      simp only [hTb] at G2
      refine G2.mono ?_
      rintro e W3 ⟨rfl, b3⟩
      have HM3 := hid (HM2.out.below b3)
      have iw3 := (b3.cell (p := ⟨w.heap.size, 0, none⟩) lI2).trans iw2
      have HC3 := hid (HC2.out.trans (Chg.of_below b3))
      have hth4 := HM3.out.th k hks
      rw [set_get hk] at hth4
      have c5' := hth4.state
      have f5' := hth4.free 5 (by omega)
      simp only [hTb] at c5' f5'
      clear b3 hth3 hth4 HM2 HC2 iw2 ib2 ibv2 G2
      go_wp2
      go_end0
      have key := cm_state HM3.out k hks 10
      rw [set_get hk] at key
      simp only [List.set_set] at key
      simp only [hTb] at key
      exact ⟨rfl, by simpa [hTb] using key.1, HC3.out.trans key.2⟩
end
end Go.Proofs.YtfhkfnoajbbfdaaGreatDoor

/- The document's Step: trap, jmp (written by gen-cm16.py). -/
namespace Go.Proofs.YtfhkfnoajbbfdaaGreatDoor
open Go.RowKit

section
variable {D : Nat → Prop} {lab : Nat → Nat × Nat} {w : World} {bm mb : Nat} {tv : Value} {m : Nat → Int} {ts : List CT}

set_option maxRecDepth 100000 in
set_option maxHeartbeats 1000000 in
theorem cStep_trap (h : CMach D lab w bm mb tv m ts) (k : Nat) (hk : k < ts.length) (hs : ts[k].T.st = 0) (p : Nat) (hpl : ts[k].T.pl = p) (hp : p < ts[k].code.length) (hcl : ts[k].code.length ≤ 4000) (x y z : Vl) (d n : Int)
    (hic : dOf (ts[k].code[p]'hp) = ⟨⟨#[116, 114, 97, 112]⟩, d, x, y, z, n⟩) (hx : x.ok) (hy : y.ok) :
    Calls Tryz.prog 49 #[ptr bm, .int .i64 k] w fun e w' => e = .returned (.tuple #[]) ∧ CMach D lab w' bm mb tv m (ts.set k { ts[k] with T := { ts[k].T with pl := (p : Int) + 1, st := n } }) ∧ Chg (fun j _ => D j) w w' := by
  have H := hid h
  obtain ⟨tg, tk, rfl, p1, p2, _⟩ := thr_ptr h k hk
  have hc := h.tc
  have hth := h.th k hk
  have c5 := hth.state
  have f5 := hth.free 5 (by omega)
  have c1 := hth.pc
  have f1 := hth.free 1 (by omega)
  have c0 := hth.codec
  have hrow := hth.crow
  obtain ⟨cg, ck, hcv⟩ : ∃ cg ck, ts[k].cv = .slice (some ⟨cg, 0, none⟩) ts[k].code.length ck := by
    rcases hrow.2 with ⟨e1, e2⟩ | ⟨g', cap', cur, e1, _⟩
    · omega
    · exact ⟨g', cap', e1⟩
  rw [hcv] at c0 hrow
  rw [hs] at c5
  rw [hpl] at c1
  have I : ∀ j u, j < 9 → (insCells (ts[k].code[p]'hp))[j]? = some u → w.cell? ⟨cg, p * 9 + j, none⟩ = some u := fun j u hj hu => code_at hrow p hp j hj u hu
  unfold insCells at I
  rw [hic] at I
  have i0 := I 0 _ (by omega) rfl
  have i1 := I 1 _ (by omega) rfl
  have i2 := I 2 _ (by omega) rfl
  have i3 := I 3 _ (by omega) rfl
  have i4 := I 4 _ (by omega) rfl
  have i5 := I 5 _ (by omega) rfl
  have i6 := I 6 _ (by omega) rfl
  have i7 := I 7 _ (by omega) rfl
  have i8 := I 8 _ (by omega) rfl
  have hk0 : ¬ (k : Int) < 0 := by omega
  have hk1 : (k : Int) < (ts.length : Int) := by omega
  have hp1 : (p : Int) < (ts[k].code.length : Int) := by omega
  simp only [Nat.add_zero] at i0 i1 i2 i3 i4 i5 i6 i7 i8
  have hlb := lt_of_shape hth.sh
  have hlc : cg < w.heap.size := World.block_lt_of_cell? _ _ i0
  clear h hth hcv hs hrow I
  generalize hTb : ts[k].b = tb at *
  clear hic
  go_enter Tryz.func49, Tryz.ntmps49
  go_wp2_with fail
  go_region
  all_goals
    go_wp2_with fail
    go_region
    all_goals
      go_wp2_with fail
      generalize hA : World.drew _ = WA
      obtain ⟨r1, r2⟩ := cm_pc H.out k hk ((p : Int) + 1)
      rw [hTb] at r1 r2
      have HM : Hid (CMach D lab WA bm mb (.slice (some ⟨tg, 0, none⟩) ts.length tk) m (ts.set k { ts[k] with T := { ts[k].T with pl := (p : Int) + 1 } })) := hid (by rw [← hA]; simpa [hTb] using ((r1.below ((Below.refl _ _).alloc (Nat.le_refl _) _)).keep (M := fun _ _ => False) (((Chg.refl _ _).drew).drew) (fun _ _ _ e => e)))
      have HC : Hid (Chg (fun j _ => D j) w WA) := hid (by rw [← hA]; exact ((r2.alloc _).drew).drew)
      have hsz : (w.setCell ⟨tb, 1, none⟩ (.int .i64 ((p : Int) + 1))).heap.size = w.heap.size := size_set _ _ _
      have iw : WA.cell? ⟨w.heap.size, 0, none⟩ = some (.string ⟨#[116, 114, 97, 112]⟩) := by rw [← hA, ← hsz]; exact World.cell?_alloc_new _ _ _ 0
      have ib : WA.cell? ⟨w.heap.size, 4, none⟩ = some (.bool y.reg) := by rw [← hA, ← hsz]; exact World.cell?_alloc_new _ _ _ 4
      have ibv : WA.cell? ⟨w.heap.size, 5, none⟩ = some (.int .i64 y.v) := by rw [← hA, ← hsz]; exact World.cell?_alloc_new _ _ _ 5
      have ik : WA.cell? ⟨w.heap.size, 8, none⟩ = some (.int .i64 n) := by rw [← hA, ← hsz]; exact World.cell?_alloc_new _ _ _ 8
      have lI : w.heap.size < WA.heap.size := World.block_lt_of_cell? _ _ iw
      clear hA r1 r2 hsz
      have hks : k < (ts.set k { ts[k] with T := { ts[k].T with pl := (p : Int) + 1 } }).length := by simpa using hk
      have hth2 := HM.out.th k hks
      rw [set_get hk] at hth2
      have G1 := cGet_any hth2 x hx
      simp only [hTb] at G1
      refine G1.mono ?_
      rintro e W2 ⟨rfl, b2⟩
      have HM2 := hid (HM.out.below b2)
      have iw2 := (b2.cell (p := ⟨w.heap.size, 0, none⟩) lI).trans iw
      have ib2 := (b2.cell (p := ⟨w.heap.size, 4, none⟩) lI).trans ib
      have ibv2 := (b2.cell (p := ⟨w.heap.size, 5, none⟩) lI).trans ibv
      have ik2 := (b2.cell (p := ⟨w.heap.size, 8, none⟩) lI).trans ik
      have lI2 : w.heap.size < W2.heap.size := World.block_lt_of_cell? _ _ iw2
      have HC2 := hid (HC.out.trans (Chg.of_below b2))
      clear b2 iw ib ibv ik hth2 HM HC G1
      go_wp2_with fail
      have hth3 := HM2.out.th k hks
      rw [set_get hk] at hth3
      have G2 := cGet_any hth3 y hy
      simp only [hTb] at G2
      refine G2.mono ?_
      rintro e W3 ⟨rfl, b3⟩
      have HM3 := hid (HM2.out.below b3)
      have iw3 := (b3.cell (p := ⟨w.heap.size, 0, none⟩) lI2).trans iw2
      have ik3 := (b3.cell (p := ⟨w.heap.size, 8, none⟩) lI2).trans ik2
      have HC3 := hid (HC2.out.trans (Chg.of_below b3))
      have hth4 := HM3.out.th k hks
      rw [set_get hk] at hth4
      have c5' := hth4.state
      have f5' := hth4.free 5 (by omega)
      simp only [hTb] at c5' f5'
      clear b3 hth3 hth4 HM2 HC2 iw2 ib2 ibv2 ik2 G2
      go_wp2
      go_end0
      have key := cm_state HM3.out k hks n
      rw [set_get hk] at key
      simp only [List.set_set] at key
      simp only [hTb] at key
      exact ⟨rfl, by simpa [hTb] using key.1, HC3.out.trans key.2⟩

set_option maxRecDepth 100000 in
set_option maxHeartbeats 1000000 in
theorem cStep_jmp (h : CMach D lab w bm mb tv m ts) (k : Nat) (hk : k < ts.length) (hs : ts[k].T.st = 0) (p : Nat) (hpl : ts[k].T.pl = p) (hp : p < ts[k].code.length) (hcl : ts[k].code.length ≤ 4000) (x y z : Vl) (d n : Int)
    (hic : dOf (ts[k].code[p]'hp) = ⟨⟨#[106, 109, 112]⟩, d, x, y, z, n⟩) (hx : x.ok) (hy : y.ok) :
    Calls Tryz.prog 49 #[ptr bm, .int .i64 k] w fun e w' => e = .returned (.tuple #[]) ∧ CMach D lab w' bm mb tv m (ts.set k { ts[k] with T := { ts[k].T with pl := n } }) ∧ Chg (fun j _ => D j) w w' := by
  have H := hid h
  obtain ⟨tg, tk, rfl, p1, p2, _⟩ := thr_ptr h k hk
  have hc := h.tc
  have hth := h.th k hk
  have c5 := hth.state
  have f5 := hth.free 5 (by omega)
  have c1 := hth.pc
  have f1 := hth.free 1 (by omega)
  have c0 := hth.codec
  have hrow := hth.crow
  obtain ⟨cg, ck, hcv⟩ : ∃ cg ck, ts[k].cv = .slice (some ⟨cg, 0, none⟩) ts[k].code.length ck := by
    rcases hrow.2 with ⟨e1, e2⟩ | ⟨g', cap', cur, e1, _⟩
    · omega
    · exact ⟨g', cap', e1⟩
  rw [hcv] at c0 hrow
  rw [hs] at c5
  rw [hpl] at c1
  have I : ∀ j u, j < 9 → (insCells (ts[k].code[p]'hp))[j]? = some u → w.cell? ⟨cg, p * 9 + j, none⟩ = some u := fun j u hj hu => code_at hrow p hp j hj u hu
  unfold insCells at I
  rw [hic] at I
  have i0 := I 0 _ (by omega) rfl
  have i1 := I 1 _ (by omega) rfl
  have i2 := I 2 _ (by omega) rfl
  have i3 := I 3 _ (by omega) rfl
  have i4 := I 4 _ (by omega) rfl
  have i5 := I 5 _ (by omega) rfl
  have i6 := I 6 _ (by omega) rfl
  have i7 := I 7 _ (by omega) rfl
  have i8 := I 8 _ (by omega) rfl
  have hk0 : ¬ (k : Int) < 0 := by omega
  have hk1 : (k : Int) < (ts.length : Int) := by omega
  have hp1 : (p : Int) < (ts[k].code.length : Int) := by omega
  simp only [Nat.add_zero] at i0 i1 i2 i3 i4 i5 i6 i7 i8
  have hlb := lt_of_shape hth.sh
  have hlc : cg < w.heap.size := World.block_lt_of_cell? _ _ i0
  clear h hth hcv hs hrow I
  generalize hTb : ts[k].b = tb at *
  clear hic
  go_enter Tryz.func49, Tryz.ntmps49
  go_wp2_with fail
  go_region
  all_goals
    go_wp2_with fail
    go_region
    all_goals
      go_wp2_with fail
      generalize hA : World.drew _ = WA
      obtain ⟨r1, r2⟩ := cm_pc H.out k hk ((p : Int) + 1)
      rw [hTb] at r1 r2
      have HM : Hid (CMach D lab WA bm mb (.slice (some ⟨tg, 0, none⟩) ts.length tk) m (ts.set k { ts[k] with T := { ts[k].T with pl := (p : Int) + 1 } })) := hid (by rw [← hA]; simpa [hTb] using ((r1.below ((Below.refl _ _).alloc (Nat.le_refl _) _)).keep (M := fun _ _ => False) (((Chg.refl _ _).drew).drew) (fun _ _ _ e => e)))
      have HC : Hid (Chg (fun j _ => D j) w WA) := hid (by rw [← hA]; exact ((r2.alloc _).drew).drew)
      have hsz : (w.setCell ⟨tb, 1, none⟩ (.int .i64 ((p : Int) + 1))).heap.size = w.heap.size := size_set _ _ _
      have iw : WA.cell? ⟨w.heap.size, 0, none⟩ = some (.string ⟨#[106, 109, 112]⟩) := by rw [← hA, ← hsz]; exact World.cell?_alloc_new _ _ _ 0
      have ib : WA.cell? ⟨w.heap.size, 4, none⟩ = some (.bool y.reg) := by rw [← hA, ← hsz]; exact World.cell?_alloc_new _ _ _ 4
      have ibv : WA.cell? ⟨w.heap.size, 5, none⟩ = some (.int .i64 y.v) := by rw [← hA, ← hsz]; exact World.cell?_alloc_new _ _ _ 5
      have ik : WA.cell? ⟨w.heap.size, 8, none⟩ = some (.int .i64 n) := by rw [← hA, ← hsz]; exact World.cell?_alloc_new _ _ _ 8
      have lI : w.heap.size < WA.heap.size := World.block_lt_of_cell? _ _ iw
      clear hA r1 r2 hsz
      have hks : k < (ts.set k { ts[k] with T := { ts[k].T with pl := (p : Int) + 1 } }).length := by simpa using hk
      have hth2 := HM.out.th k hks
      rw [set_get hk] at hth2
      have G1 := cGet_any hth2 x hx
      simp only [hTb] at G1
      refine G1.mono ?_
      rintro e W2 ⟨rfl, b2⟩
      have HM2 := hid (HM.out.below b2)
      have iw2 := (b2.cell (p := ⟨w.heap.size, 0, none⟩) lI).trans iw
      have ib2 := (b2.cell (p := ⟨w.heap.size, 4, none⟩) lI).trans ib
      have ibv2 := (b2.cell (p := ⟨w.heap.size, 5, none⟩) lI).trans ibv
      have ik2 := (b2.cell (p := ⟨w.heap.size, 8, none⟩) lI).trans ik
      have lI2 : w.heap.size < W2.heap.size := World.block_lt_of_cell? _ _ iw2
      have HC2 := hid (HC.out.trans (Chg.of_below b2))
      clear b2 iw ib ibv ik hth2 HM HC G1
      go_wp2_with fail
      have hth3 := HM2.out.th k hks
      rw [set_get hk] at hth3
      have G2 := cGet_any hth3 y hy
      simp only [hTb] at G2
      refine G2.mono ?_
      rintro e W3 ⟨rfl, b3⟩
      have HM3 := hid (HM2.out.below b3)
      have iw3 := (b3.cell (p := ⟨w.heap.size, 0, none⟩) lI2).trans iw2
      have ik3 := (b3.cell (p := ⟨w.heap.size, 8, none⟩) lI2).trans ik2
      have HC3 := hid (HC2.out.trans (Chg.of_below b3))
      have hth4 := HM3.out.th k hks
      rw [set_get hk] at hth4
      have c5' := hth4.pc
      have f5' := hth4.free 1 (by omega)
      simp only [hTb] at c5' f5'
      clear b3 hth3 hth4 HM2 HC2 iw2 ib2 ibv2 ik2 G2
      go_wp2
      go_end0
      have key := cm_pc HM3.out k hks n
      rw [set_get hk] at key
      simp only [List.set_set] at key
      simp only [hTb] at key
      exact ⟨rfl, by simpa [hTb] using key.1, HC3.out.trans key.2⟩
end
end Go.Proofs.YtfhkfnoajbbfdaaGreatDoor
