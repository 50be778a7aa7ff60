import Derived.Test.YtfhkfnoajbbfdaaGreatDoorPart44
/- The document's Step: mov, out, fence (written by gen-cm18.py). -/
namespace Go.Proofs.YtfhkfnoajbbfdaaGreatDoor
open Go.RowKit

section
variable {D : Nat → Prop} {lab : Nat → Nat × Nat} {w : World} {bm mb : Nat} {tv : Value} {m : Nat → Int} {ts : List CT}

set_option maxRecDepth 100000 in
set_option maxHeartbeats 1000000 in
theorem cStep_mov (h : CMach D lab w bm mb tv m ts) (k : Nat) (hk : k < ts.length) (hs : ts[k].T.st = 0) (p : Nat) (hpl : ts[k].T.pl = p) (hp : p < ts[k].code.length) (hcl : ts[k].code.length ≤ 4000) (x y z : Vl) (d : Nat) (hd : d < 8) (n : Int)
    (hic : dOf (ts[k].code[p]'hp) = ⟨⟨#[109, 111, 118]⟩, d, x, y, z, n⟩) (hx : x.ok) (hy : y.ok) :
    Calls Tryz.prog 49 #[ptr bm, .int .i64 k] w fun e w' => e = .returned (.tuple #[]) ∧ CMach D lab w' bm mb tv m (ts.set k { ts[k] with T := { ts[k].T with pl := (p : Int) + 1 }.setR d (x.of ts[k].T) }) ∧ Chg (fun j _ => D j) w w' := by
  have H := hid h
  obtain ⟨tg, tk, rfl, p1, p2, _⟩ := thr_ptr h k hk
  have hc := h.tc
  have hth := h.th k hk
  have c5 := hth.state
  have f5 := hth.free 5 (by omega)
  have c1 := hth.pc
  have f1 := hth.free 1 (by omega)
  have c0 := hth.codec
  have hrow := hth.crow
  obtain ⟨cg, ck, hcv⟩ : ∃ cg ck, ts[k].cv = .slice (some ⟨cg, 0, none⟩) ts[k].code.length ck := by
    rcases hrow.2 with ⟨e1, e2⟩ | ⟨g', cap', cur, e1, _⟩
    · omega
    · exact ⟨g', cap', e1⟩
  rw [hcv] at c0 hrow
  rw [hs] at c5
  rw [hpl] at c1
  have I : ∀ j u, j < 9 → (insCells (ts[k].code[p]'hp))[j]? = some u → w.cell? ⟨cg, p * 9 + j, none⟩ = some u := fun j u hj hu => code_at hrow p hp j hj u hu
  unfold insCells at I
  rw [hic] at I
  have i0 := I 0 _ (by omega) rfl
  have i1 := I 1 _ (by omega) rfl
  have i2 := I 2 _ (by omega) rfl
  have i3 := I 3 _ (by omega) rfl
  have i4 := I 4 _ (by omega) rfl
  have i5 := I 5 _ (by omega) rfl
  have i6 := I 6 _ (by omega) rfl
  have i7 := I 7 _ (by omega) rfl
  have i8 := I 8 _ (by omega) rfl
  have hk0 : ¬ (k : Int) < 0 := by omega
  have hk1 : (k : Int) < (ts.length : Int) := by omega
  have hp1 : (p : Int) < (ts[k].code.length : Int) := by omega
  simp only [Nat.add_zero] at i0 i1 i2 i3 i4 i5 i6 i7 i8
  have hlb := lt_of_shape hth.sh
  have hlc : cg < w.heap.size := World.block_lt_of_cell? _ _ i0
  clear h hth hcv hs hrow I
  generalize hTb : ts[k].b = tb at *
  clear hic
  go_enter Tryz.func49, Tryz.ntmps49
  go_wp2_with fail
  go_region
  all_goals
    go_wp2_with fail
    go_region
    all_goals
      go_wp2_with fail
      generalize hA : World.drew _ = WA
      obtain ⟨r1, r2⟩ := cm_pc H.out k hk ((p : Int) + 1)
      rw [hTb] at r1 r2
      have HM : Hid (CMach D lab WA bm mb (.slice (some ⟨tg, 0, none⟩) ts.length tk) m (ts.set k { ts[k] with T := { ts[k].T with pl := (p : Int) + 1 } })) := hid (by rw [← hA]; simpa [hTb] using ((r1.below ((Below.refl _ _).alloc (Nat.le_refl _) _)).keep (M := fun _ _ => False) (((Chg.refl _ _).drew).drew) (fun _ _ _ e => e)))
      have HC : Hid (Chg (fun j _ => D j) w WA) := hid (by rw [← hA]; exact ((r2.alloc _).drew).drew)
      have hsz : (w.setCell ⟨tb, 1, none⟩ (.int .i64 ((p : Int) + 1))).heap.size = w.heap.size := size_set _ _ _
      have q0 : WA.cell? ⟨w.heap.size, 0, none⟩ = some (.string ⟨#[109, 111, 118]⟩) := by rw [← hA, ← hsz]; exact World.cell?_alloc_new _ _ _ 0
      have q1 : WA.cell? ⟨w.heap.size, 1, none⟩ = some (.int .i64 d) := by rw [← hA, ← hsz]; exact World.cell?_alloc_new _ _ _ 1
      have q4 : WA.cell? ⟨w.heap.size, 4, none⟩ = some (.bool y.reg) := by rw [← hA, ← hsz]; exact World.cell?_alloc_new _ _ _ 4
      have q5 : WA.cell? ⟨w.heap.size, 5, none⟩ = some (.int .i64 y.v) := by rw [← hA, ← hsz]; exact World.cell?_alloc_new _ _ _ 5
      have lI : w.heap.size < WA.heap.size := World.block_lt_of_cell? _ _ q0
      clear hA r1 r2 hsz
      have hks : k < (ts.set k { ts[k] with T := { ts[k].T with pl := (p : Int) + 1 } }).length := by simpa using hk
      have hth2 := HM.out.th k hks
      rw [set_get hk] at hth2
      have G1 := cGet_any hth2 x hx
      simp only [hTb] at G1
      have hxx : x.of { ts[k].T with pl := (p : Int) + 1 } = x.of ts[k].T := rfl
      rw [hxx] at G1
      generalize hav : x.of ts[k].T = av at *
      refine G1.mono ?_
      rintro e W2 ⟨rfl, b2⟩
      have HM2 := hid (HM.out.below b2)
      have r0 := (b2.cell (p := ⟨w.heap.size, 0, none⟩) lI).trans q0
      have r1 := (b2.cell (p := ⟨w.heap.size, 1, none⟩) lI).trans q1
      have r4 := (b2.cell (p := ⟨w.heap.size, 4, none⟩) lI).trans q4
      have r5 := (b2.cell (p := ⟨w.heap.size, 5, none⟩) lI).trans q5
      have lI2 : w.heap.size < W2.heap.size := World.block_lt_of_cell? _ _ r0
      have HC2 := hid (HC.out.trans (Chg.of_below b2))
      clear b2 q0 q1 q4 q5 hth2 HM HC G1
      go_wp2_with fail
      have hth3 := HM2.out.th k hks
      rw [set_get hk] at hth3
      have G2 := cGet_any hth3 y hy
      simp only [hTb] at G2
      have hyy : y.of { ts[k].T with pl := (p : Int) + 1 } = y.of ts[k].T := rfl
      rw [hyy] at G2
      generalize hbv : y.of ts[k].T = bv at *
      refine G2.mono ?_
      rintro e W3 ⟨rfl, b3⟩
      have HM3 := hid (HM2.out.below b3)
      have s0 := (b3.cell (p := ⟨w.heap.size, 0, none⟩) lI2).trans r0
      have s1 := (b3.cell (p := ⟨w.heap.size, 1, none⟩) lI2).trans r1
      have lI3 : w.heap.size < W3.heap.size := World.block_lt_of_cell? _ _ s0
      have HC3 := hid (HC2.out.trans (Chg.of_below b3))
      have hth4 := HM3.out.th k hks
      rw [set_get hk] at hth4
      have cr := hth4.regs
      have crd := hth4.rcell d hd
      have frd := hth4.rfree d hd
      simp only [hTb] at cr
      have hd1 : (d : Int) < 8 := by omega
      clear b3 hth3 hth4 HM2 HC2 r0 r1 r4 r5 G2
      generalize hRb : ts[k].rb = rb at *
      go_wp2_with fail
      go_region
      all_goals
        go_wp2
        go_end0
        subst hRb
        subst hav
        have key := cm_reg HM3.out k hks d hd (x.of ts[k].T)
        rw [set_get hk] at key
        simp only [List.set_set] at key
        exact ⟨rfl, by simpa [hTb] using key.1.keep (M := fun _ _ => False) ((Chg.refl _ _).drew) (fun _ _ _ e => e), (HC3.out.trans key.2).drew⟩

set_option maxRecDepth 100000 in
set_option maxHeartbeats 1000000 in
theorem cStep_out (h : CMach D lab w bm mb tv m ts) (hD : ∀ k, w.heap.size ≤ k → D k) (k : Nat) (hk : k < ts.length) (hs : ts[k].T.st = 0) (p : Nat) (hpl : ts[k].T.pl = p) (hp : p < ts[k].code.length) (hcl : ts[k].code.length ≤ 4000) (x y z : Vl) (d n : Int)
    (hic : dOf (ts[k].code[p]'hp) = ⟨⟨#[111, 117, 116]⟩, d, x, y, z, n⟩) (hx : x.ok) (hy : y.ok) (hol : ts[k].T.out.length < 1099511627776) :
    Calls Tryz.prog 49 #[ptr bm, .int .i64 k] w fun e w' => e = .returned (.tuple #[]) ∧ (∃ lab' ov', CMach D lab' w' bm mb tv m (ts.set k { ts[k] with ov := ov', T := { ts[k].T with pl := (p : Int) + 1, out := ts[k].T.out ++ [x.of ts[k].T] } })) ∧ Chg (fun j _ => D j) w w' := by
  have H := hid h
  obtain ⟨ii0, hi, hz0, hz1, hz2⟩ := info_parts infoInt64
  have hl1 : ts[k].T.out.length + 1 ≤ maxLen := by unfold maxLen; omega
  have hl2 : (ts[k].T.out.length + 1) * 8 ≤ 140737488355328 := by omega
  obtain ⟨tg, tk, rfl, p1, p2, _⟩ := thr_ptr h k hk
  have hc := h.tc
  have hth := h.th k hk
  have c5 := hth.state
  have f5 := hth.free 5 (by omega)
  have c1 := hth.pc
  have f1 := hth.free 1 (by omega)
  have c0 := hth.codec
  have hrow := hth.crow
  obtain ⟨cg, ck, hcv⟩ : ∃ cg ck, ts[k].cv = .slice (some ⟨cg, 0, none⟩) ts[k].code.length ck := by
    rcases hrow.2 with ⟨e1, e2⟩ | ⟨g', cap', cur, e1, _⟩
    · omega
    · exact ⟨g', cap', e1⟩
  rw [hcv] at c0 hrow
  rw [hs] at c5
  rw [hpl] at c1
  have I : ∀ j u, j < 9 → (insCells (ts[k].code[p]'hp))[j]? = some u → w.cell? ⟨cg, p * 9 + j, none⟩ = some u := fun j u hj hu => code_at hrow p hp j hj u hu
  unfold insCells at I
  rw [hic] at I
  have i0 := I 0 _ (by omega) rfl
  have i1 := I 1 _ (by omega) rfl
  have i2 := I 2 _ (by omega) rfl
  have i3 := I 3 _ (by omega) rfl
  have i4 := I 4 _ (by omega) rfl
  have i5 := I 5 _ (by omega) rfl
  have i6 := I 6 _ (by omega) rfl
  have i7 := I 7 _ (by omega) rfl
  have i8 := I 8 _ (by omega) rfl
  have hk0 : ¬ (k : Int) < 0 := by omega
  have hk1 : (k : Int) < (ts.length : Int) := by omega
  have hp1 : (p : Int) < (ts[k].code.length : Int) := by omega
  simp only [Nat.add_zero] at i0 i1 i2 i3 i4 i5 i6 i7 i8
  have hlb := lt_of_shape hth.sh
  have hlc : cg < w.heap.size := World.block_lt_of_cell? _ _ i0
  clear h hth hcv hs hrow I
  generalize hTb : ts[k].b = tb at *
  clear hic
  go_enter Tryz.func49, Tryz.ntmps49
  go_wp2_with fail
  go_region
  all_goals
    go_wp2_with fail
    go_region
    all_goals
      go_wp2_with fail
      generalize hA : World.drew _ = WA
      obtain ⟨r1, r2⟩ := cm_pc H.out k hk ((p : Int) + 1)
      rw [hTb] at r1 r2
      have HM : Hid (CMach D lab WA bm mb (.slice (some ⟨tg, 0, none⟩) ts.length tk) m (ts.set k { ts[k] with T := { ts[k].T with pl := (p : Int) + 1 } })) := hid (by rw [← hA]; simpa [hTb] using ((r1.below ((Below.refl _ _).alloc (Nat.le_refl _) _)).keep (M := fun _ _ => False) (((Chg.refl _ _).drew).drew) (fun _ _ _ e => e)))
      have HC : Hid (Chg (fun j _ => D j) w WA) := hid (by rw [← hA]; exact ((r2.alloc _).drew).drew)
      have hsz : (w.setCell ⟨tb, 1, none⟩ (.int .i64 ((p : Int) + 1))).heap.size = w.heap.size := size_set _ _ _
      have q0 : WA.cell? ⟨w.heap.size, 0, none⟩ = some (.string ⟨#[111, 117, 116]⟩) := by rw [← hA, ← hsz]; exact World.cell?_alloc_new _ _ _ 0
      have q4 : WA.cell? ⟨w.heap.size, 4, none⟩ = some (.bool y.reg) := by rw [← hA, ← hsz]; exact World.cell?_alloc_new _ _ _ 4
      have q5 : WA.cell? ⟨w.heap.size, 5, none⟩ = some (.int .i64 y.v) := by rw [← hA, ← hsz]; exact World.cell?_alloc_new _ _ _ 5
      have lI : w.heap.size < WA.heap.size := World.block_lt_of_cell? _ _ q0
      clear hA r1 r2 hsz
      have hks : k < (ts.set k { ts[k] with T := { ts[k].T with pl := (p : Int) + 1 } }).length := by simpa using hk
      have hth2 := HM.out.th k hks
      rw [set_get hk] at hth2
      have G1 := cGet_any hth2 x hx
      simp only [hTb] at G1
      have hxx : x.of { ts[k].T with pl := (p : Int) + 1 } = x.of ts[k].T := rfl
      rw [hxx] at G1
      generalize hav : x.of ts[k].T = av at *
      refine G1.mono ?_
      rintro e W2 ⟨rfl, b2⟩
      have HM2 := hid (HM.out.below b2)
      have r0 := (b2.cell (p := ⟨w.heap.size, 0, none⟩) lI).trans q0
      have r4 := (b2.cell (p := ⟨w.heap.size, 4, none⟩) lI).trans q4
      have r5 := (b2.cell (p := ⟨w.heap.size, 5, none⟩) lI).trans q5
      have lI2 : w.heap.size < W2.heap.size := World.block_lt_of_cell? _ _ r0
      have HC2 := hid (HC.out.trans (Chg.of_below b2))
      clear b2 q0 q4 q5 hth2 HM HC G1
      go_wp2_with fail
      have hth3 := HM2.out.th k hks
      rw [set_get hk] at hth3
      have G2 := cGet_any hth3 y hy
      simp only [hTb] at G2
      have hyy : y.of { ts[k].T with pl := (p : Int) + 1 } = y.of ts[k].T := rfl
      rw [hyy] at G2
      generalize hbv : y.of ts[k].T = bv at *
      refine G2.mono ?_
      rintro e W3 ⟨rfl, b3⟩
      have HM3 := hid (HM2.out.below b3)
      have s0 := (b3.cell (p := ⟨w.heap.size, 0, none⟩) lI2).trans r0
      have lI3 : w.heap.size < W3.heap.size := World.block_lt_of_cell? _ _ s0
      have HC3 := hid (HC2.out.trans (Chg.of_below b3))
      have hth4 := HM3.out.th k hks
      rw [set_get hk] at hth4
      have c4 := hth4.outc
      have f4 := hth4.free 4 (by omega)
      have lb3 := lt_of_shape hth4.sh
      obtain ⟨oa, ok, hov⟩ := row_slice hth4.orow
      have horow := hth4.orow
      have hlts := HM3.out.lts k hks
      rw [set_get hk] at hlts
      simp only [hTb] at c4 f4 lb3
      simp only at c4 hov horow
      have hne : ¬ ts[k].ov.ownBlock = some tb := by rw [← hTb]; exact own_ne hlts.ov hlts.b.1 (by simp)
      have HOV := hid hov
      rw [hov] at c4 horow hne
      have HO1 := hid horow
      have HCB : Hid (∀ w4, Chg (fun j _ => (Value.slice oa ts[k].T.out.length ok).ownBlock = some j) (W3.alloc (.cells #[.int .i64 av] 2)) w4 → w4.cell? ⟨tb, 4, none⟩ = some (.slice oa ts[k].T.out.length ok)) := hid (fun w4 hch => (hch.cell tb 4 (by simp; omega) hne).trans ((World.cell?_alloc_past _ _ _ lb3).trans c4))
      have HFB : Hid (∀ w4, Chg (fun j _ => (Value.slice oa ts[k].T.out.length ok).ownBlock = some j) (W3.alloc (.cells #[.int .i64 av] 2)) w4 → w4.frozen? ⟨tb, 4, none⟩ = false) := hid (fun w4 hch => (hch.frozen tb 4 (by simp; omega)).trans ((World.frozen?_alloc_past _ _ _ lb3).trans f4))
      clear b3 hth3 hth4 HM2 HC2 r0 r4 r5 G2
      clear hlts hne hov horow
      go_wp2_with (at_builtin; refine wpList_app1 rfl _ _ 34 rfl 2 ii0 (.int .i64 0) 8 Tryz.underlying34 hi hz0 hz1 hz2 rfl (.slice oa ts[k].T.out.length ok) ts[k].T.out.length _ rfl (HO1.out.alloc _) ⟨W3.heap.size, 0, none⟩ (.int .i64 av) rfl (cell_one_new _ _ _) rfl hl1 hl2 ?_; go_must (intro g cap w4 hown1 hch hg; have hcb := HCB.out w4 hch; have hfb := HFB.out w4 hch; have HO := hid hown1; have HC := hid hch; have HG := hid hg; clear hown1 hch hg))
      go_end0
      subst hav
      have hal : CMach D lab (W3.alloc (.cells #[.int .i64 (x.of ts[k].T)] 2)) bm mb _ m _ := HM3.out.below ((Below.refl _ W3).alloc (Nat.le_refl _) _)
      rw [← HOV.out] at HC HG
      have key := cm_out hal (fun j hj => hD j (by simp at hj; omega)) k hks (x.of ts[k].T) (w3 := w4) (g := g) (cp := cap)
      rw [set_get hk] at key
      simp only [List.set_set, hTb] at key
      obtain ⟨lab', r1, r2⟩ := key HO.out HC.out HG.out
      exact ⟨rfl, ⟨lab', _, by simpa [hTb] using r1⟩, (HC3.out.trans ((Chg.refl (fun j _ => D j) W3).alloc _)).trans r2⟩

set_option maxRecDepth 100000 in
set_option maxHeartbeats 1000000 in
theorem cStep_fence (h : CMach D lab w bm mb tv m ts) (hD : ∀ k, w.heap.size ≤ k → D k) (k : Nat) (hk : k < ts.length) (hs : ts[k].T.st = 0) (p : Nat) (hpl : ts[k].T.pl = p) (hp : p < ts[k].code.length) (hcl : ts[k].code.length ≤ 4000) (x y z : Vl) (d n : Int)
    (hic : dOf (ts[k].code[p]'hp) = ⟨⟨#[102, 101, 110, 99, 101]⟩, d, x, y, z, n⟩) (hx : x.ok) (hy : y.ok) (hql : ts[k].T.q.length < 1000) (hadr : ∀ p ∈ ts[k].T.q, 0 ≤ p.1 ∧ p.1 < 256) :
    Calls Tryz.prog 49 #[ptr bm, .int .i64 k] w fun e w' => e = .returned (.tuple #[]) ∧ (∃ lab' wv', CMach D lab' w' bm mb tv (drainM m ts[k].T.q) (ts.set k { ts[k] with wv := wv', T := { ts[k].T with pl := (p : Int) + 1, q := [] } })) ∧ Chg (fun j _ => D j) w w' := by
  have H := hid h
  obtain ⟨tg, tk, rfl, p1, p2, _⟩ := thr_ptr h k hk
  have hc := h.tc
  have hth := h.th k hk
  have c5 := hth.state
  have f5 := hth.free 5 (by omega)
  have c1 := hth.pc
  have f1 := hth.free 1 (by omega)
  have c0 := hth.codec
  have hrow := hth.crow
  obtain ⟨cg, ck, hcv⟩ : ∃ cg ck, ts[k].cv = .slice (some ⟨cg, 0, none⟩) ts[k].code.length ck := by
    rcases hrow.2 with ⟨e1, e2⟩ | ⟨g', cap', cur, e1, _⟩
    · omega
    · exact ⟨g', cap', e1⟩
  rw [hcv] at c0 hrow
  rw [hs] at c5
  rw [hpl] at c1
  have I : ∀ j u, j < 9 → (insCells (ts[k].code[p]'hp))[j]? = some u → w.cell? ⟨cg, p * 9 + j, none⟩ = some u := fun j u hj hu => code_at hrow p hp j hj u hu
  unfold insCells at I
  rw [hic] at I
  have i0 := I 0 _ (by omega) rfl
  have i1 := I 1 _ (by omega) rfl
  have i2 := I 2 _ (by omega) rfl
  have i3 := I 3 _ (by omega) rfl
  have i4 := I 4 _ (by omega) rfl
  have i5 := I 5 _ (by omega) rfl
  have i6 := I 6 _ (by omega) rfl
  have i7 := I 7 _ (by omega) rfl
  have i8 := I 8 _ (by omega) rfl
  have hk0 : ¬ (k : Int) < 0 := by omega
  have hk1 : (k : Int) < (ts.length : Int) := by omega
  have hp1 : (p : Int) < (ts[k].code.length : Int) := by omega
  simp only [Nat.add_zero] at i0 i1 i2 i3 i4 i5 i6 i7 i8
  have hlb := lt_of_shape hth.sh
  have hlc : cg < w.heap.size := World.block_lt_of_cell? _ _ i0
  clear h hth hcv hs hrow I
  generalize hTb : ts[k].b = tb at *
  clear hic
  go_enter Tryz.func49, Tryz.ntmps49
  go_wp2_with fail
  go_region
  all_goals
    go_wp2_with fail
    go_region
    all_goals
      go_wp2_with fail
      generalize hA : World.drew _ = WA
      obtain ⟨r1, r2⟩ := cm_pc H.out k hk ((p : Int) + 1)
      rw [hTb] at r1 r2
      have HM : Hid (CMach D lab WA bm mb (.slice (some ⟨tg, 0, none⟩) ts.length tk) m (ts.set k { ts[k] with T := { ts[k].T with pl := (p : Int) + 1 } })) := hid (by rw [← hA]; simpa [hTb] using ((r1.below ((Below.refl _ _).alloc (Nat.le_refl _) _)).keep (M := fun _ _ => False) (((Chg.refl _ _).drew).drew) (fun _ _ _ e => e)))
      have HC : Hid (Chg (fun j _ => D j) w WA) := hid (by rw [← hA]; exact ((r2.alloc _).drew).drew)
      have hsz : (w.setCell ⟨tb, 1, none⟩ (.int .i64 ((p : Int) + 1))).heap.size = w.heap.size := size_set _ _ _
      have q0 : WA.cell? ⟨w.heap.size, 0, none⟩ = some (.string ⟨#[102, 101, 110, 99, 101]⟩) := by rw [← hA, ← hsz]; exact World.cell?_alloc_new _ _ _ 0
      have q4 : WA.cell? ⟨w.heap.size, 4, none⟩ = some (.bool y.reg) := by rw [← hA, ← hsz]; exact World.cell?_alloc_new _ _ _ 4
      have q5 : WA.cell? ⟨w.heap.size, 5, none⟩ = some (.int .i64 y.v) := by rw [← hA, ← hsz]; exact World.cell?_alloc_new _ _ _ 5
      have lI : w.heap.size < WA.heap.size := World.block_lt_of_cell? _ _ q0
      clear hA r1 r2 hsz
      have hks : k < (ts.set k { ts[k] with T := { ts[k].T with pl := (p : Int) + 1 } }).length := by simpa using hk
      have hth2 := HM.out.th k hks
      rw [set_get hk] at hth2
      have G1 := cGet_any hth2 x hx
      simp only [hTb] at G1
      have hxx : x.of { ts[k].T with pl := (p : Int) + 1 } = x.of ts[k].T := rfl
      rw [hxx] at G1
      generalize hav : x.of ts[k].T = av at *
      refine G1.mono ?_
      rintro e W2 ⟨rfl, b2⟩
      have HM2 := hid (HM.out.below b2)
      have r0 := (b2.cell (p := ⟨w.heap.size, 0, none⟩) lI).trans q0
      have r4 := (b2.cell (p := ⟨w.heap.size, 4, none⟩) lI).trans q4
      have r5 := (b2.cell (p := ⟨w.heap.size, 5, none⟩) lI).trans q5
      have lI2 : w.heap.size < W2.heap.size := World.block_lt_of_cell? _ _ r0
      have HC2 := hid (HC.out.trans (Chg.of_below b2))
      clear b2 q0 q4 q5 hth2 HM HC G1
      go_wp2_with fail
      have hth3 := HM2.out.th k hks
      rw [set_get hk] at hth3
      have G2 := cGet_any hth3 y hy
      simp only [hTb] at G2
      have hyy : y.of { ts[k].T with pl := (p : Int) + 1 } = y.of ts[k].T := rfl
      rw [hyy] at G2
      generalize hbv : y.of ts[k].T = bv at *
      refine G2.mono ?_
      rintro e W3 ⟨rfl, b3⟩
      have HM3 := hid (HM2.out.below b3)
      have s0 := (b3.cell (p := ⟨w.heap.size, 0, none⟩) lI2).trans r0
      have lI3 : w.heap.size < W3.heap.size := World.block_lt_of_cell? _ _ s0
      have HC3 := hid (HC2.out.trans (Chg.of_below b3))
      have hth4 := HM3.out.th k hks
      rw [set_get hk] at hth4
      have hD3 : ∀ j, W3.heap.size ≤ j → D j := fun j hj => hD j (by omega)
      have HDR := cDrain_any HM3.out hD3 k hks (by rw [set_get hk]; exact hadr) (by rw [set_get hk]; exact hql)
      rw [set_get hk] at HDR
      simp only [List.set_set] at HDR
      have HDR' := hid HDR
      clear HDR hD3
      clear b3 hth3 hth4 HM2 HC2 r0 r4 r5 G2
      go_wp2_with fail
      refine HDR'.out.mono ?_
      rintro e W4 ⟨rfl, ⟨lab4, wv4, r4⟩, c4⟩
      go_wp2
      go_end0
      have cD : Chg (fun j _ => D j) W3 W4 := c4.mono (fun j i _ e => e.elim (fun e => e ▸ H.out.lm.2) (fun e => e ▸ (H.out.lts k hk).b.2))
      exact ⟨rfl, ⟨lab4, wv4, by simpa using r4⟩, HC3.out.trans cD⟩
end
end Go.Proofs.YtfhkfnoajbbfdaaGreatDoor
