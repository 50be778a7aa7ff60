import Derived.Test.YtfhkfnoajbbfdaaGreatDoorPart44
/- The document's Step: instructions that speak of a cell (written by gen-cm18.py). -/
namespace Go.Proofs.YtfhkfnoajbbfdaaGreatDoor
open Go.RowKit

section
variable {D : Nat → Prop} {lab : Nat → Nat × Nat} {w : World} {bm mb : Nat} {tv : Value} {m : Nat → Int} {ts : List CT}

set_option maxRecDepth 100000 in
set_option maxHeartbeats 1000000 in
theorem cStep_mem_load (h : CMach D lab w bm mb tv m ts) (k : Nat) (hk : k < ts.length) (hs : ts[k].T.st = 0) (p : Nat) (hpl : ts[k].T.pl = p) (hp : p < ts[k].code.length) (hcl : ts[k].code.length ≤ 4000) (x y z : Vl) (d n : Int)
    (hic : dOf (ts[k].code[p]'hp) = ⟨⟨#[108, 111, 97, 100]⟩, d, x, y, z, n⟩) (hx : x.ok) (hy : y.ok) (R : World → Prop) (hmem : Hid (∀ W, w.heap.size ≤ W.heap.size → CMach D lab W bm mb tv m (ts.set k { ts[k] with T := { ts[k].T with pl := (p : Int) + 1 } }) → Calls Tryz.prog 73 #[ptr bm, .int .i64 k, insAgg ⟨#[108, 111, 97, 100]⟩ d x y z n, .int .i64 (wrap64 (x.of ts[k].T + n)), .int .i64 (y.of ts[k].T)] W fun e w' => e = .returned (.tuple #[]) ∧ R w' ∧ Chg (fun j _ => D j) W w')) :
    Calls Tryz.prog 49 #[ptr bm, .int .i64 k] w fun e w' => e = .returned (.tuple #[]) ∧ R w' ∧ Chg (fun j _ => D j) w w' := by
  have H := hid h
  obtain ⟨tg, tk, rfl, p1, p2, _⟩ := thr_ptr h k hk
  have hc := h.tc
  have hth := h.th k hk
  have c5 := hth.state
  have f5 := hth.free 5 (by omega)
  have c1 := hth.pc
  have f1 := hth.free 1 (by omega)
  have c0 := hth.codec
  have hrow := hth.crow
  obtain ⟨cg, ck, hcv⟩ : ∃ cg ck, ts[k].cv = .slice (some ⟨cg, 0, none⟩) ts[k].code.length ck := by
    rcases hrow.2 with ⟨e1, e2⟩ | ⟨g', cap', cur, e1, _⟩
    · omega
    · exact ⟨g', cap', e1⟩
  rw [hcv] at c0 hrow
  rw [hs] at c5
  rw [hpl] at c1
  have I : ∀ j u, j < 9 → (insCells (ts[k].code[p]'hp))[j]? = some u → w.cell? ⟨cg, p * 9 + j, none⟩ = some u := fun j u hj hu => code_at hrow p hp j hj u hu
  unfold insCells at I
  rw [hic] at I
  have i0 := I 0 _ (by omega) rfl
  have i1 := I 1 _ (by omega) rfl
  have i2 := I 2 _ (by omega) rfl
  have i3 := I 3 _ (by omega) rfl
  have i4 := I 4 _ (by omega) rfl
  have i5 := I 5 _ (by omega) rfl
  have i6 := I 6 _ (by omega) rfl
  have i7 := I 7 _ (by omega) rfl
  have i8 := I 8 _ (by omega) rfl
  have hk0 : ¬ (k : Int) < 0 := by omega
  have hk1 : (k : Int) < (ts.length : Int) := by omega
  have hp1 : (p : Int) < (ts[k].code.length : Int) := by omega
  simp only [Nat.add_zero] at i0 i1 i2 i3 i4 i5 i6 i7 i8
  have hlb := lt_of_shape hth.sh
  have hlc : cg < w.heap.size := World.block_lt_of_cell? _ _ i0
  clear h hth hcv hs hrow I
  generalize hTb : ts[k].b = tb at *
  clear hic
  go_enter Tryz.func49, Tryz.ntmps49
  go_wp2_with fail
  go_region
  all_goals
    go_wp2_with fail
    go_region
    all_goals
      go_wp2_with fail
      generalize hA : World.drew _ = WA
      obtain ⟨r1, r2⟩ := cm_pc H.out k hk ((p : Int) + 1)
      rw [hTb] at r1 r2
      have HM : Hid (CMach D lab WA bm mb (.slice (some ⟨tg, 0, none⟩) ts.length tk) m (ts.set k { ts[k] with T := { ts[k].T with pl := (p : Int) + 1 } })) := hid (by rw [← hA]; simpa [hTb] using ((r1.below ((Below.refl _ _).alloc (Nat.le_refl _) _)).keep (M := fun _ _ => False) (((Chg.refl _ _).drew).drew) (fun _ _ _ e => e)))
      have HC : Hid (Chg (fun j _ => D j) w WA) := hid (by rw [← hA]; exact ((r2.alloc _).drew).drew)
      have hsz : (w.setCell ⟨tb, 1, none⟩ (.int .i64 ((p : Int) + 1))).heap.size = w.heap.size := size_set _ _ _
      have q0 : WA.cell? ⟨w.heap.size, 0, none⟩ = some (.string ⟨#[108, 111, 97, 100]⟩) := by rw [← hA, ← hsz]; exact World.cell?_alloc_new _ _ _ 0
      have q1 : WA.cell? ⟨w.heap.size, 1, none⟩ = some (.int .i64 d) := by rw [← hA, ← hsz]; exact World.cell?_alloc_new _ _ _ 1
      have q2 : WA.cell? ⟨w.heap.size, 2, none⟩ = some (.bool x.reg) := by rw [← hA, ← hsz]; exact World.cell?_alloc_new _ _ _ 2
      have q3 : WA.cell? ⟨w.heap.size, 3, none⟩ = some (.int .i64 x.v) := by rw [← hA, ← hsz]; exact World.cell?_alloc_new _ _ _ 3
      have q4 : WA.cell? ⟨w.heap.size, 4, none⟩ = some (.bool y.reg) := by rw [← hA, ← hsz]; exact World.cell?_alloc_new _ _ _ 4
      have q5 : WA.cell? ⟨w.heap.size, 5, none⟩ = some (.int .i64 y.v) := by rw [← hA, ← hsz]; exact World.cell?_alloc_new _ _ _ 5
      have q6 : WA.cell? ⟨w.heap.size, 6, none⟩ = some (.bool z.reg) := by rw [← hA, ← hsz]; exact World.cell?_alloc_new _ _ _ 6
      have q7 : WA.cell? ⟨w.heap.size, 7, none⟩ = some (.int .i64 z.v) := by rw [← hA, ← hsz]; exact World.cell?_alloc_new _ _ _ 7
      have q8 : WA.cell? ⟨w.heap.size, 8, none⟩ = some (.int .i64 n) := by rw [← hA, ← hsz]; exact World.cell?_alloc_new _ _ _ 8
      have lI : w.heap.size < WA.heap.size := World.block_lt_of_cell? _ _ q0
      clear hA r1 r2 hsz
      have hks : k < (ts.set k { ts[k] with T := { ts[k].T with pl := (p : Int) + 1 } }).length := by simpa using hk
      have hth2 := HM.out.th k hks
      rw [set_get hk] at hth2
      have G1 := cGet_any hth2 x hx
      simp only [hTb] at G1
      have hxx : x.of { ts[k].T with pl := (p : Int) + 1 } = x.of ts[k].T := rfl
      rw [hxx] at G1
      generalize hav : x.of ts[k].T = av at *
      refine G1.mono ?_
      rintro e W2 ⟨rfl, b2⟩
      have HM2 := hid (HM.out.below b2)
      have r0 := (b2.cell (p := ⟨w.heap.size, 0, none⟩) lI).trans q0
      have r1 := (b2.cell (p := ⟨w.heap.size, 1, none⟩) lI).trans q1
      have r2 := (b2.cell (p := ⟨w.heap.size, 2, none⟩) lI).trans q2
      have r3 := (b2.cell (p := ⟨w.heap.size, 3, none⟩) lI).trans q3
      have r4 := (b2.cell (p := ⟨w.heap.size, 4, none⟩) lI).trans q4
      have r5 := (b2.cell (p := ⟨w.heap.size, 5, none⟩) lI).trans q5
      have r6 := (b2.cell (p := ⟨w.heap.size, 6, none⟩) lI).trans q6
      have r7 := (b2.cell (p := ⟨w.heap.size, 7, none⟩) lI).trans q7
      have r8 := (b2.cell (p := ⟨w.heap.size, 8, none⟩) lI).trans q8
      have lI2 : w.heap.size < W2.heap.size := World.block_lt_of_cell? _ _ r0
      have HC2 := hid (HC.out.trans (Chg.of_below b2))
      clear b2 q0 q1 q2 q3 q4 q5 q6 q7 q8 hth2 HM HC G1
      go_wp2_with fail
      have hth3 := HM2.out.th k hks
      rw [set_get hk] at hth3
      have G2 := cGet_any hth3 y hy
      simp only [hTb] at G2
      have hyy : y.of { ts[k].T with pl := (p : Int) + 1 } = y.of ts[k].T := rfl
      rw [hyy] at G2
      generalize hbv : y.of ts[k].T = bv at *
      refine G2.mono ?_
      rintro e W3 ⟨rfl, b3⟩
      have HM3 := hid (HM2.out.below b3)
      have s0 := (b3.cell (p := ⟨w.heap.size, 0, none⟩) lI2).trans r0
      have s1 := (b3.cell (p := ⟨w.heap.size, 1, none⟩) lI2).trans r1
      have s2 := (b3.cell (p := ⟨w.heap.size, 2, none⟩) lI2).trans r2
      have s3 := (b3.cell (p := ⟨w.heap.size, 3, none⟩) lI2).trans r3
      have s4 := (b3.cell (p := ⟨w.heap.size, 4, none⟩) lI2).trans r4
      have s5 := (b3.cell (p := ⟨w.heap.size, 5, none⟩) lI2).trans r5
      have s6 := (b3.cell (p := ⟨w.heap.size, 6, none⟩) lI2).trans r6
      have s7 := (b3.cell (p := ⟨w.heap.size, 7, none⟩) lI2).trans r7
      have s8 := (b3.cell (p := ⟨w.heap.size, 8, none⟩) lI2).trans r8
      have lI3 : w.heap.size < W3.heap.size := World.block_lt_of_cell? _ _ s0
      have HC3 := hid (HC2.out.trans (Chg.of_below b3))
      have hth4 := HM3.out.th k hks
      rw [set_get hk] at hth4
      have hmem1 := hmem
      clear hmem
      clear b3 hth3 hth4 HM2 HC2 r0 r1 r2 r3 r4 r5 r6 r7 r8 G2
      go_wp2_with fail
      refine (hmem1.out W3 (by omega) HM3.out).mono ?_
      rintro e W4 ⟨rfl, r4, c4⟩
      have R4 := hid r4
      have C4 := hid c4
      clear r4 c4
      go_wp2
      go_end0
      exact ⟨rfl, R4.out, HC3.out.trans C4.out⟩

set_option maxRecDepth 100000 in
set_option maxHeartbeats 1000000 in
theorem cStep_mem_store (h : CMach D lab w bm mb tv m ts) (k : Nat) (hk : k < ts.length) (hs : ts[k].T.st = 0) (p : Nat) (hpl : ts[k].T.pl = p) (hp : p < ts[k].code.length) (hcl : ts[k].code.length ≤ 4000) (x y z : Vl) (d n : Int)
    (hic : dOf (ts[k].code[p]'hp) = ⟨⟨#[115, 116, 111, 114, 101]⟩, d, x, y, z, n⟩) (hx : x.ok) (hy : y.ok) (R : World → Prop) (hmem : Hid (∀ W, w.heap.size ≤ W.heap.size → CMach D lab W bm mb tv m (ts.set k { ts[k] with T := { ts[k].T with pl := (p : Int) + 1 } }) → Calls Tryz.prog 73 #[ptr bm, .int .i64 k, insAgg ⟨#[115, 116, 111, 114, 101]⟩ d x y z n, .int .i64 (wrap64 (x.of ts[k].T + n)), .int .i64 (y.of ts[k].T)] W fun e w' => e = .returned (.tuple #[]) ∧ R w' ∧ Chg (fun j _ => D j) W w')) :
    Calls Tryz.prog 49 #[ptr bm, .int .i64 k] w fun e w' => e = .returned (.tuple #[]) ∧ R w' ∧ Chg (fun j _ => D j) w w' := by
  have H := hid h
  obtain ⟨tg, tk, rfl, p1, p2, _⟩ := thr_ptr h k hk
  have hc := h.tc
  have hth := h.th k hk
  have c5 := hth.state
  have f5 := hth.free 5 (by omega)
  have c1 := hth.pc
  have f1 := hth.free 1 (by omega)
  have c0 := hth.codec
  have hrow := hth.crow
  obtain ⟨cg, ck, hcv⟩ : ∃ cg ck, ts[k].cv = .slice (some ⟨cg, 0, none⟩) ts[k].code.length ck := by
    rcases hrow.2 with ⟨e1, e2⟩ | ⟨g', cap', cur, e1, _⟩
    · omega
    · exact ⟨g', cap', e1⟩
  rw [hcv] at c0 hrow
  rw [hs] at c5
  rw [hpl] at c1
  have I : ∀ j u, j < 9 → (insCells (ts[k].code[p]'hp))[j]? = some u → w.cell? ⟨cg, p * 9 + j, none⟩ = some u := fun j u hj hu => code_at hrow p hp j hj u hu
  unfold insCells at I
  rw [hic] at I
  have i0 := I 0 _ (by omega) rfl
  have i1 := I 1 _ (by omega) rfl
  have i2 := I 2 _ (by omega) rfl
  have i3 := I 3 _ (by omega) rfl
  have i4 := I 4 _ (by omega) rfl
  have i5 := I 5 _ (by omega) rfl
  have i6 := I 6 _ (by omega) rfl
  have i7 := I 7 _ (by omega) rfl
  have i8 := I 8 _ (by omega) rfl
  have hk0 : ¬ (k : Int) < 0 := by omega
  have hk1 : (k : Int) < (ts.length : Int) := by omega
  have hp1 : (p : Int) < (ts[k].code.length : Int) := by omega
  simp only [Nat.add_zero] at i0 i1 i2 i3 i4 i5 i6 i7 i8
  have hlb := lt_of_shape hth.sh
  have hlc : cg < w.heap.size := World.block_lt_of_cell? _ _ i0
  clear h hth hcv hs hrow I
  generalize hTb : ts[k].b = tb at *
  clear hic
  go_enter Tryz.func49, Tryz.ntmps49
  go_wp2_with fail
  go_region
  all_goals
    go_wp2_with fail
    go_region
    all_goals
      go_wp2_with fail
      generalize hA : World.drew _ = WA
      obtain ⟨r1, r2⟩ := cm_pc H.out k hk ((p : Int) + 1)
      rw [hTb] at r1 r2
      have HM : Hid (CMach D lab WA bm mb (.slice (some ⟨tg, 0, none⟩) ts.length tk) m (ts.set k { ts[k] with T := { ts[k].T with pl := (p : Int) + 1 } })) := hid (by rw [← hA]; simpa [hTb] using ((r1.below ((Below.refl _ _).alloc (Nat.le_refl _) _)).keep (M := fun _ _ => False) (((Chg.refl _ _).drew).drew) (fun _ _ _ e => e)))
      have HC : Hid (Chg (fun j _ => D j) w WA) := hid (by rw [← hA]; exact ((r2.alloc _).drew).drew)
      have hsz : (w.setCell ⟨tb, 1, none⟩ (.int .i64 ((p : Int) + 1))).heap.size = w.heap.size := size_set _ _ _
      have q0 : WA.cell? ⟨w.heap.size, 0, none⟩ = some (.string ⟨#[115, 116, 111, 114, 101]⟩) := by rw [← hA, ← hsz]; exact World.cell?_alloc_new _ _ _ 0
      have q1 : WA.cell? ⟨w.heap.size, 1, none⟩ = some (.int .i64 d) := by rw [← hA, ← hsz]; exact World.cell?_alloc_new _ _ _ 1
      have q2 : WA.cell? ⟨w.heap.size, 2, none⟩ = some (.bool x.reg) := by rw [← hA, ← hsz]; exact World.cell?_alloc_new _ _ _ 2
      have q3 : WA.cell? ⟨w.heap.size, 3, none⟩ = some (.int .i64 x.v) := by rw [← hA, ← hsz]; exact World.cell?_alloc_new _ _ _ 3
      have q4 : WA.cell? ⟨w.heap.size, 4, none⟩ = some (.bool y.reg) := by rw [← hA, ← hsz]; exact World.cell?_alloc_new _ _ _ 4
      have q5 : WA.cell? ⟨w.heap.size, 5, none⟩ = some (.int .i64 y.v) := by rw [← hA, ← hsz]; exact World.cell?_alloc_new _ _ _ 5
      have q6 : WA.cell? ⟨w.heap.size, 6, none⟩ = some (.bool z.reg) := by rw [← hA, ← hsz]; exact World.cell?_alloc_new _ _ _ 6
      have q7 : WA.cell? ⟨w.heap.size, 7, none⟩ = some (.int .i64 z.v) := by rw [← hA, ← hsz]; exact World.cell?_alloc_new _ _ _ 7
      have q8 : WA.cell? ⟨w.heap.size, 8, none⟩ = some (.int .i64 n) := by rw [← hA, ← hsz]; exact World.cell?_alloc_new _ _ _ 8
      have lI : w.heap.size < WA.heap.size := World.block_lt_of_cell? _ _ q0
      clear hA r1 r2 hsz
      have hks : k < (ts.set k { ts[k] with T := { ts[k].T with pl := (p : Int) + 1 } }).length := by simpa using hk
      have hth2 := HM.out.th k hks
      rw [set_get hk] at hth2
      have G1 := cGet_any hth2 x hx
      simp only [hTb] at G1
      have hxx : x.of { ts[k].T with pl := (p : Int) + 1 } = x.of ts[k].T := rfl
      rw [hxx] at G1
      generalize hav : x.of ts[k].T = av at *
      refine G1.mono ?_
      rintro e W2 ⟨rfl, b2⟩
      have HM2 := hid (HM.out.below b2)
      have r0 := (b2.cell (p := ⟨w.heap.size, 0, none⟩) lI).trans q0
      have r1 := (b2.cell (p := ⟨w.heap.size, 1, none⟩) lI).trans q1
      have r2 := (b2.cell (p := ⟨w.heap.size, 2, none⟩) lI).trans q2
      have r3 := (b2.cell (p := ⟨w.heap.size, 3, none⟩) lI).trans q3
      have r4 := (b2.cell (p := ⟨w.heap.size, 4, none⟩) lI).trans q4
      have r5 := (b2.cell (p := ⟨w.heap.size, 5, none⟩) lI).trans q5
      have r6 := (b2.cell (p := ⟨w.heap.size, 6, none⟩) lI).trans q6
      have r7 := (b2.cell (p := ⟨w.heap.size, 7, none⟩) lI).trans q7
      have r8 := (b2.cell (p := ⟨w.heap.size, 8, none⟩) lI).trans q8
      have lI2 : w.heap.size < W2.heap.size := World.block_lt_of_cell? _ _ r0
      have HC2 := hid (HC.out.trans (Chg.of_below b2))
      clear b2 q0 q1 q2 q3 q4 q5 q6 q7 q8 hth2 HM HC G1
      go_wp2_with fail
      have hth3 := HM2.out.th k hks
      rw [set_get hk] at hth3
      have G2 := cGet_any hth3 y hy
      simp only [hTb] at G2
      have hyy : y.of { ts[k].T with pl := (p : Int) + 1 } = y.of ts[k].T := rfl
      rw [hyy] at G2
      generalize hbv : y.of ts[k].T = bv at *
      refine G2.mono ?_
      rintro e W3 ⟨rfl, b3⟩
      have HM3 := hid (HM2.out.below b3)
      have s0 := (b3.cell (p := ⟨w.heap.size, 0, none⟩) lI2).trans r0
      have s1 := (b3.cell (p := ⟨w.heap.size, 1, none⟩) lI2).trans r1
      have s2 := (b3.cell (p := ⟨w.heap.size, 2, none⟩) lI2).trans r2
      have s3 := (b3.cell (p := ⟨w.heap.size, 3, none⟩) lI2).trans r3
      have s4 := (b3.cell (p := ⟨w.heap.size, 4, none⟩) lI2).trans r4
      have s5 := (b3.cell (p := ⟨w.heap.size, 5, none⟩) lI2).trans r5
      have s6 := (b3.cell (p := ⟨w.heap.size, 6, none⟩) lI2).trans r6
      have s7 := (b3.cell (p := ⟨w.heap.size, 7, none⟩) lI2).trans r7
      have s8 := (b3.cell (p := ⟨w.heap.size, 8, none⟩) lI2).trans r8
      have lI3 : w.heap.size < W3.heap.size := World.block_lt_of_cell? _ _ s0
      have HC3 := hid (HC2.out.trans (Chg.of_below b3))
      have hth4 := HM3.out.th k hks
      rw [set_get hk] at hth4
      have hmem1 := hmem
      clear hmem
      clear b3 hth3 hth4 HM2 HC2 r0 r1 r2 r3 r4 r5 r6 r7 r8 G2
      go_wp2_with fail
      refine (hmem1.out W3 (by omega) HM3.out).mono ?_
      rintro e W4 ⟨rfl, r4, c4⟩
      have R4 := hid r4
      have C4 := hid c4
      clear r4 c4
      go_wp2
      go_end0
      exact ⟨rfl, R4.out, HC3.out.trans C4.out⟩

set_option maxRecDepth 100000 in
set_option maxHeartbeats 1000000 in
theorem cStep_mem_cas (h : CMach D lab w bm mb tv m ts) (k : Nat) (hk : k < ts.length) (hs : ts[k].T.st = 0) (p : Nat) (hpl : ts[k].T.pl = p) (hp : p < ts[k].code.length) (hcl : ts[k].code.length ≤ 4000) (x y z : Vl) (d n : Int)
    (hic : dOf (ts[k].code[p]'hp) = ⟨⟨#[99, 97, 115]⟩, d, x, y, z, n⟩) (hx : x.ok) (hy : y.ok) (R : World → Prop) (hmem : Hid (∀ W, w.heap.size ≤ W.heap.size → CMach D lab W bm mb tv m (ts.set k { ts[k] with T := { ts[k].T with pl := (p : Int) + 1 } }) → Calls Tryz.prog 73 #[ptr bm, .int .i64 k, insAgg ⟨#[99, 97, 115]⟩ d x y z n, .int .i64 (wrap64 (x.of ts[k].T + n)), .int .i64 (y.of ts[k].T)] W fun e w' => e = .returned (.tuple #[]) ∧ R w' ∧ Chg (fun j _ => D j) W w')) :
    Calls Tryz.prog 49 #[ptr bm, .int .i64 k] w fun e w' => e = .returned (.tuple #[]) ∧ R w' ∧ Chg (fun j _ => D j) w w' := by
  have H := hid h
  obtain ⟨tg, tk, rfl, p1, p2, _⟩ := thr_ptr h k hk
  have hc := h.tc
  have hth := h.th k hk
  have c5 := hth.state
  have f5 := hth.free 5 (by omega)
  have c1 := hth.pc
  have f1 := hth.free 1 (by omega)
  have c0 := hth.codec
  have hrow := hth.crow
  obtain ⟨cg, ck, hcv⟩ : ∃ cg ck, ts[k].cv = .slice (some ⟨cg, 0, none⟩) ts[k].code.length ck := by
    rcases hrow.2 with ⟨e1, e2⟩ | ⟨g', cap', cur, e1, _⟩
    · omega
    · exact ⟨g', cap', e1⟩
  rw [hcv] at c0 hrow
  rw [hs] at c5
  rw [hpl] at c1
  have I : ∀ j u, j < 9 → (insCells (ts[k].code[p]'hp))[j]? = some u → w.cell? ⟨cg, p * 9 + j, none⟩ = some u := fun j u hj hu => code_at hrow p hp j hj u hu
  unfold insCells at I
  rw [hic] at I
  have i0 := I 0 _ (by omega) rfl
  have i1 := I 1 _ (by omega) rfl
  have i2 := I 2 _ (by omega) rfl
  have i3 := I 3 _ (by omega) rfl
  have i4 := I 4 _ (by omega) rfl
  have i5 := I 5 _ (by omega) rfl
  have i6 := I 6 _ (by omega) rfl
  have i7 := I 7 _ (by omega) rfl
  have i8 := I 8 _ (by omega) rfl
  have hk0 : ¬ (k : Int) < 0 := by omega
  have hk1 : (k : Int) < (ts.length : Int) := by omega
  have hp1 : (p : Int) < (ts[k].code.length : Int) := by omega
  simp only [Nat.add_zero] at i0 i1 i2 i3 i4 i5 i6 i7 i8
  have hlb := lt_of_shape hth.sh
  have hlc : cg < w.heap.size := World.block_lt_of_cell? _ _ i0
  clear h hth hcv hs hrow I
  generalize hTb : ts[k].b = tb at *
  clear hic
  go_enter Tryz.func49, Tryz.ntmps49
  go_wp2_with fail
  go_region
  all_goals
    go_wp2_with fail
    go_region
    all_goals
      go_wp2_with fail
      generalize hA : World.drew _ = WA
      obtain ⟨r1, r2⟩ := cm_pc H.out k hk ((p : Int) + 1)
      rw [hTb] at r1 r2
      have HM : Hid (CMach D lab WA bm mb (.slice (some ⟨tg, 0, none⟩) ts.length tk) m (ts.set k { ts[k] with T := { ts[k].T with pl := (p : Int) + 1 } })) := hid (by rw [← hA]; simpa [hTb] using ((r1.below ((Below.refl _ _).alloc (Nat.le_refl _) _)).keep (M := fun _ _ => False) (((Chg.refl _ _).drew).drew) (fun _ _ _ e => e)))
      have HC : Hid (Chg (fun j _ => D j) w WA) := hid (by rw [← hA]; exact ((r2.alloc _).drew).drew)
      have hsz : (w.setCell ⟨tb, 1, none⟩ (.int .i64 ((p : Int) + 1))).heap.size = w.heap.size := size_set _ _ _
      have q0 : WA.cell? ⟨w.heap.size, 0, none⟩ = some (.string ⟨#[99, 97, 115]⟩) := by rw [← hA, ← hsz]; exact World.cell?_alloc_new _ _ _ 0
      have q1 : WA.cell? ⟨w.heap.size, 1, none⟩ = some (.int .i64 d) := by rw [← hA, ← hsz]; exact World.cell?_alloc_new _ _ _ 1
      have q2 : WA.cell? ⟨w.heap.size, 2, none⟩ = some (.bool x.reg) := by rw [← hA, ← hsz]; exact World.cell?_alloc_new _ _ _ 2
      have q3 : WA.cell? ⟨w.heap.size, 3, none⟩ = some (.int .i64 x.v) := by rw [← hA, ← hsz]; exact World.cell?_alloc_new _ _ _ 3
      have q4 : WA.cell? ⟨w.heap.size, 4, none⟩ = some (.bool y.reg) := by rw [← hA, ← hsz]; exact World.cell?_alloc_new _ _ _ 4
      have q5 : WA.cell? ⟨w.heap.size, 5, none⟩ = some (.int .i64 y.v) := by rw [← hA, ← hsz]; exact World.cell?_alloc_new _ _ _ 5
      have q6 : WA.cell? ⟨w.heap.size, 6, none⟩ = some (.bool z.reg) := by rw [← hA, ← hsz]; exact World.cell?_alloc_new _ _ _ 6
      have q7 : WA.cell? ⟨w.heap.size, 7, none⟩ = some (.int .i64 z.v) := by rw [← hA, ← hsz]; exact World.cell?_alloc_new _ _ _ 7
      have q8 : WA.cell? ⟨w.heap.size, 8, none⟩ = some (.int .i64 n) := by rw [← hA, ← hsz]; exact World.cell?_alloc_new _ _ _ 8
      have lI : w.heap.size < WA.heap.size := World.block_lt_of_cell? _ _ q0
      clear hA r1 r2 hsz
      have hks : k < (ts.set k { ts[k] with T := { ts[k].T with pl := (p : Int) + 1 } }).length := by simpa using hk
      have hth2 := HM.out.th k hks
      rw [set_get hk] at hth2
      have G1 := cGet_any hth2 x hx
      simp only [hTb] at G1
      have hxx : x.of { ts[k].T with pl := (p : Int) + 1 } = x.of ts[k].T := rfl
      rw [hxx] at G1
      generalize hav : x.of ts[k].T = av at *
      refine G1.mono ?_
      rintro e W2 ⟨rfl, b2⟩
      have HM2 := hid (HM.out.below b2)
      have r0 := (b2.cell (p := ⟨w.heap.size, 0, none⟩) lI).trans q0
      have r1 := (b2.cell (p := ⟨w.heap.size, 1, none⟩) lI).trans q1
      have r2 := (b2.cell (p := ⟨w.heap.size, 2, none⟩) lI).trans q2
      have r3 := (b2.cell (p := ⟨w.heap.size, 3, none⟩) lI).trans q3
      have r4 := (b2.cell (p := ⟨w.heap.size, 4, none⟩) lI).trans q4
      have r5 := (b2.cell (p := ⟨w.heap.size, 5, none⟩) lI).trans q5
      have r6 := (b2.cell (p := ⟨w.heap.size, 6, none⟩) lI).trans q6
      have r7 := (b2.cell (p := ⟨w.heap.size, 7, none⟩) lI).trans q7
      have r8 := (b2.cell (p := ⟨w.heap.size, 8, none⟩) lI).trans q8
      have lI2 : w.heap.size < W2.heap.size := World.block_lt_of_cell? _ _ r0
      have HC2 := hid (HC.out.trans (Chg.of_below b2))
      clear b2 q0 q1 q2 q3 q4 q5 q6 q7 q8 hth2 HM HC G1
      go_wp2_with fail
      have hth3 := HM2.out.th k hks
      rw [set_get hk] at hth3
      have G2 := cGet_any hth3 y hy
      simp only [hTb] at G2
      have hyy : y.of { ts[k].T with pl := (p : Int) + 1 } = y.of ts[k].T := rfl
      rw [hyy] at G2
      generalize hbv : y.of ts[k].T = bv at *
      refine G2.mono ?_
      rintro e W3 ⟨rfl, b3⟩
      have HM3 := hid (HM2.out.below b3)
      have s0 := (b3.cell (p := ⟨w.heap.size, 0, none⟩) lI2).trans r0
      have s1 := (b3.cell (p := ⟨w.heap.size, 1, none⟩) lI2).trans r1
      have s2 := (b3.cell (p := ⟨w.heap.size, 2, none⟩) lI2).trans r2
      have s3 := (b3.cell (p := ⟨w.heap.size, 3, none⟩) lI2).trans r3
      have s4 := (b3.cell (p := ⟨w.heap.size, 4, none⟩) lI2).trans r4
      have s5 := (b3.cell (p := ⟨w.heap.size, 5, none⟩) lI2).trans r5
      have s6 := (b3.cell (p := ⟨w.heap.size, 6, none⟩) lI2).trans r6
      have s7 := (b3.cell (p := ⟨w.heap.size, 7, none⟩) lI2).trans r7
      have s8 := (b3.cell (p := ⟨w.heap.size, 8, none⟩) lI2).trans r8
      have lI3 : w.heap.size < W3.heap.size := World.block_lt_of_cell? _ _ s0
      have HC3 := hid (HC2.out.trans (Chg.of_below b3))
      have hth4 := HM3.out.th k hks
      rw [set_get hk] at hth4
      have hmem1 := hmem
      clear hmem
      clear b3 hth3 hth4 HM2 HC2 r0 r1 r2 r3 r4 r5 r6 r7 r8 G2
      go_wp2_with fail
      refine (hmem1.out W3 (by omega) HM3.out).mono ?_
      rintro e W4 ⟨rfl, r4, c4⟩
      have R4 := hid r4
      have C4 := hid c4
      clear r4 c4
      go_wp2
      go_end0
      exact ⟨rfl, R4.out, HC3.out.trans C4.out⟩

set_option maxRecDepth 100000 in
set_option maxHeartbeats 1000000 in
theorem cStep_mem_xadd (h : CMach D lab w bm mb tv m ts) (k : Nat) (hk : k < ts.length) (hs : ts[k].T.st = 0) (p : Nat) (hpl : ts[k].T.pl = p) (hp : p < ts[k].code.length) (hcl : ts[k].code.length ≤ 4000) (x y z : Vl) (d n : Int)
    (hic : dOf (ts[k].code[p]'hp) = ⟨⟨#[120, 97, 100, 100]⟩, d, x, y, z, n⟩) (hx : x.ok) (hy : y.ok) (R : World → Prop) (hmem : Hid (∀ W, w.heap.size ≤ W.heap.size → CMach D lab W bm mb tv m (ts.set k { ts[k] with T := { ts[k].T with pl := (p : Int) + 1 } }) → Calls Tryz.prog 73 #[ptr bm, .int .i64 k, insAgg ⟨#[120, 97, 100, 100]⟩ d x y z n, .int .i64 (wrap64 (x.of ts[k].T + n)), .int .i64 (y.of ts[k].T)] W fun e w' => e = .returned (.tuple #[]) ∧ R w' ∧ Chg (fun j _ => D j) W w')) :
    Calls Tryz.prog 49 #[ptr bm, .int .i64 k] w fun e w' => e = .returned (.tuple #[]) ∧ R w' ∧ Chg (fun j _ => D j) w w' := by
  have H := hid h
  obtain ⟨tg, tk, rfl, p1, p2, _⟩ := thr_ptr h k hk
  have hc := h.tc
  have hth := h.th k hk
  have c5 := hth.state
  have f5 := hth.free 5 (by omega)
  have c1 := hth.pc
  have f1 := hth.free 1 (by omega)
  have c0 := hth.codec
  have hrow := hth.crow
  obtain ⟨cg, ck, hcv⟩ : ∃ cg ck, ts[k].cv = .slice (some ⟨cg, 0, none⟩) ts[k].code.length ck := by
    rcases hrow.2 with ⟨e1, e2⟩ | ⟨g', cap', cur, e1, _⟩
    · omega
    · exact ⟨g', cap', e1⟩
  rw [hcv] at c0 hrow
  rw [hs] at c5
  rw [hpl] at c1
  have I : ∀ j u, j < 9 → (insCells (ts[k].code[p]'hp))[j]? = some u → w.cell? ⟨cg, p * 9 + j, none⟩ = some u := fun j u hj hu => code_at hrow p hp j hj u hu
  unfold insCells at I
  rw [hic] at I
  have i0 := I 0 _ (by omega) rfl
  have i1 := I 1 _ (by omega) rfl
  have i2 := I 2 _ (by omega) rfl
  have i3 := I 3 _ (by omega) rfl
  have i4 := I 4 _ (by omega) rfl
  have i5 := I 5 _ (by omega) rfl
  have i6 := I 6 _ (by omega) rfl
  have i7 := I 7 _ (by omega) rfl
  have i8 := I 8 _ (by omega) rfl
  have hk0 : ¬ (k : Int) < 0 := by omega
  have hk1 : (k : Int) < (ts.length : Int) := by omega
  have hp1 : (p : Int) < (ts[k].code.length : Int) := by omega
  simp only [Nat.add_zero] at i0 i1 i2 i3 i4 i5 i6 i7 i8
  have hlb := lt_of_shape hth.sh
  have hlc : cg < w.heap.size := World.block_lt_of_cell? _ _ i0
  clear h hth hcv hs hrow I
  generalize hTb : ts[k].b = tb at *
  clear hic
  go_enter Tryz.func49, Tryz.ntmps49
  go_wp2_with fail
  go_region
  all_goals
    go_wp2_with fail
    go_region
    all_goals
      go_wp2_with fail
      generalize hA : World.drew _ = WA
      obtain ⟨r1, r2⟩ := cm_pc H.out k hk ((p : Int) + 1)
      rw [hTb] at r1 r2
      have HM : Hid (CMach D lab WA bm mb (.slice (some ⟨tg, 0, none⟩) ts.length tk) m (ts.set k { ts[k] with T := { ts[k].T with pl := (p : Int) + 1 } })) := hid (by rw [← hA]; simpa [hTb] using ((r1.below ((Below.refl _ _).alloc (Nat.le_refl _) _)).keep (M := fun _ _ => False) (((Chg.refl _ _).drew).drew) (fun _ _ _ e => e)))
      have HC : Hid (Chg (fun j _ => D j) w WA) := hid (by rw [← hA]; exact ((r2.alloc _).drew).drew)
      have hsz : (w.setCell ⟨tb, 1, none⟩ (.int .i64 ((p : Int) + 1))).heap.size = w.heap.size := size_set _ _ _
      have q0 : WA.cell? ⟨w.heap.size, 0, none⟩ = some (.string ⟨#[120, 97, 100, 100]⟩) := by rw [← hA, ← hsz]; exact World.cell?_alloc_new _ _ _ 0
      have q1 : WA.cell? ⟨w.heap.size, 1, none⟩ = some (.int .i64 d) := by rw [← hA, ← hsz]; exact World.cell?_alloc_new _ _ _ 1
      have q2 : WA.cell? ⟨w.heap.size, 2, none⟩ = some (.bool x.reg) := by rw [← hA, ← hsz]; exact World.cell?_alloc_new _ _ _ 2
      have q3 : WA.cell? ⟨w.heap.size, 3, none⟩ = some (.int .i64 x.v) := by rw [← hA, ← hsz]; exact World.cell?_alloc_new _ _ _ 3
      have q4 : WA.cell? ⟨w.heap.size, 4, none⟩ = some (.bool y.reg) := by rw [← hA, ← hsz]; exact World.cell?_alloc_new _ _ _ 4
      have q5 : WA.cell? ⟨w.heap.size, 5, none⟩ = some (.int .i64 y.v) := by rw [← hA, ← hsz]; exact World.cell?_alloc_new _ _ _ 5
      have q6 : WA.cell? ⟨w.heap.size, 6, none⟩ = some (.bool z.reg) := by rw [← hA, ← hsz]; exact World.cell?_alloc_new _ _ _ 6
      have q7 : WA.cell? ⟨w.heap.size, 7, none⟩ = some (.int .i64 z.v) := by rw [← hA, ← hsz]; exact World.cell?_alloc_new _ _ _ 7
      have q8 : WA.cell? ⟨w.heap.size, 8, none⟩ = some (.int .i64 n) := by rw [← hA, ← hsz]; exact World.cell?_alloc_new _ _ _ 8
      have lI : w.heap.size < WA.heap.size := World.block_lt_of_cell? _ _ q0
      clear hA r1 r2 hsz
      have hks : k < (ts.set k { ts[k] with T := { ts[k].T with pl := (p : Int) + 1 } }).length := by simpa using hk
      have hth2 := HM.out.th k hks
      rw [set_get hk] at hth2
      have G1 := cGet_any hth2 x hx
      simp only [hTb] at G1
      have hxx : x.of { ts[k].T with pl := (p : Int) + 1 } = x.of ts[k].T := rfl
      rw [hxx] at G1
      generalize hav : x.of ts[k].T = av at *
      refine G1.mono ?_
      rintro e W2 ⟨rfl, b2⟩
      have HM2 := hid (HM.out.below b2)
      have r0 := (b2.cell (p := ⟨w.heap.size, 0, none⟩) lI).trans q0
      have r1 := (b2.cell (p := ⟨w.heap.size, 1, none⟩) lI).trans q1
      have r2 := (b2.cell (p := ⟨w.heap.size, 2, none⟩) lI).trans q2
      have r3 := (b2.cell (p := ⟨w.heap.size, 3, none⟩) lI).trans q3
      have r4 := (b2.cell (p := ⟨w.heap.size, 4, none⟩) lI).trans q4
      have r5 := (b2.cell (p := ⟨w.heap.size, 5, none⟩) lI).trans q5
      have r6 := (b2.cell (p := ⟨w.heap.size, 6, none⟩) lI).trans q6
      have r7 := (b2.cell (p := ⟨w.heap.size, 7, none⟩) lI).trans q7
      have r8 := (b2.cell (p := ⟨w.heap.size, 8, none⟩) lI).trans q8
      have lI2 : w.heap.size < W2.heap.size := World.block_lt_of_cell? _ _ r0
      have HC2 := hid (HC.out.trans (Chg.of_below b2))
      clear b2 q0 q1 q2 q3 q4 q5 q6 q7 q8 hth2 HM HC G1
      go_wp2_with fail
      have hth3 := HM2.out.th k hks
      rw [set_get hk] at hth3
      have G2 := cGet_any hth3 y hy
      simp only [hTb] at G2
      have hyy : y.of { ts[k].T with pl := (p : Int) + 1 } = y.of ts[k].T := rfl
      rw [hyy] at G2
      generalize hbv : y.of ts[k].T = bv at *
      refine G2.mono ?_
      rintro e W3 ⟨rfl, b3⟩
      have HM3 := hid (HM2.out.below b3)
      have s0 := (b3.cell (p := ⟨w.heap.size, 0, none⟩) lI2).trans r0
      have s1 := (b3.cell (p := ⟨w.heap.size, 1, none⟩) lI2).trans r1
      have s2 := (b3.cell (p := ⟨w.heap.size, 2, none⟩) lI2).trans r2
      have s3 := (b3.cell (p := ⟨w.heap.size, 3, none⟩) lI2).trans r3
      have s4 := (b3.cell (p := ⟨w.heap.size, 4, none⟩) lI2).trans r4
      have s5 := (b3.cell (p := ⟨w.heap.size, 5, none⟩) lI2).trans r5
      have s6 := (b3.cell (p := ⟨w.heap.size, 6, none⟩) lI2).trans r6
      have s7 := (b3.cell (p := ⟨w.heap.size, 7, none⟩) lI2).trans r7
      have s8 := (b3.cell (p := ⟨w.heap.size, 8, none⟩) lI2).trans r8
      have lI3 : w.heap.size < W3.heap.size := World.block_lt_of_cell? _ _ s0
      have HC3 := hid (HC2.out.trans (Chg.of_below b3))
      have hth4 := HM3.out.th k hks
      rw [set_get hk] at hth4
      have hmem1 := hmem
      clear hmem
      clear b3 hth3 hth4 HM2 HC2 r0 r1 r2 r3 r4 r5 r6 r7 r8 G2
      go_wp2_with fail
      refine (hmem1.out W3 (by omega) HM3.out).mono ?_
      rintro e W4 ⟨rfl, r4, c4⟩
      have R4 := hid r4
      have C4 := hid c4
      clear r4 c4
      go_wp2
      go_end0
      exact ⟨rfl, R4.out, HC3.out.trans C4.out⟩

theorem cStep_mem (h : CMach D lab w bm mb tv m ts) (k : Nat) (hk : k < ts.length) (hs : ts[k].T.st = 0) (p : Nat) (hpl : ts[k].T.pl = p) (hp : p < ts[k].code.length) (hcl : ts[k].code.length ≤ 4000) (x y z : Vl) (u : ByteArray) (hu : u = ⟨#[108, 111, 97, 100]⟩ ∨ u = ⟨#[115, 116, 111, 114, 101]⟩ ∨ u = ⟨#[99, 97, 115]⟩ ∨ u = ⟨#[120, 97, 100, 100]⟩) (d n : Int)
    (hic : dOf (ts[k].code[p]'hp) = ⟨u, d, x, y, z, n⟩) (hx : x.ok) (hy : y.ok) (R : World → Prop) (hmem : Hid (∀ W, w.heap.size ≤ W.heap.size → CMach D lab W bm mb tv m (ts.set k { ts[k] with T := { ts[k].T with pl := (p : Int) + 1 } }) → Calls Tryz.prog 73 #[ptr bm, .int .i64 k, insAgg u d x y z n, .int .i64 (wrap64 (x.of ts[k].T + n)), .int .i64 (y.of ts[k].T)] W fun e w' => e = .returned (.tuple #[]) ∧ R w' ∧ Chg (fun j _ => D j) W w')) :
    Calls Tryz.prog 49 #[ptr bm, .int .i64 k] w fun e w' => e = .returned (.tuple #[]) ∧ R w' ∧ Chg (fun j _ => D j) w w' := by
  rcases hu with rfl | rfl | rfl | rfl
  · exact cStep_mem_load h k hk hs p hpl hp hcl x y z d n hic hx hy R hmem
  · exact cStep_mem_store h k hk hs p hpl hp hcl x y z d n hic hx hy R hmem
  · exact cStep_mem_cas h k hk hs p hpl hp hcl x y z d n hic hx hy R hmem
  · exact cStep_mem_xadd h k hk hs p hpl hp hcl x y z d n hic hx hy R hmem
end
end Go.Proofs.YtfhkfnoajbbfdaaGreatDoor
