import Derived.Test.YtfhkfnoajbbfdaaGreatDoorPart43
/- The document's Step: jz (written by gen-cm17.py). -/
namespace Go.Proofs.YtfhkfnoajbbfdaaGreatDoor
open Go.RowKit

section
variable {D : Nat → Prop} {lab : Nat → Nat × Nat} {w : World} {bm mb : Nat} {tv : Value} {m : Nat → Int} {ts : List CT}

set_option maxRecDepth 100000 in
set_option maxHeartbeats 1000000 in
theorem cStep_jz0 (h : CMach D lab w bm mb tv m ts) (k : Nat) (hk : k < ts.length) (hs : ts[k].T.st = 0) (p : Nat) (hpl : ts[k].T.pl = p) (hp : p < ts[k].code.length) (hcl : ts[k].code.length ≤ 4000) (x y z : Vl) (d n : Int)
    (hic : dOf (ts[k].code[p]'hp) = ⟨⟨#[106, 122]⟩, d, x, y, z, n⟩) (hx : x.ok) (hy : y.ok) (hz : x.of ts[k].T = 0) :
    Calls Tryz.prog 49 #[ptr bm, .int .i64 k] w fun e w' => e = .returned (.tuple #[]) ∧ CMach D lab w' bm mb tv m (ts.set k { ts[k] with T := { ts[k].T with pl := n } }) ∧ Chg (fun j _ => D j) w w' := by
  have H := hid h
  have hab : (x.of ts[k].T == 0) = true := by simpa using hz
  obtain ⟨tg, tk, rfl, p1, p2, _⟩ := thr_ptr h k hk
  have hc := h.tc
  have hth := h.th k hk
  have c5 := hth.state
  have f5 := hth.free 5 (by omega)
  have c1 := hth.pc
  have f1 := hth.free 1 (by omega)
  have c0 := hth.codec
  have hrow := hth.crow
  obtain ⟨cg, ck, hcv⟩ : ∃ cg ck, ts[k].cv = .slice (some ⟨cg, 0, none⟩) ts[k].code.length ck := by
    rcases hrow.2 with ⟨e1, e2⟩ | ⟨g', cap', cur, e1, _⟩
    · omega
    · exact ⟨g', cap', e1⟩
  rw [hcv] at c0 hrow
  rw [hs] at c5
  rw [hpl] at c1
  have I : ∀ j u, j < 9 → (insCells (ts[k].code[p]'hp))[j]? = some u → w.cell? ⟨cg, p * 9 + j, none⟩ = some u := fun j u hj hu => code_at hrow p hp j hj u hu
  unfold insCells at I
  rw [hic] at I
  have i0 := I 0 _ (by omega) rfl
  have i1 := I 1 _ (by omega) rfl
  have i2 := I 2 _ (by omega) rfl
  have i3 := I 3 _ (by omega) rfl
  have i4 := I 4 _ (by omega) rfl
  have i5 := I 5 _ (by omega) rfl
  have i6 := I 6 _ (by omega) rfl
  have i7 := I 7 _ (by omega) rfl
  have i8 := I 8 _ (by omega) rfl
  have hk0 : ¬ (k : Int) < 0 := by omega
  have hk1 : (k : Int) < (ts.length : Int) := by omega
  have hp1 : (p : Int) < (ts[k].code.length : Int) := by omega
  simp only [Nat.add_zero] at i0 i1 i2 i3 i4 i5 i6 i7 i8
  have hlb := lt_of_shape hth.sh
  have hlc : cg < w.heap.size := World.block_lt_of_cell? _ _ i0
  clear h hth hcv hs hrow I
  generalize hTb : ts[k].b = tb at *
  clear hic
  go_enter Tryz.func49, Tryz.ntmps49
  go_wp2_with fail
  go_region
  all_goals
    go_wp2_with fail
    go_region
    all_goals
      go_wp2_with fail
      generalize hA : World.drew _ = WA
      obtain ⟨r1, r2⟩ := cm_pc H.out k hk ((p : Int) + 1)
      rw [hTb] at r1 r2
      have HM : Hid (CMach D lab WA bm mb (.slice (some ⟨tg, 0, none⟩) ts.length tk) m (ts.set k { ts[k] with T := { ts[k].T with pl := (p : Int) + 1 } })) := hid (by rw [← hA]; simpa [hTb] using ((r1.below ((Below.refl _ _).alloc (Nat.le_refl _) _)).keep (M := fun _ _ => False) (((Chg.refl _ _).drew).drew) (fun _ _ _ e => e)))
      have HC : Hid (Chg (fun j _ => D j) w WA) := hid (by rw [← hA]; exact ((r2.alloc _).drew).drew)
      have hsz : (w.setCell ⟨tb, 1, none⟩ (.int .i64 ((p : Int) + 1))).heap.size = w.heap.size := size_set _ _ _
      have iw : WA.cell? ⟨w.heap.size, 0, none⟩ = some (.string ⟨#[106, 122]⟩) := by rw [← hA, ← hsz]; exact World.cell?_alloc_new _ _ _ 0
      have ib : WA.cell? ⟨w.heap.size, 4, none⟩ = some (.bool y.reg) := by rw [← hA, ← hsz]; exact World.cell?_alloc_new _ _ _ 4
      have ibv : WA.cell? ⟨w.heap.size, 5, none⟩ = some (.int .i64 y.v) := by rw [← hA, ← hsz]; exact World.cell?_alloc_new _ _ _ 5
      have ik : WA.cell? ⟨w.heap.size, 8, none⟩ = some (.int .i64 n) := by rw [← hA, ← hsz]; exact World.cell?_alloc_new _ _ _ 8
      have lI : w.heap.size < WA.heap.size := World.block_lt_of_cell? _ _ iw
      clear hA r1 r2 hsz
      have hks : k < (ts.set k { ts[k] with T := { ts[k].T with pl := (p : Int) + 1 } }).length := by simpa using hk
      have hth2 := HM.out.th k hks
      rw [set_get hk] at hth2
      have G1 := cGet_any hth2 x hx
      simp only [hTb] at G1
      have hxx : x.of { ts[k].T with pl := (p : Int) + 1 } = x.of ts[k].T := rfl
      rw [hxx] at G1
      generalize hav : x.of ts[k].T = av at *
      refine G1.mono ?_
      rintro e W2 ⟨rfl, b2⟩
      have HM2 := hid (HM.out.below b2)
      have iw2 := (b2.cell (p := ⟨w.heap.size, 0, none⟩) lI).trans iw
      have ib2 := (b2.cell (p := ⟨w.heap.size, 4, none⟩) lI).trans ib
      have ibv2 := (b2.cell (p := ⟨w.heap.size, 5, none⟩) lI).trans ibv
      have ik2 := (b2.cell (p := ⟨w.heap.size, 8, none⟩) lI).trans ik
      have lI2 : w.heap.size < W2.heap.size := World.block_lt_of_cell? _ _ iw2
      have HC2 := hid (HC.out.trans (Chg.of_below b2))
      clear b2 iw ib ibv ik hth2 HM HC G1
      go_wp2_with fail
      have hth3 := HM2.out.th k hks
      rw [set_get hk] at hth3
      have G2 := cGet_any hth3 y hy
      simp only [hTb] at G2
      refine G2.mono ?_
      rintro e W3 ⟨rfl, b3⟩
      have HM3 := hid (HM2.out.below b3)
      have iw3 := (b3.cell (p := ⟨w.heap.size, 0, none⟩) lI2).trans iw2
      have ik3 := (b3.cell (p := ⟨w.heap.size, 8, none⟩) lI2).trans ik2
      have HC3 := hid (HC2.out.trans (Chg.of_below b3))
      have hth4 := HM3.out.th k hks
      rw [set_get hk] at hth4
      have c5' := hth4.pc
      have f5' := hth4.free 1 (by omega)
      simp only [hTb] at c5' f5'
      clear b3 hth3 hth4 HM2 HC2 iw2 ib2 ibv2 ik2 G2
      go_wp2
      go_end0
      have key := cm_pc HM3.out k hks n
      rw [set_get hk] at key
      simp only [List.set_set] at key
      simp only [hTb] at key
      exact ⟨rfl, by simpa [hTb] using key.1, HC3.out.trans key.2⟩

set_option maxRecDepth 100000 in
set_option maxHeartbeats 1000000 in
theorem cStep_jz1 (h : CMach D lab w bm mb tv m ts) (k : Nat) (hk : k < ts.length) (hs : ts[k].T.st = 0) (p : Nat) (hpl : ts[k].T.pl = p) (hp : p < ts[k].code.length) (hcl : ts[k].code.length ≤ 4000) (x y z : Vl) (d n : Int)
    (hic : dOf (ts[k].code[p]'hp) = ⟨⟨#[106, 122]⟩, d, x, y, z, n⟩) (hx : x.ok) (hy : y.ok) (hz : ¬ x.of ts[k].T = 0) :
    Calls Tryz.prog 49 #[ptr bm, .int .i64 k] w fun e w' => e = .returned (.tuple #[]) ∧ CMach D lab w' bm mb tv m (ts.set k { ts[k] with T := { ts[k].T with pl := (p : Int) + 1 } }) ∧ Chg (fun j _ => D j) w w' := by
  have H := hid h
  have hab : (x.of ts[k].T == 0) = false := by simpa using hz
  obtain ⟨tg, tk, rfl, p1, p2, _⟩ := thr_ptr h k hk
  have hc := h.tc
  have hth := h.th k hk
  have c5 := hth.state
  have f5 := hth.free 5 (by omega)
  have c1 := hth.pc
  have f1 := hth.free 1 (by omega)
  have c0 := hth.codec
  have hrow := hth.crow
  obtain ⟨cg, ck, hcv⟩ : ∃ cg ck, ts[k].cv = .slice (some ⟨cg, 0, none⟩) ts[k].code.length ck := by
    rcases hrow.2 with ⟨e1, e2⟩ | ⟨g', cap', cur, e1, _⟩
    · omega
    · exact ⟨g', cap', e1⟩
  rw [hcv] at c0 hrow
  rw [hs] at c5
  rw [hpl] at c1
  have I : ∀ j u, j < 9 → (insCells (ts[k].code[p]'hp))[j]? = some u → w.cell? ⟨cg, p * 9 + j, none⟩ = some u := fun j u hj hu => code_at hrow p hp j hj u hu
  unfold insCells at I
  rw [hic] at I
  have i0 := I 0 _ (by omega) rfl
  have i1 := I 1 _ (by omega) rfl
  have i2 := I 2 _ (by omega) rfl
  have i3 := I 3 _ (by omega) rfl
  have i4 := I 4 _ (by omega) rfl
  have i5 := I 5 _ (by omega) rfl
  have i6 := I 6 _ (by omega) rfl
  have i7 := I 7 _ (by omega) rfl
  have i8 := I 8 _ (by omega) rfl
  have hk0 : ¬ (k : Int) < 0 := by omega
  have hk1 : (k : Int) < (ts.length : Int) := by omega
  have hp1 : (p : Int) < (ts[k].code.length : Int) := by omega
  simp only [Nat.add_zero] at i0 i1 i2 i3 i4 i5 i6 i7 i8
  have hlb := lt_of_shape hth.sh
  have hlc : cg < w.heap.size := World.block_lt_of_cell? _ _ i0
  clear h hth hcv hs hrow I
  generalize hTb : ts[k].b = tb at *
  clear hic
  go_enter Tryz.func49, Tryz.ntmps49
  go_wp2_with fail
  go_region
  all_goals
    go_wp2_with fail
    go_region
    all_goals
      go_wp2_with fail
      generalize hA : World.drew _ = WA
      obtain ⟨r1, r2⟩ := cm_pc H.out k hk ((p : Int) + 1)
      rw [hTb] at r1 r2
      have HM : Hid (CMach D lab WA bm mb (.slice (some ⟨tg, 0, none⟩) ts.length tk) m (ts.set k { ts[k] with T := { ts[k].T with pl := (p : Int) + 1 } })) := hid (by rw [← hA]; simpa [hTb] using ((r1.below ((Below.refl _ _).alloc (Nat.le_refl _) _)).keep (M := fun _ _ => False) (((Chg.refl _ _).drew).drew) (fun _ _ _ e => e)))
      have HC : Hid (Chg (fun j _ => D j) w WA) := hid (by rw [← hA]; exact ((r2.alloc _).drew).drew)
      have hsz : (w.setCell ⟨tb, 1, none⟩ (.int .i64 ((p : Int) + 1))).heap.size = w.heap.size := size_set _ _ _
      have iw : WA.cell? ⟨w.heap.size, 0, none⟩ = some (.string ⟨#[106, 122]⟩) := by rw [← hA, ← hsz]; exact World.cell?_alloc_new _ _ _ 0
      have ib : WA.cell? ⟨w.heap.size, 4, none⟩ = some (.bool y.reg) := by rw [← hA, ← hsz]; exact World.cell?_alloc_new _ _ _ 4
      have ibv : WA.cell? ⟨w.heap.size, 5, none⟩ = some (.int .i64 y.v) := by rw [← hA, ← hsz]; exact World.cell?_alloc_new _ _ _ 5
      have ik : WA.cell? ⟨w.heap.size, 8, none⟩ = some (.int .i64 n) := by rw [← hA, ← hsz]; exact World.cell?_alloc_new _ _ _ 8
      have lI : w.heap.size < WA.heap.size := World.block_lt_of_cell? _ _ iw
      clear hA r1 r2 hsz
      have hks : k < (ts.set k { ts[k] with T := { ts[k].T with pl := (p : Int) + 1 } }).length := by simpa using hk
      have hth2 := HM.out.th k hks
      rw [set_get hk] at hth2
      have G1 := cGet_any hth2 x hx
      simp only [hTb] at G1
      have hxx : x.of { ts[k].T with pl := (p : Int) + 1 } = x.of ts[k].T := rfl
      rw [hxx] at G1
      generalize hav : x.of ts[k].T = av at *
      refine G1.mono ?_
      rintro e W2 ⟨rfl, b2⟩
      have HM2 := hid (HM.out.below b2)
      have iw2 := (b2.cell (p := ⟨w.heap.size, 0, none⟩) lI).trans iw
      have ib2 := (b2.cell (p := ⟨w.heap.size, 4, none⟩) lI).trans ib
      have ibv2 := (b2.cell (p := ⟨w.heap.size, 5, none⟩) lI).trans ibv
      have ik2 := (b2.cell (p := ⟨w.heap.size, 8, none⟩) lI).trans ik
      have lI2 : w.heap.size < W2.heap.size := World.block_lt_of_cell? _ _ iw2
      have HC2 := hid (HC.out.trans (Chg.of_below b2))
      clear b2 iw ib ibv ik hth2 HM HC G1
      go_wp2_with fail
      have hth3 := HM2.out.th k hks
      rw [set_get hk] at hth3
      have G2 := cGet_any hth3 y hy
      simp only [hTb] at G2
      refine G2.mono ?_
      rintro e W3 ⟨rfl, b3⟩
      have HM3 := hid (HM2.out.below b3)
      have iw3 := (b3.cell (p := ⟨w.heap.size, 0, none⟩) lI2).trans iw2
      have ik3 := (b3.cell (p := ⟨w.heap.size, 8, none⟩) lI2).trans ik2
      have HC3 := hid (HC2.out.trans (Chg.of_below b3))
      have hth4 := HM3.out.th k hks
      rw [set_get hk] at hth4
      have c5' := hth4.pc
      have f5' := hth4.free 1 (by omega)
      simp only [hTb] at c5' f5'
      clear b3 hth3 hth4 HM2 HC2 iw2 ib2 ibv2 ik2 G2
      go_wp2
      go_end0
      exact ⟨rfl, by simpa [hTb] using HM3.out, HC3.out⟩
end
end Go.Proofs.YtfhkfnoajbbfdaaGreatDoor
