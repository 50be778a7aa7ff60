import Derived.Test.YtfhkfnoajbbfdaaGreatDoorPart44
/- The document's Step: the twelve operations (written by gen-cm18.py). -/
namespace Go.Proofs.YtfhkfnoajbbfdaaGreatDoor
open Go.RowKit

theorem op_ne (op : Nat) (hop : op < 12) : ((opWords op).toList == [109, 111, 118]) = false ∧ ((opWords op).toList == [111, 117, 116]) = false ∧ ((opWords op).toList == [102, 101, 110, 99, 101]) = false ∧ ((opWords op).toList == [106, 109, 112]) = false ∧ ((opWords op).toList == [106, 122]) = false ∧ ((opWords op).toList == [116, 114, 97, 112]) = false ∧ ((opWords op).toList == [104, 97, 108, 116]) = false ∧ ((opWords op).toList == [108, 111, 97, 100]) = false ∧ ((opWords op).toList == [115, 116, 111, 114, 101]) = false ∧ ((opWords op).toList == [99, 97, 115]) = false ∧ ((opWords op).toList == [120, 97, 100, 100]) = false := by
  rw [ByteArray.toList_eq]
  have hc : op = 0 ∨ op = 1 ∨ op = 2 ∨ op = 3 ∨ op = 4 ∨ op = 5 ∨ op = 6 ∨ op = 7 ∨ op = 8 ∨ op = 9 ∨ op = 10 ∨ op = 11 := by omega
  rcases hc with rfl | rfl | rfl | rfl | rfl | rfl | rfl | rfl | rfl | rfl | rfl | rfl <;> decide

section
variable {D : Nat → Prop} {lab : Nat → Nat × Nat} {w : World} {bm mb : Nat} {tv : Value} {m : Nat → Int} {ts : List CT}

set_option maxRecDepth 100000 in
set_option maxHeartbeats 1000000 in
theorem cStep_op1 (h : CMach D lab w bm mb tv m ts) (k : Nat) (hk : k < ts.length) (hs : ts[k].T.st = 0) (p : Nat) (hpl : ts[k].T.pl = p) (hp : p < ts[k].code.length) (hcl : ts[k].code.length ≤ 4000) (x y z : Vl) (op : Nat) (hop : op < 12) (d : Nat) (hd : d < 8) (n : Int) (v : Int)
    (hic : dOf (ts[k].code[p]'hp) = ⟨opWords op, d, x, y, z, n⟩) (hx : x.ok) (hy : y.ok) (hin : In64 (x.of ts[k].T)) (hv : opV op (x.of ts[k].T) (y.of ts[k].T) = some v) :
    Calls Tryz.prog 49 #[ptr bm, .int .i64 k] w fun e w' => e = .returned (.tuple #[]) ∧ CMach D lab w' bm mb tv m (ts.set k { ts[k] with T := { ts[k].T with pl := (p : Int) + 1 }.setR d v }) ∧ Chg (fun j _ => D j) w w' := by
  have H := hid h
  obtain ⟨n1, n2, n3, n4, n5, n6, n7, n8, n9, n10, n11⟩ := op_ne op hop
  have HMD : Hid (∀ W, Calls Tryz.prog 74 #[.string (opWords op), .int .i64 (x.of ts[k].T), .int .i64 (y.of ts[k].T)] W fun e w' => e = .returned (.tuple #[.int .i64 v, .bool true]) ∧ w' = W) := hid (fun W => by
    have := cMade_any W (x.of ts[k].T) (y.of ts[k].T) hin op hop
    rw [hv] at this
    exact this)
  generalize opWords op = u at *
  obtain ⟨tg, tk, rfl, p1, p2, _⟩ := thr_ptr h k hk
  have hc := h.tc
  have hth := h.th k hk
  have c5 := hth.state
  have f5 := hth.free 5 (by omega)
  have c1 := hth.pc
  have f1 := hth.free 1 (by omega)
  have c0 := hth.codec
  have hrow := hth.crow
  obtain ⟨cg, ck, hcv⟩ : ∃ cg ck, ts[k].cv = .slice (some ⟨cg, 0, none⟩) ts[k].code.length ck := by
    rcases hrow.2 with ⟨e1, e2⟩ | ⟨g', cap', cur, e1, _⟩
    · omega
    · exact ⟨g', cap', e1⟩
  rw [hcv] at c0 hrow
  rw [hs] at c5
  rw [hpl] at c1
  have I : ∀ j u, j < 9 → (insCells (ts[k].code[p]'hp))[j]? = some u → w.cell? ⟨cg, p * 9 + j, none⟩ = some u := fun j u hj hu => code_at hrow p hp j hj u hu
  unfold insCells at I
  rw [hic] at I
  have i0 := I 0 _ (by omega) rfl
  have i1 := I 1 _ (by omega) rfl
  have i2 := I 2 _ (by omega) rfl
  have i3 := I 3 _ (by omega) rfl
  have i4 := I 4 _ (by omega) rfl
  have i5 := I 5 _ (by omega) rfl
  have i6 := I 6 _ (by omega) rfl
  have i7 := I 7 _ (by omega) rfl
  have i8 := I 8 _ (by omega) rfl
  have hk0 : ¬ (k : Int) < 0 := by omega
  have hk1 : (k : Int) < (ts.length : Int) := by omega
  have hp1 : (p : Int) < (ts[k].code.length : Int) := by omega
  simp only [Nat.add_zero] at i0 i1 i2 i3 i4 i5 i6 i7 i8
  have hlb := lt_of_shape hth.sh
  have hlc : cg < w.heap.size := World.block_lt_of_cell? _ _ i0
  clear h hth hcv hs hrow I
  generalize hTb : ts[k].b = tb at *
  clear hic
  go_enter Tryz.func49, Tryz.ntmps49
  go_wp2_with fail
  go_region
  all_goals
    go_wp2_with fail
    go_region
    all_goals
      go_wp2_with fail
      generalize hA : World.drew _ = WA
      obtain ⟨r1, r2⟩ := cm_pc H.out k hk ((p : Int) + 1)
      rw [hTb] at r1 r2
      have HM : Hid (CMach D lab WA bm mb (.slice (some ⟨tg, 0, none⟩) ts.length tk) m (ts.set k { ts[k] with T := { ts[k].T with pl := (p : Int) + 1 } })) := hid (by rw [← hA]; simpa [hTb] using ((r1.below ((Below.refl _ _).alloc (Nat.le_refl _) _)).keep (M := fun _ _ => False) (((Chg.refl _ _).drew).drew) (fun _ _ _ e => e)))
      have HC : Hid (Chg (fun j _ => D j) w WA) := hid (by rw [← hA]; exact ((r2.alloc _).drew).drew)
      have hsz : (w.setCell ⟨tb, 1, none⟩ (.int .i64 ((p : Int) + 1))).heap.size = w.heap.size := size_set _ _ _
      have q0 : WA.cell? ⟨w.heap.size, 0, none⟩ = some (.string u) := by rw [← hA, ← hsz]; exact World.cell?_alloc_new _ _ _ 0
      have q1 : WA.cell? ⟨w.heap.size, 1, none⟩ = some (.int .i64 d) := by rw [← hA, ← hsz]; exact World.cell?_alloc_new _ _ _ 1
      have q4 : WA.cell? ⟨w.heap.size, 4, none⟩ = some (.bool y.reg) := by rw [← hA, ← hsz]; exact World.cell?_alloc_new _ _ _ 4
      have q5 : WA.cell? ⟨w.heap.size, 5, none⟩ = some (.int .i64 y.v) := by rw [← hA, ← hsz]; exact World.cell?_alloc_new _ _ _ 5
      have lI : w.heap.size < WA.heap.size := World.block_lt_of_cell? _ _ q0
      clear hA r1 r2 hsz
      have hks : k < (ts.set k { ts[k] with T := { ts[k].T with pl := (p : Int) + 1 } }).length := by simpa using hk
      have hth2 := HM.out.th k hks
      rw [set_get hk] at hth2
      have G1 := cGet_any hth2 x hx
      simp only [hTb] at G1
      have hxx : x.of { ts[k].T with pl := (p : Int) + 1 } = x.of ts[k].T := rfl
      rw [hxx] at G1
      generalize hav : x.of ts[k].T = av at *
      refine G1.mono ?_
      rintro e W2 ⟨rfl, b2⟩
      have HM2 := hid (HM.out.below b2)
      have r0 := (b2.cell (p := ⟨w.heap.size, 0, none⟩) lI).trans q0
      have r1 := (b2.cell (p := ⟨w.heap.size, 1, none⟩) lI).trans q1
      have r4 := (b2.cell (p := ⟨w.heap.size, 4, none⟩) lI).trans q4
      have r5 := (b2.cell (p := ⟨w.heap.size, 5, none⟩) lI).trans q5
      have lI2 : w.heap.size < W2.heap.size := World.block_lt_of_cell? _ _ r0
      have HC2 := hid (HC.out.trans (Chg.of_below b2))
      clear b2 q0 q1 q4 q5 hth2 HM HC G1
      go_wp2_with fail
      have hth3 := HM2.out.th k hks
      rw [set_get hk] at hth3
      have G2 := cGet_any hth3 y hy
      simp only [hTb] at G2
      have hyy : y.of { ts[k].T with pl := (p : Int) + 1 } = y.of ts[k].T := rfl
      rw [hyy] at G2
      generalize hbv : y.of ts[k].T = bv at *
      refine G2.mono ?_
      rintro e W3 ⟨rfl, b3⟩
      have HM3 := hid (HM2.out.below b3)
      have s0 := (b3.cell (p := ⟨w.heap.size, 0, none⟩) lI2).trans r0
      have s1 := (b3.cell (p := ⟨w.heap.size, 1, none⟩) lI2).trans r1
      have lI3 : w.heap.size < W3.heap.size := World.block_lt_of_cell? _ _ s0
      have HC3 := hid (HC2.out.trans (Chg.of_below b3))
      have hth4 := HM3.out.th k hks
      rw [set_get hk] at hth4
      have cr := hth4.regs
      have crd := hth4.rcell d hd
      have frd := hth4.rfree d hd
      simp only [hTb] at cr
      have hd1 : (d : Int) < 8 := by omega
      clear b3 hth3 hth4 HM2 HC2 r0 r1 r4 r5 G2
      generalize hRb : ts[k].rb = rb at *
      go_wp2_with fail
      refine (HMD.out W3).mono ?_
      rintro e W4 ⟨rfl, rfl⟩
      go_wp2_with fail
      go_region
      all_goals
        go_wp2
        go_end0
        subst hRb
        have key := cm_reg HM3.out k hks d hd v
        rw [set_get hk] at key
        simp only [List.set_set] at key
        exact ⟨rfl, by simpa [hTb] using key.1.keep (M := fun _ _ => False) ((Chg.refl _ _).drew) (fun _ _ _ e => e), (HC3.out.trans key.2).drew⟩

set_option maxRecDepth 100000 in
set_option maxHeartbeats 1000000 in
theorem cStep_op0 (h : CMach D lab w bm mb tv m ts) (k : Nat) (hk : k < ts.length) (hs : ts[k].T.st = 0) (p : Nat) (hpl : ts[k].T.pl = p) (hp : p < ts[k].code.length) (hcl : ts[k].code.length ≤ 4000) (x y z : Vl) (op : Nat) (hop : op < 12) (d : Int) (n : Int)
    (hic : dOf (ts[k].code[p]'hp) = ⟨opWords op, d, x, y, z, n⟩) (hx : x.ok) (hy : y.ok) (hin : In64 (x.of ts[k].T)) (hv : opV op (x.of ts[k].T) (y.of ts[k].T) = none) :
    Calls Tryz.prog 49 #[ptr bm, .int .i64 k] w fun e w' => e = .returned (.tuple #[]) ∧ CMach D lab w' bm mb tv m (ts.set k { ts[k] with T := { ts[k].T with pl := (p : Int) + 1, st := 1 } }) ∧ Chg (fun j _ => D j) w w' := by
  have H := hid h
  obtain ⟨n1, n2, n3, n4, n5, n6, n7, n8, n9, n10, n11⟩ := op_ne op hop
  have HMD : Hid (∀ W, Calls Tryz.prog 74 #[.string (opWords op), .int .i64 (x.of ts[k].T), .int .i64 (y.of ts[k].T)] W fun e w' => e = .returned (.tuple #[.int .i64 0, .bool false]) ∧ w' = W) := hid (fun W => by
    have := cMade_any W (x.of ts[k].T) (y.of ts[k].T) hin op hop
    rw [hv] at this
    exact this)
  generalize opWords op = u at *
  obtain ⟨tg, tk, rfl, p1, p2, _⟩ := thr_ptr h k hk
  have hc := h.tc
  have hth := h.th k hk
  have c5 := hth.state
  have f5 := hth.free 5 (by omega)
  have c1 := hth.pc
  have f1 := hth.free 1 (by omega)
  have c0 := hth.codec
  have hrow := hth.crow
  obtain ⟨cg, ck, hcv⟩ : ∃ cg ck, ts[k].cv = .slice (some ⟨cg, 0, none⟩) ts[k].code.length ck := by
    rcases hrow.2 with ⟨e1, e2⟩ | ⟨g', cap', cur, e1, _⟩
    · omega
    · exact ⟨g', cap', e1⟩
  rw [hcv] at c0 hrow
  rw [hs] at c5
  rw [hpl] at c1
  have I : ∀ j u, j < 9 → (insCells (ts[k].code[p]'hp))[j]? = some u → w.cell? ⟨cg, p * 9 + j, none⟩ = some u := fun j u hj hu => code_at hrow p hp j hj u hu
  unfold insCells at I
  rw [hic] at I
  have i0 := I 0 _ (by omega) rfl
  have i1 := I 1 _ (by omega) rfl
  have i2 := I 2 _ (by omega) rfl
  have i3 := I 3 _ (by omega) rfl
  have i4 := I 4 _ (by omega) rfl
  have i5 := I 5 _ (by omega) rfl
  have i6 := I 6 _ (by omega) rfl
  have i7 := I 7 _ (by omega) rfl
  have i8 := I 8 _ (by omega) rfl
  have hk0 : ¬ (k : Int) < 0 := by omega
  have hk1 : (k : Int) < (ts.length : Int) := by omega
  have hp1 : (p : Int) < (ts[k].code.length : Int) := by omega
  simp only [Nat.add_zero] at i0 i1 i2 i3 i4 i5 i6 i7 i8
  have hlb := lt_of_shape hth.sh
  have hlc : cg < w.heap.size := World.block_lt_of_cell? _ _ i0
  clear h hth hcv hs hrow I
  generalize hTb : ts[k].b = tb at *
  clear hic
  go_enter Tryz.func49, Tryz.ntmps49
  go_wp2_with fail
  go_region
  all_goals
    go_wp2_with fail
    go_region
    all_goals
      go_wp2_with fail
      generalize hA : World.drew _ = WA
      obtain ⟨r1, r2⟩ := cm_pc H.out k hk ((p : Int) + 1)
      rw [hTb] at r1 r2
      have HM : Hid (CMach D lab WA bm mb (.slice (some ⟨tg, 0, none⟩) ts.length tk) m (ts.set k { ts[k] with T := { ts[k].T with pl := (p : Int) + 1 } })) := hid (by rw [← hA]; simpa [hTb] using ((r1.below ((Below.refl _ _).alloc (Nat.le_refl _) _)).keep (M := fun _ _ => False) (((Chg.refl _ _).drew).drew) (fun _ _ _ e => e)))
      have HC : Hid (Chg (fun j _ => D j) w WA) := hid (by rw [← hA]; exact ((r2.alloc _).drew).drew)
      have hsz : (w.setCell ⟨tb, 1, none⟩ (.int .i64 ((p : Int) + 1))).heap.size = w.heap.size := size_set _ _ _
      have q0 : WA.cell? ⟨w.heap.size, 0, none⟩ = some (.string u) := by rw [← hA, ← hsz]; exact World.cell?_alloc_new _ _ _ 0
      have q4 : WA.cell? ⟨w.heap.size, 4, none⟩ = some (.bool y.reg) := by rw [← hA, ← hsz]; exact World.cell?_alloc_new _ _ _ 4
      have q5 : WA.cell? ⟨w.heap.size, 5, none⟩ = some (.int .i64 y.v) := by rw [← hA, ← hsz]; exact World.cell?_alloc_new _ _ _ 5
      have lI : w.heap.size < WA.heap.size := World.block_lt_of_cell? _ _ q0
      clear hA r1 r2 hsz
      have hks : k < (ts.set k { ts[k] with T := { ts[k].T with pl := (p : Int) + 1 } }).length := by simpa using hk
      have hth2 := HM.out.th k hks
      rw [set_get hk] at hth2
      have G1 := cGet_any hth2 x hx
      simp only [hTb] at G1
      have hxx : x.of { ts[k].T with pl := (p : Int) + 1 } = x.of ts[k].T := rfl
      rw [hxx] at G1
      generalize hav : x.of ts[k].T = av at *
      refine G1.mono ?_
      rintro e W2 ⟨rfl, b2⟩
      have HM2 := hid (HM.out.below b2)
      have r0 := (b2.cell (p := ⟨w.heap.size, 0, none⟩) lI).trans q0
      have r4 := (b2.cell (p := ⟨w.heap.size, 4, none⟩) lI).trans q4
      have r5 := (b2.cell (p := ⟨w.heap.size, 5, none⟩) lI).trans q5
      have lI2 : w.heap.size < W2.heap.size := World.block_lt_of_cell? _ _ r0
      have HC2 := hid (HC.out.trans (Chg.of_below b2))
      clear b2 q0 q4 q5 hth2 HM HC G1
      go_wp2_with fail
      have hth3 := HM2.out.th k hks
      rw [set_get hk] at hth3
      have G2 := cGet_any hth3 y hy
      simp only [hTb] at G2
      have hyy : y.of { ts[k].T with pl := (p : Int) + 1 } = y.of ts[k].T := rfl
      rw [hyy] at G2
      generalize hbv : y.of ts[k].T = bv at *
      refine G2.mono ?_
      rintro e W3 ⟨rfl, b3⟩
      have HM3 := hid (HM2.out.below b3)
      have s0 := (b3.cell (p := ⟨w.heap.size, 0, none⟩) lI2).trans r0
      have lI3 : w.heap.size < W3.heap.size := World.block_lt_of_cell? _ _ s0
      have HC3 := hid (HC2.out.trans (Chg.of_below b3))
      have hth4 := HM3.out.th k hks
      rw [set_get hk] at hth4
      have c5' := hth4.state
      have f5' := hth4.free 5 (by omega)
      simp only [hTb] at c5' f5'
      clear b3 hth3 hth4 HM2 HC2 r0 r4 r5 G2
      go_wp2_with fail
      refine (HMD.out W3).mono ?_
      rintro e W4 ⟨rfl, rfl⟩
      go_wp2
      refine bodyPost_ret (results_none rfl _ _ _) rfl ?_
      have key := cm_state HM3.out k hks 1
      rw [set_get hk] at key
      simp only [List.set_set] at key
      simp only [hTb] at key
      exact ⟨rfl, by simpa [hTb] using key.1, HC3.out.trans key.2⟩
end
end Go.Proofs.YtfhkfnoajbbfdaaGreatDoor
