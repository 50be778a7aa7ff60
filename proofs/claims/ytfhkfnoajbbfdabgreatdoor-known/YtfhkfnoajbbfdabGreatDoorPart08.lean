import Derived.Test.YtfhkfnoajbbfdabGreatDoorPart05
import Derived.Test.YtfhkfnoajbbfdabGreatDoorPart06
import Derived.Test.YtfhkfnoajbbfdabGreatDoorPart07
namespace Go.Proofs.YtfhkfnoajbbfdabGreatDoor
open Go.RowKit

attribute [local go_sem] mNumOf mRegOf mEnd mDrain mGive mLeap mSetRegister mStore mLoad mSetCell nGive nStore nSetCell

section
variable {w : World} {b bm : Nat} {iv ov : Value} {T : Th} {m : Nat → Int}

set_option maxRecDepth 100000 in
set_option maxHeartbeats 1000000 in
theorem do_give (h : ThAt w b bm iv ov T) (hm : MemAt w bm m) (x : Vl) (hx : x.ok) (hl : T.out.length < 1099511627776) :
    Calls Tryz.prog 311 #[.agg #[encVl x], ifc b] w fun e w' => e = .returned (.tuple #[]) ∧ Eff w b bm iv ov { T with out := T.out ++ [x.of T] } m w' := by
  have hmf : ∀ (fn : Fn) (first cap : Array Value) (w : World), (Instr.makeFunc fn first cap).run Tryz.prog w = .ok (.func fn first cap) w := fun _ _ _ _ => rfl
  obtain ⟨r, v⟩ := x
  have H := hid h
  have HM := hid hm
  have HL := hid hl
  cases r
  · simp only [encVl, Vl.of, Bool.false_eq_true, if_false]
    clear h hm hl hx
    go_enter Tryz.func311, Tryz.ntmps311
    go_wp2
    go_region_with (first
      | (go_at_call 322; refine (numOf_any _ _ _).mono ?_; rintro e w' ⟨rfl, rfl⟩)
      | (go_at_call 329; refine (th_give (H.out.below (below_boxd _ _)) (HM.out.below (below_boxd _ _)) v HL.out).mono ?_; rintro e w1 ⟨rfl, h1⟩; have H1 := hid h1; clear h1))
    all_goals go_wp2
    all_goals go_end0
    all_goals exact ⟨rfl, H1.out.base (below_boxd _ _)⟩
  · simp only [encVl, Vl.of, if_true]
    have hv := hx rfl
    simp only at hv
    have hreg := h.reg hv.1 hv.2
    generalize T.r v.toNat = u at hreg ⊢
    clear h hm hl hx
    go_enter Tryz.func311, Tryz.ntmps311
    go_wp2
    go_region_with (first
      | (go_at_call 297; refine (regOf_any b v u _ hv.1 hv.2 (hreg _)).mono ?_; rintro e w' ⟨rfl, rfl⟩)
      | (go_at_call 329; refine (th_give (H.out.below (below_boxd _ _)) (HM.out.below (below_boxd _ _)) u HL.out).mono ?_; rintro e w1 ⟨rfl, h1⟩; have H1 := hid h1; clear h1))
    all_goals go_wp2
    all_goals go_end0
    all_goals exact ⟨rfl, H1.out.base (below_boxd _ _)⟩
end
end Go.Proofs.YtfhkfnoajbbfdabGreatDoor

namespace Go.Proofs.YtfhkfnoajbbfdabGreatDoor
open Go.RowKit

attribute [local go_sem] mNumOf mRegOf mEnd mDrain mGive mLeap mSetRegister mStore mLoad mSetCell nGive nStore nSetCell

section
variable {w : World} {b bm : Nat} {iv ov : Value} {T : Th} {m : Nat → Int}

theorem th_load (h : ThAt w b bm iv ov T) (hm : MemAt w bm m) (a : Int) (h0 : 0 ≤ a) (h1 : a < 256) :
    Calls Tryz.prog 331 #[ptr b, .int .i64 a] w fun e W' => e = .returned (.int .i64 (seenIn T.q.reverse a (m a.toNat))) ∧ Below w.heap.size w W' :=
  loadQ b bm T.q a (m a.toNat) w h0 h1 hm.lt h.mem (hm.cells _ (by omega)) h.ring

theorem box_kept {w w1 : World} {o : Obj} (h : Below (w.alloc o).heap.size (w.alloc o) w1) {i : Nat} {v : Option Value} (hv : (w.alloc o).cell? ⟨w.heap.size, i, none⟩ = v) : w1.cell? ⟨w.heap.size, i, none⟩ = v :=
  (h.cell (p := ⟨w.heap.size, i, none⟩) (by simp)).trans hv

set_option maxRecDepth 100000 in
set_option maxHeartbeats 1000000 in
theorem do_load_in (h : ThAt w b bm iv ov T) (hm : MemAt w bm m) (x : Vl) (hx : x.ok) (n d : Int) (d0 : 0 ≤ d) (d1 : d < 8) (h0 : 0 ≤ atOf x n T) (h1 : atOf x n T < 256) :
    Calls Tryz.prog 306 #[.agg #[.int .i64 d, encVl x, .int .i64 n], ifc b] w fun e w' => e = .returned (.tuple #[]) ∧ Eff w b bm iv ov (T.setR d.toNat (seenIn T.q.reverse (atOf x n T) (m (atOf x n T).toNat))) m w' := by
  have H := hid h
  have HM := hid hm
  clear h hm
  have hx1 : ∃ t u, encVl x = .iface t u := by unfold encVl; split <;> exact ⟨_, _, rfl⟩
  have hon := fun (W : World) (hB : Below w.heap.size w W) => cellOn_in (H.out.below hB) x hx n h0 h1
  obtain ⟨t, u, hxe⟩ := hx1
  rw [hxe] at hon ⊢
  have HO := hid hon
  clear hon hxe hx
  generalize atOf x n T = a at *
  go_enter Tryz.func306, Tryz.ntmps306
  go_wp2_with fail
  refine (HO.out _ (below_box _ _)).mono ?_
  rintro e w1 ⟨rfl, hb1⟩
  have hd := box_kept (i := 0) (v := some (.int .i64 d)) hb1 (by simp [go_sem])
  have hB1 : Below w.heap.size w w1 := (below_box _ _).trans (hb1.mono (by simp))
  have HB := hid hB1
  have HB1 := hid hb1
  have hs1 : w.heap.size < w1.heap.size := by have := hb1.size; simp at this; omega
  clear hb1 hB1 HO
  go_wp2
  go_region_with (first
    | (go_at_call 331; refine (th_load (H.out.below HB.out.drew) (HM.out.below HB.out.drew) a h0 h1).mono ?_; rintro e w2 ⟨rfl, hb2⟩; have hd2 := (hb2.cell (p := ⟨w.heap.size, 0, none⟩) hs1).trans hd; have HB2 := hid (HB.out.drew.trans (hb2.mono (Nat.le_of_lt hs1))); clear hb2)
    | (go_at_call 300; refine (regSet_any b d _ _ _ d0 d1 ((H.out.below HB2.out).regs _ (by omega)) ((H.out.below HB2.out).free _ (by omega))).mono ?_; rintro e w3 ⟨rfl, rfl⟩))
  all_goals go_wp2
  all_goals go_end0
  all_goals exact ⟨rfl, ((H.out.below HB2.out).effReg (HM.out.below HB2.out) (by omega) _).base HB2.out⟩

set_option maxRecDepth 100000 in
set_option maxHeartbeats 1000000 in
theorem do_load_out (h : ThAt w b bm iv ov T) (hm : MemAt w bm m) (x : Vl) (hx : x.ok) (n d : Int) (h0 : ¬ (0 ≤ atOf x n T ∧ atOf x n T < 256)) :
    Calls Tryz.prog 306 #[.agg #[.int .i64 d, encVl x, .int .i64 n], ifc b] w fun e w' => e = .returned (.tuple #[]) ∧ Eff w b bm iv ov { T with st := 9 } m w' := by
  have hx1 : ∃ t u, encVl x = .iface t u := by unfold encVl; split <;> exact ⟨_, _, rfl⟩
  have hon := fun (W : World) (hB : Below w.heap.size w W) => cellOn_out (h.below hB) (hm.below hB) x hx n h0
  obtain ⟨t, u, hxe⟩ := hx1
  rw [hxe] at hon ⊢
  have HO := hid hon
  clear hon hxe hx h hm
  go_enter Tryz.func306, Tryz.ntmps306
  go_wp2_with fail
  refine (HO.out _ (below_box _ _)).mono ?_
  rintro e w1 ⟨rfl, h1⟩
  have H1 := hid h1
  clear h1 HO
  go_wp2
  go_end0
  exact ⟨rfl, H1.out.base (below_box _ _)⟩
end
end Go.Proofs.YtfhkfnoajbbfdabGreatDoor
