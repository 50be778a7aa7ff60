import Derived.Test.YtfhkfnoajbbfdaaGreatDoorPart11
namespace Go.Proofs.YtfhkfnoajbbfdaaGreatDoor
open Go.RowKit

attribute [local go_sem] mNumOf mRegOf mEnd mDrain mGive mLeap mSetRegister mStore mLoad mSetCell nGive nStore nSetCell

section
variable {w : World} {b bm : Nat} {iv ov : Value} {T : Th} {m : Nat → Int}

theorem encVl_iface (x : Vl) : ∃ t u, encVl x = .iface t u := by unfold encVl; split <;> exact ⟨_, _, rfl⟩

set_option maxRecDepth 100000 in
set_option maxHeartbeats 1000000 in
theorem do_store_out (h : ThAt w b bm iv ov T) (hm : MemAt w bm m) (x y : Vl) (hx : x.ok) (n : Int) (h0 : ¬ (0 ≤ atOf x n T ∧ atOf x n T < 256)) :
    Calls Tryz.prog 325 #[.agg #[encVl x, .int .i64 n, encVl y], ifc b] w fun e w' => e = .returned (.tuple #[]) ∧ Eff w b bm iv ov { T with st := 9 } m w' := by
  have hon := fun (W : World) (hB : Below w.heap.size w W) => cellOn_out (h.below hB) (hm.below hB) x hx n h0
  obtain ⟨t, u, hxe⟩ := encVl_iface x
  obtain ⟨t', u', hye⟩ := encVl_iface y
  rw [hxe] at hon ⊢
  rw [hye]
  have HO := hid hon
  clear hon hxe hx h hm hye
  go_enter Tryz.func325, Tryz.ntmps325
  go_wp2_with fail
  refine (HO.out _ (below_box _ _)).mono ?_
  rintro e w1 ⟨rfl, h1⟩
  have H1 := hid h1
  clear h1 HO
  go_wp2
  go_end0
  exact ⟨rfl, H1.out.base (below_box _ _)⟩

set_option maxRecDepth 100000 in
set_option maxHeartbeats 1000000 in
theorem do_store_num (h : ThAt w b bm iv ov T) (hm : MemAt w bm m) (x : Vl) (hx : x.ok) (n v : Int) (h0 : 0 ≤ atOf x n T) (h1 : atOf x n T < 256) :
    Calls Tryz.prog 325 #[.agg #[encVl x, .int .i64 n, .iface 378 (.int .i64 v)], ifc b] w fun e w' => e = .returned (.tuple #[]) ∧ Eff w b bm iv ov { T with q := (storeQ T.q m (atOf x n T) v).1 } (storeQ T.q m (atOf x n T) v).2 w' := by
  have hmf : ∀ (fn : Fn) (first cap : Array Value) (w : World), (Instr.makeFunc fn first cap).run Tryz.prog w = .ok (.func fn first cap) w := fun _ _ _ _ => rfl
  have H := hid h
  have HM := hid hm
  clear h hm
  have hon := fun (W : World) (hB : Below w.heap.size w W) => cellOn_in (H.out.below hB) x hx n h0 h1
  obtain ⟨t, u, hxe⟩ := encVl_iface x
  rw [hxe] at hon ⊢
  have HO := hid hon
  clear hon hxe hx
  generalize atOf x n T = a at *
  go_enter Tryz.func325, Tryz.ntmps325
  go_wp2_with fail
  refine (HO.out _ (below_box _ _)).mono ?_
  rintro e w1 ⟨rfl, hb1⟩
  have hd := box_kept (i := 2) (v := some (.iface 378 (.int .i64 v))) hb1 (by simp [go_sem])
  have HB := hid ((below_box w _).trans (hb1.mono (by simp)))
  clear hb1 HO
  go_wp2
  go_region_with (first
    | (go_at_call 340; refine (numOf_any _ _ _).mono ?_; rintro e w' ⟨rfl, rfl⟩)
    | (go_at_call 352; refine (th_store (H.out.below HB.out.drew) (HM.out.below HB.out.drew) a v h0 h1).mono ?_; rintro e w2 ⟨rfl, h2⟩; have H2 := hid h2; clear h2))
  all_goals go_wp2
  all_goals go_end0
  all_goals exact ⟨rfl, H2.out.base HB.out.drew⟩

set_option maxRecDepth 100000 in
set_option maxHeartbeats 1000000 in
theorem do_store_reg (h : ThAt w b bm iv ov T) (hm : MemAt w bm m) (x : Vl) (hx : x.ok) (n v : Int) (v0 : 0 ≤ v) (v1 : v < 8) (h0 : 0 ≤ atOf x n T) (h1 : atOf x n T < 256) :
    Calls Tryz.prog 325 #[.agg #[encVl x, .int .i64 n, .iface 300 (.int .i64 v)], ifc b] w fun e w' => e = .returned (.tuple #[]) ∧ Eff w b bm iv ov { T with q := (storeQ T.q m (atOf x n T) (T.r v.toNat)).1 } (storeQ T.q m (atOf x n T) (T.r v.toNat)).2 w' := by
  have hmf : ∀ (fn : Fn) (first cap : Array Value) (w : World), (Instr.makeFunc fn first cap).run Tryz.prog w = .ok (.func fn first cap) w := fun _ _ _ _ => rfl
  have H := hid h
  have HM := hid hm
  clear h hm
  have hon := fun (W : World) (hB : Below w.heap.size w W) => cellOn_in (H.out.below hB) x hx n h0 h1
  obtain ⟨t, u, hxe⟩ := encVl_iface x
  rw [hxe] at hon ⊢
  have HO := hid hon
  clear hon hxe hx
  generalize atOf x n T = a at *
  go_enter Tryz.func325, Tryz.ntmps325
  go_wp2_with fail
  refine (HO.out _ (below_box _ _)).mono ?_
  rintro e w1 ⟨rfl, hb1⟩
  have hd := box_kept (i := 2) (v := some (.iface 300 (.int .i64 v))) hb1 (by simp [go_sem])
  have HB := hid ((below_box w _).trans (hb1.mono (by simp)))
  have hreg := (H.out.below HB.out.drew).regs v.toNat (by omega)
  clear hb1 HO
  go_wp2
  go_region_with (first
    | (go_at_call 315; refine (regOf_any b v (T.r v.toNat) _ v0 v1 hreg).mono ?_; rintro e w' ⟨rfl, rfl⟩)
    | (go_at_call 352; refine (th_store (H.out.below HB.out.drew) (HM.out.below HB.out.drew) a (T.r v.toNat) h0 h1).mono ?_; rintro e w2 ⟨rfl, h2⟩; have H2 := hid h2; clear h2))
  all_goals go_wp2
  all_goals go_end0
  all_goals exact ⟨rfl, H2.out.base HB.out.drew⟩
end
end Go.Proofs.YtfhkfnoajbbfdaaGreatDoor
