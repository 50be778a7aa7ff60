import Derived.Test.YtfhkfnoajbbfdaaGreatDoorPart06
import Derived.Test.YtfhkfnoajbbfdaaGreatDoorPart07
import Derived.Test.YtfhkfnoajbbfdaaGreatDoorPart09
namespace Go.Proofs.YtfhkfnoajbbfdaaGreatDoor
open Go.RowKit

attribute [local go_sem] mNumOf mRegOf mEnd mDrain mGive mLeap mSetRegister mStore mLoad mSetCell nGive nStore nSetCell

section
variable {w : World} {b bm : Nat} {iv ov : Value} {T : Th} {m : Nat → Int}

set_option maxRecDepth 100000 in
set_option maxHeartbeats 1000000 in
theorem do_give (h : ThAt w b bm iv ov T) (hm : MemAt w bm m) (x : Vl) (hx : x.ok) (hl : T.out.length < 1099511627776) :
    Calls Tryz.prog 329 #[.agg #[encVl x], ifc b] w fun e w' => e = .returned (.tuple #[]) ∧ Eff w b bm iv ov { T with out := T.out ++ [x.of T] } m w' := by
  have hmf : ∀ (fn : Fn) (first cap : Array Value) (w : World), (Instr.makeFunc fn first cap).run Tryz.prog w = .ok (.func fn first cap) w := fun _ _ _ _ => rfl
  obtain ⟨r, v⟩ := x
  have H := hid h
  have HM := hid hm
  have HL := hid hl
  cases r
  · simp only [encVl, Vl.of, Bool.false_eq_true, if_false]
    clear h hm hl hx
    go_enter Tryz.func329, Tryz.ntmps329
    go_wp2
    go_region_with (first
      | (go_at_call 340; refine (numOf_any _ _ _).mono ?_; rintro e w' ⟨rfl, rfl⟩)
      | (go_at_call 347; refine (th_give (H.out.below (below_boxd _ _)) (HM.out.below (below_boxd _ _)) v HL.out).mono ?_; rintro e w1 ⟨rfl, h1⟩; have H1 := hid h1; clear h1))
    all_goals go_wp2
    all_goals go_end0
    all_goals exact ⟨rfl, H1.out.base (below_boxd _ _)⟩
  · simp only [encVl, Vl.of, if_true]
    have hv := hx rfl
    simp only at hv
    have hreg := h.reg hv.1 hv.2
    generalize T.r v.toNat = u at hreg ⊢
    clear h hm hl hx
    go_enter Tryz.func329, Tryz.ntmps329
    go_wp2
    go_region_with (first
      | (go_at_call 315; refine (regOf_any b v u _ hv.1 hv.2 (hreg _)).mono ?_; rintro e w' ⟨rfl, rfl⟩)
      | (go_at_call 347; refine (th_give (H.out.below (below_boxd _ _)) (HM.out.below (below_boxd _ _)) u HL.out).mono ?_; rintro e w1 ⟨rfl, h1⟩; have H1 := hid h1; clear h1))
    all_goals go_wp2
    all_goals go_end0
    all_goals exact ⟨rfl, H1.out.base (below_boxd _ _)⟩
end
end Go.Proofs.YtfhkfnoajbbfdaaGreatDoor
