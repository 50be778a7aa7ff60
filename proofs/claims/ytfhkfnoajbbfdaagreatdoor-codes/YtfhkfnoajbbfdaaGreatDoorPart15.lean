import Derived.Test.YtfhkfnoajbbfdaaGreatDoorPart12
import Derived.RangeFuncLeaves
namespace Go.Proofs.YtfhkfnoajbbfdaaGreatDoor
open Go.RowKit

/-- A value's own function, whichever it is. -/
theorem vl_call (x : Vl) (hx : x.ok) : ∃ t u F, encVl x = .iface t u ∧ (∀ W, (method 584 t u "commits/codes.of").run Tryz.prog W = .ok (F, u) W) ∧ (∀ args W, (callFunc F args).run Tryz.prog W = .ok (.enter F args) W) ∧
    ∀ (W : World) (b bm : Nat) (iv ov : Value) (T : Th), ThAt W b bm iv ov T → Calls Tryz.prog F #[u, ifc b] W fun e w' => e = .returned (.int .i64 (x.of T)) ∧ w' = W := by
  obtain ⟨r, v⟩ := x
  cases r
  · refine ⟨378, .int .i64 v, 340, rfl, mNumOf _, enters_of Tryz.func340 (by kernel_rfl) rfl, fun W b bm iv ov T _ => ?_⟩
    exact numOf_any _ _ _
  · have hv := hx rfl
    simp only at hv
    refine ⟨300, .int .i64 v, 315, rfl, mRegOf _, enters_of Tryz.func315 (by kernel_rfl) rfl, fun W b bm iv ov T h => ?_⟩
    exact regOf_any b v _ W hv.1 hv.2 (h.regs _ (by omega))

section
variable {w : World} {b bm : Nat} {iv ov : Value} {T : Th} {m : Nat → Int}

attribute [local go_sem] mSetRegister mLeap mEnd

set_option maxRecDepth 100000 in
set_option maxHeartbeats 1000000 in
theorem do_move (h : ThAt w b bm iv ov T) (hm : MemAt w bm m) (x : Vl) (hx : x.ok) (d : Int) (d0 : 0 ≤ d) (d1 : d < 8) :
    Calls Tryz.prog 322 #[.agg #[.int .i64 d, encVl x], ifc b] w fun e w' => e = .returned (.tuple #[]) ∧ Eff w b bm iv ov (T.setR d.toNat (x.of T)) m w' := by
  obtain ⟨t, u, F, he, hme, hen, hv⟩ := vl_call x hx
  rw [he]
  have H := hid h
  have HM := hid hm
  have HV := hid hv
  clear h hm hv he hx
  go_enter Tryz.func322, Tryz.ntmps322
  go_wp2
  go_region_with (first
    | (go_at_call 318; refine (regSet_any b d _ _ _ d0 d1 ((H.out.below (below_boxd _ _)).regs _ (by omega)) ((H.out.below (below_boxd _ _)).free _ (by omega))).mono ?_; rintro e w3 ⟨rfl, rfl⟩)
    | (with_reducible refine (HV.out _ b bm iv ov T (H.out.below (below_boxd _ _))).mono ?_; rintro e w' ⟨rfl, rfl⟩))
  all_goals go_wp2
  all_goals go_end0
  all_goals exact ⟨rfl, ((H.out.below (below_boxd _ _)).effReg (HM.out.below (below_boxd _ _)) (by omega) _).base (below_boxd _ _)⟩

set_option maxRecDepth 100000 in
set_option maxHeartbeats 1000000 in
theorem do_leapIf_zero (h : ThAt w b bm iv ov T) (hm : MemAt w bm m) (x : Vl) (hx : x.ok) (n : Int) (hz : x.of T = 0) :
    Calls Tryz.prog 331 #[.agg #[encVl x, .int .i64 n], ifc b] w fun e w' => e = .returned (.tuple #[]) ∧ Eff w b bm iv ov { T with pl := n } m w' := by
  obtain ⟨t, u, F, he, hme, hen, hv⟩ := vl_call x hx
  rw [he]
  have H := hid h
  have HM := hid hm
  have HV := hid (hz ▸ hv (w.alloc (.cells #[.iface t u, .int .i64 n] 328)) b bm iv ov T (h.below (below_box _ _)))
  clear h hm hv he hx hz
  go_enter Tryz.func331, Tryz.ntmps331
  go_wp2_with fail
  refine HV.out.mono ?_
  rintro e w' ⟨rfl, rfl⟩
  go_wp2_with (go_at_call 348; refine (leap_any b n _ _ (H.out.below (below_box _ _)).place ((H.out.below (below_box _ _)).free 10 (by omega))).mono ?_; rintro e w1 ⟨rfl, rfl⟩)
  go_end0
  exact ⟨rfl, ((H.out.below (below_box _ _)).effPlace (HM.out.below (below_box _ _)) n).base (below_box _ _)⟩

set_option maxRecDepth 100000 in
set_option maxHeartbeats 1000000 in
theorem do_leapIf_not (h : ThAt w b bm iv ov T) (hm : MemAt w bm m) (x : Vl) (hx : x.ok) (n : Int) (hz : x.of T ≠ 0) :
    Calls Tryz.prog 331 #[.agg #[encVl x, .int .i64 n], ifc b] w fun e w' => e = .returned (.tuple #[]) ∧ Eff w b bm iv ov T m w' := by
  obtain ⟨t, u, F, he, hme, hen, hv⟩ := vl_call x hx
  rw [he]
  have H := hid h
  have HM := hid hm
  have HV := hid (hv (w.alloc (.cells #[.iface t u, .int .i64 n] 328)) b bm iv ov T (h.below (below_box _ _)))
  have hz' : (x.of T == 0) = false := by simp [hz]
  generalize x.of T = z at HV hz'
  clear h hm hv he hx hz
  go_enter Tryz.func331, Tryz.ntmps331
  go_wp2_with fail
  refine HV.out.mono ?_
  rintro e w' ⟨rfl, rfl⟩
  go_wp2
  go_end0
  exact ⟨rfl, ov, H.out.below (below_box _ _), HM.out.below (below_box _ _), Chg.of_below (below_box _ _), .inl rfl⟩
end
end Go.Proofs.YtfhkfnoajbbfdaaGreatDoor
