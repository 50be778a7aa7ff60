import Derived.Test.YtfhkfnoajbbfdaaGreatDoorPart15
import Derived.BigQuiet
import Derived.Deep.QuietTactic
namespace Go.Proofs.YtfhkfnoajbbfdaaGreatDoor
open Go.RowKit

attribute [local go_sem] mSetRegister mLeap mEnd

section
variable {w : World} {b bm : Nat} {iv ov : Value} {T : Th} {m : Nat → Int}

theorem below_boxN (w : World) (o : Obj) (n : Nat) : Below w.heap.size w ((w.alloc o).drewN n) := ⟨(below_box w o).os, (below_box w o).tape, (below_box w o).output, (below_box w o).size, (below_box w o).block⟩

set_option maxRecDepth 100000 in
set_option maxHeartbeats 2000000 in
theorem do_operate_ok (h : ThAt w b bm iv ov T) (hm : MemAt w bm m) (x y : Vl) (hx : x.ok) (hy : y.ok) (op d v : Int) (d0 : 0 ≤ d) (d1 : d < 8)
    (hop : ∀ W, Calls Tryz.prog 317 #[.int .i64 op, .int .i64 (x.of T), .int .i64 (y.of T)] W fun e w' => e = .returned (.tuple #[.int .i64 v, .bool true]) ∧ w' = W) :
    Calls Tryz.prog 316 #[.agg #[.int .i64 op, .int .i64 d, encVl x, encVl y], ifc b] w fun e w' => e = .returned (.tuple #[]) ∧ Eff w b bm iv ov (T.setR d.toNat v) m w' := by
  obtain ⟨t, u, F, he, hme, hen, hv⟩ := vl_call x hx
  obtain ⟨t2, u2, F2, he2, hme2, hen2, hv2⟩ := vl_call y hy
  rw [he, he2]
  have H := hid h
  have HM := hid hm
  have HX := hid (fun W hB => hv W b bm iv ov T (h.below (w' := W) hB))
  have HY := hid (fun W hB => hv2 W b bm iv ov T (h.below (w' := W) hB))
  have HO := hid hop
  generalize x.of T = p at HX HO
  generalize y.of T = q at HY HO
  clear h hm hv hv2 he he2 hx hy hop
  go_enter Tryz.func316, Tryz.ntmps316
  go_wp2_with fail
  go_quiet ((first
    | (go_at_call 317; exact Calls.quiet_of_same (HO.out _))
    | (with_reducible exact Calls.quiet_of_same (HX.out _ (below_boxN _ _ _)))
    | (with_reducible exact Calls.quiet_of_same (HY.out _ (below_boxN _ _ _)))))
  go_wp2_with (go_at_call 318; refine (regSet_any b d _ _ _ d0 d1 ((H.out.below (below_boxN _ _ _)).regs _ (by omega)) ((H.out.below (below_boxN _ _ _)).free _ (by omega))).mono ?_; rintro e w3 ⟨rfl, rfl⟩)
  go_end0
  exact ⟨rfl, ((H.out.below (below_boxN _ _ _)).effReg (HM.out.below (below_boxN _ _ _)) (by omega) _).base (below_boxN _ _ _)⟩

set_option maxRecDepth 100000 in
set_option maxHeartbeats 2000000 in
theorem do_operate_trap (h : ThAt w b bm iv ov T) (hm : MemAt w bm m) (x y : Vl) (hx : x.ok) (hy : y.ok) (op d v : Int)
    (hop : ∀ W, Calls Tryz.prog 317 #[.int .i64 op, .int .i64 (x.of T), .int .i64 (y.of T)] W fun e w' => e = .returned (.tuple #[.int .i64 v, .bool false]) ∧ w' = W) :
    Calls Tryz.prog 316 #[.agg #[.int .i64 op, .int .i64 d, encVl x, encVl y], ifc b] w fun e w' => e = .returned (.tuple #[]) ∧ Eff w b bm iv ov { T with st := 1 } m w' := by
  obtain ⟨t, u, F, he, hme, hen, hv⟩ := vl_call x hx
  obtain ⟨t2, u2, F2, he2, hme2, hen2, hv2⟩ := vl_call y hy
  rw [he, he2]
  have H := hid h
  have HM := hid hm
  have HX := hid (fun W hB => hv W b bm iv ov T (h.below (w' := W) hB))
  have HY := hid (fun W hB => hv2 W b bm iv ov T (h.below (w' := W) hB))
  have HO := hid hop
  generalize x.of T = p at HX HO
  generalize y.of T = q at HY HO
  clear h hm hv hv2 he he2 hx hy hop
  go_enter Tryz.func316, Tryz.ntmps316
  go_wp2_with fail
  go_quiet ((first
    | (go_at_call 317; exact Calls.quiet_of_same (HO.out _))
    | (with_reducible exact Calls.quiet_of_same (HX.out _ (below_boxN _ _ _)))
    | (with_reducible exact Calls.quiet_of_same (HY.out _ (below_boxN _ _ _)))))
  go_wp2_with (go_at_call 346; refine (end_any b 1 _ _ (H.out.below (below_boxN _ _ _)).state ((H.out.below (below_boxN _ _ _)).free 22 (by omega))).mono ?_; rintro e w1 ⟨rfl, rfl⟩)
  refine bodyPost_ret (results_none rfl _ _ _) rfl ?_
  exact ⟨rfl, ((H.out.below (below_boxN _ _ _)).effState (HM.out.below (below_boxN _ _ _)) 1).base (below_boxN _ _ _)⟩
end
end Go.Proofs.YtfhkfnoajbbfdaaGreatDoor
