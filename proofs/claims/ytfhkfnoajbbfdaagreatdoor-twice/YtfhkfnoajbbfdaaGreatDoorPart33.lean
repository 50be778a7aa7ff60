import Derived.Test.YtfhkfnoajbbfdaaGreatDoorRows
import Derived.ProofKit
import Derived.JoinedOf
/- Twice: the row's closed facts, one by one. -/
namespace Go.Proofs.YtfhkfnoajbbfdaaGreatDoor

theorem and2T {a b : Bool} (ha : a = true) (hb : b = true) : (a && b) = true := by rw [ha, hb]; rfl

set_option maxRecDepth 100000 in
set_option maxHeartbeats 20000000 in
theorem twice_facts : joinedFacts Tryz.checked.prog 6 Tryz.f6 Rows.twiceSpec Rows.twiceRow = true := by
  unfold joinedFacts
  repeat' (with_reducible refine and2T ?_ ?_)
  all_goals (as_aux_lemma => kernel_rfl)

theorem twice_named : Tryz.checked.prog.funcNamed Rows.twiceRow.func = some 6 := by kernel_rfl
theorem twice_inst : Tryz.f6.isInstance Tryz.checked.prog Rows.twiceRow.origin Rows.twiceRow.targs := of_decide_eq_true (by kernel_rfl)
theorem twice_wrap : Tryz.f6.isWrapper Tryz.checked.prog Rows.twiceRow.wrapper Rows.twiceRow.mainSum := by unfold Func.isWrapper; first | (rw [if_pos (by decide +kernel)]; kernel_rfl) | (rw [if_neg (by decide +kernel)]; exact ⟨rfl, rfl⟩)
end Go.Proofs.YtfhkfnoajbbfdaaGreatDoor
