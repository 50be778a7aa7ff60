import Derived.Test.YtfhkfnoajbbfdaaGreatDoorRows
import Derived.ProofKit
import Derived.JoinedOf
/- Runs: the row's closed facts, one by one. -/
namespace Go.Proofs.YtfhkfnoajbbfdaaGreatDoor

theorem and2R {a b : Bool} (ha : a = true) (hb : b = true) : (a && b) = true := by rw [ha, hb]; rfl

set_option maxRecDepth 100000 in
set_option maxHeartbeats 20000000 in
theorem runs_facts : joinedFacts Tryz.checked.prog 4 Tryz.f4 Rows.runsSpec Rows.runsRow = true := by
  unfold joinedFacts
  repeat' (with_reducible refine and2R ?_ ?_)
  all_goals (as_aux_lemma => kernel_rfl)

theorem runs_named : Tryz.checked.prog.funcNamed Rows.runsRow.func = some 4 := by kernel_rfl
theorem runs_inst : Tryz.f4.isInstance Tryz.checked.prog Rows.runsRow.origin Rows.runsRow.targs := of_decide_eq_true (by kernel_rfl)
theorem runs_wrap : Tryz.f4.isWrapper Tryz.checked.prog Rows.runsRow.wrapper Rows.runsRow.mainSum := by unfold Func.isWrapper; first | (rw [if_pos (by decide +kernel)]; kernel_rfl) | (rw [if_neg (by decide +kernel)]; exact ⟨rfl, rfl⟩)
end Go.Proofs.YtfhkfnoajbbfdaaGreatDoor
