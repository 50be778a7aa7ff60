import Derived.Test.YtfhkfnoajbbfdaaGreatDoorRows
import Derived.ProofKit
import Derived.JoinedOf
/- Litmus: the row's closed facts, one by one. -/
namespace Go.Proofs.YtfhkfnoajbbfdaaGreatDoor

theorem and2 {a b : Bool} (ha : a = true) (hb : b = true) : (a && b) = true := by rw [ha, hb]; rfl

set_option maxRecDepth 100000 in
set_option maxHeartbeats 20000000 in
theorem litmus_facts : joinedFacts Tryz.checked.prog 5 Tryz.f5 Rows.litmusSpec Rows.litmusRow = true := by
  unfold joinedFacts
  repeat' (with_reducible refine and2 ?_ ?_)
  all_goals (as_aux_lemma => kernel_rfl)

theorem litmus_named : Tryz.checked.prog.funcNamed Rows.litmusRow.func = some 5 := by kernel_rfl
theorem litmus_inst : Tryz.f5.isInstance Tryz.checked.prog Rows.litmusRow.origin Rows.litmusRow.targs := of_decide_eq_true (by kernel_rfl)
theorem litmus_wrap : Tryz.f5.isWrapper Tryz.checked.prog Rows.litmusRow.wrapper Rows.litmusRow.mainSum := by unfold Func.isWrapper; first | (rw [if_pos (by decide +kernel)]; kernel_rfl) | (rw [if_neg (by decide +kernel)]; exact ⟨rfl, rfl⟩)
end Go.Proofs.YtfhkfnoajbbfdaaGreatDoor
