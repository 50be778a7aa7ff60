import Derived.Test.YtfhkfnoajbbfdaaGreatDoorRows
import Derived.ProofKit
import Derived.JoinedOf
/- Codes: the row's closed facts, one by one. -/
namespace Go.Proofs.YtfhkfnoajbbfdaaGreatDoor

theorem and2C {a b : Bool} (ha : a = true) (hb : b = true) : (a && b) = true := by rw [ha, hb]; rfl

set_option maxRecDepth 100000 in
set_option maxHeartbeats 20000000 in
theorem codes_facts : joinedFacts Tryz.checked.prog 3 Tryz.f3 Rows.codesSpec Rows.codesRow = true := by
  unfold joinedFacts
  repeat' (with_reducible refine and2C ?_ ?_)
  all_goals (as_aux_lemma => kernel_rfl)

theorem codes_named : Tryz.checked.prog.funcNamed Rows.codesRow.func = some 3 := by kernel_rfl
theorem codes_inst : Tryz.f3.isInstance Tryz.checked.prog Rows.codesRow.origin Rows.codesRow.targs := of_decide_eq_true (by kernel_rfl)
theorem codes_wrap : Tryz.f3.isWrapper Tryz.checked.prog Rows.codesRow.wrapper Rows.codesRow.mainSum := by unfold Func.isWrapper; first | (rw [if_pos (by decide +kernel)]; kernel_rfl) | (rw [if_neg (by decide +kernel)]; exact ⟨rfl, rfl⟩)
end Go.Proofs.YtfhkfnoajbbfdaaGreatDoor
