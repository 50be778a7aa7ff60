import Derived.Test.YtfhkfnoajbbfdabGreatDoorRows
import Derived.ProofKit
import Derived.JoinedOf
/- Known: the row's closed facts, one by one. -/
namespace Go.Proofs.YtfhkfnoajbbfdabGreatDoor

theorem and2K {a b : Bool} (ha : a = true) (hb : b = true) : (a && b) = true := by rw [ha, hb]; rfl

set_option maxRecDepth 100000 in
set_option maxHeartbeats 20000000 in
theorem known_facts : joinedFacts Tryz.checked.prog 6 Tryz.f6 Rows.knownSpec Rows.knownRow = true := by
  unfold joinedFacts
  repeat' (with_reducible refine and2K ?_ ?_)
  all_goals (as_aux_lemma => kernel_rfl)

theorem known_named : Tryz.checked.prog.funcNamed Rows.knownRow.func = some 6 := by kernel_rfl
theorem known_inst : Tryz.f6.isInstance Tryz.checked.prog Rows.knownRow.origin Rows.knownRow.targs := of_decide_eq_true (by kernel_rfl)
theorem known_wrap : Tryz.f6.isWrapper Tryz.checked.prog Rows.knownRow.wrapper Rows.knownRow.mainSum := by unfold Func.isWrapper; first | (rw [if_pos (by decide +kernel)]; kernel_rfl) | (rw [if_neg (by decide +kernel)]; exact ⟨rfl, rfl⟩)
end Go.Proofs.YtfhkfnoajbbfdabGreatDoor
