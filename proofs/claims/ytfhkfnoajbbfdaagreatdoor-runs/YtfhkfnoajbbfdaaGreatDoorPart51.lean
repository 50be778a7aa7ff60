import Derived.Test.YtfhkfnoajbbfdaaGreatDoorPart49
import Derived.Test.YtfhkfnoajbbfdaaGreatDoorPart50
import Derived.Test.YtfhkfnoajbbfdaaGreatDoorCards
import Derived.Test.YtfhkfnoajbbfdaaGreatDoorTie
import Derived.SevenTiedAt
/- Runs: the row and the card. -/
namespace Go.Proofs.YtfhkfnoajbbfdaaGreatDoor
open Go.ChangeShapes Go.WideShapes Go.ChangeAt Go.WideMaps Go.WideElems Go.RowKit

theorem runs_over : Rows.RunsSaid :=
  OpenClaim.holds_of_wide 4 Tryz.f4 rfl rfl rfl rfl rfl rfl rfl ⟨rfl, rfl, rfl, rfl, rfl⟩ rfl rfl rfl rfl rfl runs_named Tryz.func4 runs_facts runs_inst runs_wrap
    (fun os started H enc _ => runs_lifted os started H enc)

theorem runs_holds : Rows.RunsCardSaid :=
  Claim7.holds_tied_plain_at .later [] [.data, .data, .data, .data, .data, .handle, .sentinel, .sentinel, .pinned] true Rows.runsCard.stood.harness true
    runs_over (fun _ h => by cases h) (by as_aux_lemma => kernel_rfl) (fun _ h => by cases h) runs_row_tie rfl ⟨rfl, rfl⟩ (by as_aux_lemma => kernel_rfl) rfl
    (fun f fn hf hfn => by
      obtain rfl : f = 4 := Option.some.inj ((show Tryz.prog.funcNamed "commits/commitslaw.Runs" = some 4 by as_aux_lemma => kernel_rfl).symm.trans hf) |>.symm
      obtain rfl : fn = Tryz.f4 := (Option.some.inj (Tryz.func4.symm.trans hfn)).symm
      exact ⟨by as_aux_lemma => kernel_rfl, fun j t ht => by
        rw [Tryz.params4] at ht
        have hm : t ∈ [9, 29] := by simpa using Array.mem_of_getElem? ht
        have hall : ([9, 29].all fun u => !Tryz.prog.wantsStandIn u) = true := by as_aux_lemma => kernel_rfl
        exact (show Tryz.prog.wantsStandIn t = false by simpa using List.all_eq_true.1 hall t hm)⟩)
    (by as_aux_lemma => kernel_rfl)
#print axioms runs_holds
end Go.Proofs.YtfhkfnoajbbfdaaGreatDoor
