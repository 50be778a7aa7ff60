import Derived.Test.YtfhkfnoajbbfdaaGreatDoorPart39
import Derived.Test.YtfhkfnoajbbfdaaGreatDoorPart40
import Derived.Test.YtfhkfnoajbbfdaaGreatDoorCards
import Derived.Test.YtfhkfnoajbbfdaaGreatDoorTie
import Derived.SevenTiedAt
/- Codes: the row and the card. -/
namespace Go.Proofs.YtfhkfnoajbbfdaaGreatDoor
open Go.ChangeShapes Go.WideShapes Go.ChangeAt Go.WideMaps Go.WideElems Go.RowKit

theorem codes_over : Rows.CodesSaid :=
  OpenClaim.holds_of_wide 3 Tryz.f3 rfl rfl rfl rfl rfl rfl rfl ⟨rfl, rfl, rfl, rfl, rfl⟩ rfl rfl rfl rfl rfl codes_named Tryz.func3 codes_facts codes_inst codes_wrap
    (fun os started H enc _ => codes_lifted os started H enc)

theorem codes_holds : Rows.CodesCardSaid :=
  Claim7.holds_tied_plain_at .later [] [.data, .data, .data, .data, .data, .handle, .sentinel, .sentinel, .pinned] true Rows.codesCard.stood.harness true
    codes_over (fun _ h => by cases h) (by as_aux_lemma => kernel_rfl) (fun _ h => by cases h) codes_row_tie rfl ⟨rfl, rfl⟩ (by as_aux_lemma => kernel_rfl) rfl
    (fun f fn hf hfn => by
      obtain rfl : f = 3 := Option.some.inj ((show Tryz.prog.funcNamed "commits/commitslaw.Codes" = some 3 by as_aux_lemma => kernel_rfl).symm.trans hf) |>.symm
      obtain rfl : fn = Tryz.f3 := (Option.some.inj (Tryz.func3.symm.trans hfn)).symm
      exact ⟨by as_aux_lemma => kernel_rfl, fun j t ht => by
        rw [Tryz.params3] at ht
        have hm : t ∈ [9] := by simpa using Array.mem_of_getElem? ht
        have hall : ([9].all fun u => !Tryz.prog.wantsStandIn u) = true := by as_aux_lemma => kernel_rfl
        exact (show Tryz.prog.wantsStandIn t = false by simpa using List.all_eq_true.1 hall t hm)⟩)
    (by as_aux_lemma => kernel_rfl)
#print axioms codes_holds
end Go.Proofs.YtfhkfnoajbbfdaaGreatDoor
