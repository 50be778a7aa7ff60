import Derived.Test.YtfhkfnoajbbfdaaGreatDoorPart32
import Derived.Test.YtfhkfnoajbbfdaaGreatDoorPart33
import Derived.Test.YtfhkfnoajbbfdaaGreatDoorCards
import Derived.Test.YtfhkfnoajbbfdaaGreatDoorTie
import Derived.SevenTiedAt
/- Twice: the row and the card. -/
namespace Go.Proofs.YtfhkfnoajbbfdaaGreatDoor
open Go.ChangeShapes Go.WideShapes Go.ChangeAt Go.WideMaps Go.WideElems Go.RowKit

theorem twice_over : Rows.TwiceSaid :=
  OpenClaim.holds_of_wide 6 Tryz.f6 rfl rfl rfl rfl rfl rfl rfl ⟨rfl, rfl, rfl, rfl, rfl⟩ rfl rfl rfl rfl rfl twice_named Tryz.func6 twice_facts twice_inst twice_wrap
    (fun os started H enc _ => twice_lifted os started H enc)

theorem twice_holds : Rows.TwiceCardSaid :=
  Claim7.holds_tied_plain_at .later [] [.data, .data, .data, .data, .data, .handle, .sentinel, .sentinel, .pinned] true Rows.twiceCard.stood.harness true
    twice_over (fun _ h => by cases h) (by kernel_rfl) (fun _ h => by cases h) twice_row_tie rfl ⟨rfl, rfl⟩ (by kernel_rfl) rfl
    (fun f fn hf hfn => by
      obtain rfl : f = 6 := Option.some.inj ((show Tryz.prog.funcNamed "commits/commitskeep.Twice" = some 6 by kernel_rfl).symm.trans hf) |>.symm
      obtain rfl : fn = Tryz.f6 := (Option.some.inj (Tryz.func6.symm.trans hfn)).symm
      exact ⟨by kernel_rfl, fun j t ht => by
        rw [Tryz.params6] at ht
        have hm : t ∈ [9, 29] := by simpa using Array.mem_of_getElem? ht
        have hall : ([9, 29].all fun u => !Tryz.prog.wantsStandIn u) = true := by kernel_rfl
        exact (show Tryz.prog.wantsStandIn t = false by simpa using List.all_eq_true.1 hall t hm)⟩)
    (by kernel_rfl)
#print axioms twice_holds
end Go.Proofs.YtfhkfnoajbbfdaaGreatDoor
