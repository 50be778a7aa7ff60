import Derived.Test.YtfhkfnoajbbfdaaGreatDoorPart25
import Derived.Test.YtfhkfnoajbbfdaaGreatDoorPart26
import Derived.Test.YtfhkfnoajbbfdaaGreatDoorCards
import Derived.Test.YtfhkfnoajbbfdaaGreatDoorTie
import Derived.SevenTiedAt
/- Litmus: the row and the card. -/
namespace Go.Proofs.YtfhkfnoajbbfdaaGreatDoor
open Go.ChangeShapes Go.WideShapes Go.ChangeAt Go.WideMaps Go.WideElems Go.RowKit

theorem litmus_over : Rows.LitmusSaid :=
  OpenClaim.holds_of_wide 5 Tryz.f5 rfl rfl rfl rfl rfl rfl rfl ⟨rfl, rfl, rfl, rfl, rfl⟩ rfl rfl rfl rfl rfl litmus_named Tryz.func5 litmus_facts litmus_inst litmus_wrap
    (fun os started H enc _ => litmus_lifted os started H enc)

theorem litmus_holds : Rows.LitmusCardSaid :=
  Claim7.holds_tied_plain_at .later [] [.data, .data, .data, .data, .data, .handle, .sentinel, .sentinel, .pinned] true Rows.litmusCard.stood.harness true
    litmus_over (fun _ h => by cases h) (by kernel_rfl) (fun _ h => by cases h) litmus_row_tie rfl ⟨rfl, rfl⟩ (by kernel_rfl) rfl
    (fun f fn hf hfn => by
      obtain rfl : f = 5 := Option.some.inj ((show Tryz.prog.funcNamed "commits/commitskeep.Litmus" = some 5 by kernel_rfl).symm.trans hf) |>.symm
      obtain rfl : fn = Tryz.f5 := (Option.some.inj (Tryz.func5.symm.trans hfn)).symm
      exact ⟨by kernel_rfl, fun j t ht => by
        rw [Tryz.params5] at ht
        have hm : t ∈ [29, 3] := by simpa using Array.mem_of_getElem? ht
        have hall : ([29, 3].all fun u => !Tryz.prog.wantsStandIn u) = true := by kernel_rfl
        exact (show Tryz.prog.wantsStandIn t = false by simpa using List.all_eq_true.1 hall t hm)⟩)
    (by kernel_rfl)
#print axioms litmus_holds
end Go.Proofs.YtfhkfnoajbbfdaaGreatDoor
