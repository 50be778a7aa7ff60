/-
  DERIVED. GIVEN WITH THE SEED: THE CARDS: each row of YtkenoofmkbghiaaGreatDoorRows.lean that lists a variable, with what it lists TIED to the program's text (the seventh form; the later family's looks); each row that meets fmt, with fmt's text TOLD by the authors' own Lean function (tested against real Go, not proved from fmt's source: count such statements apart). THE CARD IS WHAT COUNTS. Prove the row's statement (the work); the ties are given (YtkenoofmkbghiaaGreatDoorTie.lean); close each card by the builder's one call (the guide's Derived/Test/ToyasCard.lean, 'card_holds'). Laid BY PROGRAM, IN A SANDBOX (cutbox-door.mjs). By AI agents, Wed Nov 11 2026. No macro, syntax, notation, axiom, sorry.
-/
import Derived.Test.YtkenoofmkbghiaaGreatDoorRows
import GoSem.ClaimSeven
namespace Go.Proofs.YtkenoofmkbghiaaGreatDoor
namespace Rows

/-- THE TIED CARD OF 'commitskeep.Counter'. -/
def counterCard : Claim7 := { stood := { row := counterRow, standIns := [], harness := (true, "d92983b734547697e46375e333d4061f3b59ae5e635b920dd91dd11019205a88"), looks := true }, kinds := [], alts := [], laidByText := true, laidKinds := [.data, .data, .data, .data, .data, .handle, .sentinel, .sentinel, .pinned], laidTests := true, laidLooks := .later }
def CounterCardSaid : Prop := Claim7.holds Tryz.pinned (.plain (OpenSpec.ofChange counterSpec)) counterCard

/-- THE TIED CARD OF 'commitskeep.Bank'. -/
def bankCard : Claim7 := { stood := { row := bankRow, standIns := [], harness := (true, "d92983b734547697e46375e333d4061f3b59ae5e635b920dd91dd11019205a88"), looks := true }, kinds := [], alts := [], laidByText := true, laidKinds := [.data, .data, .data, .data, .data, .handle, .sentinel, .sentinel, .pinned], laidTests := true, laidLooks := .later }
def BankCardSaid : Prop := Claim7.holds Tryz.pinned (.plain (OpenSpec.ofChange bankSpec)) bankCard

/-- THE TIED CARD OF 'commitskeep.Opaque'. -/
def opaqueCard : Claim7 := { stood := { row := opaqueRow, standIns := [], harness := (true, "d92983b734547697e46375e333d4061f3b59ae5e635b920dd91dd11019205a88"), looks := true }, kinds := [], alts := [], laidByText := true, laidKinds := [.data, .data, .data, .data, .data, .handle, .sentinel, .sentinel, .pinned], laidTests := true, laidLooks := .later }
def OpaqueCardSaid : Prop := Claim7.holds Tryz.pinned (.plain (OpenSpec.ofChange opaqueSpec)) opaqueCard

/-- THE SECOND FORM's CARD OF 'commitskeep.Counter'. -/
def counterUptoCard : Claim7 := { stood := { row := counterUptoRow, standIns := [], harness := (true, "d92983b734547697e46375e333d4061f3b59ae5e635b920dd91dd11019205a88"), looks := true }, kinds := [], alts := [], laidByText := true, laidKinds := [.data, .data, .data, .data, .data, .handle, .sentinel, .sentinel, .pinned], laidTests := true, laidLooks := .later }
def CounterUptoCardSaid : Prop := Claim7.holds Tryz.pinned (.plain (OpenSpec.upto counterSpec)) counterUptoCard

/-- THE SECOND FORM's CARD OF 'commitskeep.Bank'. -/
def bankUptoCard : Claim7 := { stood := { row := bankUptoRow, standIns := [], harness := (true, "d92983b734547697e46375e333d4061f3b59ae5e635b920dd91dd11019205a88"), looks := true }, kinds := [], alts := [], laidByText := true, laidKinds := [.data, .data, .data, .data, .data, .handle, .sentinel, .sentinel, .pinned], laidTests := true, laidLooks := .later }
def BankUptoCardSaid : Prop := Claim7.holds Tryz.pinned (.plain (OpenSpec.upto bankSpec)) bankUptoCard

/-- THE SECOND FORM's CARD OF 'commitskeep.Opaque'. -/
def opaqueUptoCard : Claim7 := { stood := { row := opaqueUptoRow, standIns := [], harness := (true, "d92983b734547697e46375e333d4061f3b59ae5e635b920dd91dd11019205a88"), looks := true }, kinds := [], alts := [], laidByText := true, laidKinds := [.data, .data, .data, .data, .data, .handle, .sentinel, .sentinel, .pinned], laidTests := true, laidLooks := .later }
def OpaqueUptoCardSaid : Prop := Claim7.holds Tryz.pinned (.plain (OpenSpec.upto opaqueSpec)) opaqueUptoCard
end Rows
end Go.Proofs.YtkenoofmkbghiaaGreatDoor
