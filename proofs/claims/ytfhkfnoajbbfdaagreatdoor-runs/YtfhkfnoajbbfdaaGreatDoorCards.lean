/-
  DERIVED. GIVEN WITH THE SEED: THE CARDS: each row of YtfhkfnoajbbfdaaGreatDoorRows.lean that lists a variable, with what it lists TIED to the program's text (the seventh form; the later family's looks); each row that meets fmt, with fmt's text TOLD by the authors' own Lean function (tested against real Go, not proved from fmt's source: count such statements apart). THE CARD IS WHAT COUNTS. Prove the row's statement (the work); the ties are given (YtfhkfnoajbbfdaaGreatDoorTie.lean); close each card by the builder's one call (the guide's Derived/Test/ToyasCard.lean, 'card_holds'). Laid BY PROGRAM, IN A SANDBOX (cutbox-door.mjs). By AI agents, Wed Nov 11 2026. No macro, syntax, notation, axiom, sorry.
-/
import Derived.Test.YtfhkfnoajbbfdaaGreatDoorRows
import GoSem.ClaimSeven
namespace Go.Proofs.YtfhkfnoajbbfdaaGreatDoor
namespace Rows

/-- THE TIED CARD OF 'commitslaw.Codes'. -/
def codesCard : Claim7 := { stood := { row := codesRow, standIns := [], harness := (true, "9909fd51aa461c6ab607e3f3c41a65b5113f5bee0780d5bebf85441041c01317"), looks := true }, kinds := [], alts := [], laidByText := true, laidKinds := [.data, .data, .data, .data, .data, .handle, .sentinel, .sentinel, .pinned], laidTests := true, laidLooks := .later }
def CodesCardSaid : Prop := Claim7.holds Tryz.pinned (.plain (OpenSpec.ofChange codesSpec)) codesCard

/-- THE TIED CARD OF 'commitslaw.Runs'. -/
def runsCard : Claim7 := { stood := { row := runsRow, standIns := [], harness := (true, "9909fd51aa461c6ab607e3f3c41a65b5113f5bee0780d5bebf85441041c01317"), looks := true }, kinds := [], alts := [], laidByText := true, laidKinds := [.data, .data, .data, .data, .data, .handle, .sentinel, .sentinel, .pinned], laidTests := true, laidLooks := .later }
def RunsCardSaid : Prop := Claim7.holds Tryz.pinned (.plain (OpenSpec.ofChange runsSpec)) runsCard

/-- THE TIED CARD OF 'commitskeep.Litmus'. -/
def litmusCard : Claim7 := { stood := { row := litmusRow, standIns := [], harness := (true, "9909fd51aa461c6ab607e3f3c41a65b5113f5bee0780d5bebf85441041c01317"), looks := true }, kinds := [], alts := [], laidByText := true, laidKinds := [.data, .data, .data, .data, .data, .handle, .sentinel, .sentinel, .pinned], laidTests := true, laidLooks := .later }
def LitmusCardSaid : Prop := Claim7.holds Tryz.pinned (.plain (OpenSpec.ofChange litmusSpec)) litmusCard

/-- THE TIED CARD OF 'commitskeep.Twice'. -/
def twiceCard : Claim7 := { stood := { row := twiceRow, standIns := [], harness := (true, "9909fd51aa461c6ab607e3f3c41a65b5113f5bee0780d5bebf85441041c01317"), looks := true }, kinds := [], alts := [], laidByText := true, laidKinds := [.data, .data, .data, .data, .data, .handle, .sentinel, .sentinel, .pinned], laidTests := true, laidLooks := .later }
def TwiceCardSaid : Prop := Claim7.holds Tryz.pinned (.plain (OpenSpec.ofChange twiceSpec)) twiceCard

/-- THE TIED CARD OF 'commitslaw.Compiles'. -/
def compilesCard : Claim7 := { stood := { row := compilesRow, standIns := [], harness := (true, "9909fd51aa461c6ab607e3f3c41a65b5113f5bee0780d5bebf85441041c01317"), looks := true }, kinds := [], alts := [], laidByText := true, laidKinds := [.data, .data, .data, .data, .data, .handle, .sentinel, .sentinel, .pinned], laidTests := true, laidLooks := .later }
def CompilesCardSaid : Prop := Claim7.holds Tryz.pinned (.plain (OpenSpec.ofChange compilesSpec)) compilesCard

/-- THE TIED CARD OF 'commitslaw.Serial'. -/
def serialCard : Claim7 := { stood := { row := serialRow, standIns := [], harness := (true, "9909fd51aa461c6ab607e3f3c41a65b5113f5bee0780d5bebf85441041c01317"), looks := true }, kinds := [], alts := [], laidByText := true, laidKinds := [.data, .data, .data, .data, .data, .handle, .sentinel, .sentinel, .pinned], laidTests := true, laidLooks := .later }
def SerialCardSaid : Prop := Claim7.holds Tryz.pinned (.plain (OpenSpec.ofChange serialSpec)) serialCard

/-- THE TIED CARD OF 'commitskeep.Alone'. -/
def aloneCard : Claim7 := { stood := { row := aloneRow, standIns := [], harness := (true, "9909fd51aa461c6ab607e3f3c41a65b5113f5bee0780d5bebf85441041c01317"), looks := true }, kinds := [], alts := [], laidByText := true, laidKinds := [.data, .data, .data, .data, .data, .handle, .sentinel, .sentinel, .pinned], laidTests := true, laidLooks := .later }
def AloneCardSaid : Prop := Claim7.holds Tryz.pinned (.plain (OpenSpec.ofChange aloneSpec)) aloneCard

/-- THE TIED CARD OF 'commitslaw.Explained'. -/
def explainedCard : Claim7 := { stood := { row := explainedRow, standIns := [], harness := (true, "9909fd51aa461c6ab607e3f3c41a65b5113f5bee0780d5bebf85441041c01317"), looks := true }, kinds := [], alts := [], laidByText := true, laidKinds := [.data, .data, .data, .data, .data, .handle, .sentinel, .sentinel, .pinned], laidTests := true, laidLooks := .later }
def ExplainedCardSaid : Prop := Claim7.holds Tryz.pinned (.plain (OpenSpec.ofChange explainedSpec)) explainedCard

/-- THE TIED CARD OF 'commitslaw.Apart'. -/
def apartCard : Claim7 := { stood := { row := apartRow, standIns := [], harness := (true, "9909fd51aa461c6ab607e3f3c41a65b5113f5bee0780d5bebf85441041c01317"), looks := true }, kinds := [], alts := [], laidByText := true, laidKinds := [.data, .data, .data, .data, .data, .handle, .sentinel, .sentinel, .pinned], laidTests := true, laidLooks := .later }
def ApartCardSaid : Prop := Claim7.holds Tryz.pinned (.plain (OpenSpec.ofChange apartSpec)) apartCard

/-- THE TIED CARD OF 'commitslaw.Readers'. -/
def readersCard : Claim7 := { stood := { row := readersRow, standIns := [], harness := (true, "9909fd51aa461c6ab607e3f3c41a65b5113f5bee0780d5bebf85441041c01317"), looks := true }, kinds := [], alts := [], laidByText := true, laidKinds := [.data, .data, .data, .data, .data, .handle, .sentinel, .sentinel, .pinned], laidTests := true, laidLooks := .later }
def ReadersCardSaid : Prop := Claim7.holds Tryz.pinned (.plain (OpenSpec.ofChange readersSpec)) readersCard

/-- THE TIED CARD OF 'commitslaw.Left'. -/
def leftCard : Claim7 := { stood := { row := leftRow, standIns := [], harness := (true, "9909fd51aa461c6ab607e3f3c41a65b5113f5bee0780d5bebf85441041c01317"), looks := true }, kinds := [], alts := [], laidByText := true, laidKinds := [.data, .data, .data, .data, .data, .handle, .sentinel, .sentinel, .pinned], laidTests := true, laidLooks := .later }
def LeftCardSaid : Prop := Claim7.holds Tryz.pinned (.plain (OpenSpec.ofChange leftSpec)) leftCard

/-- THE TIED CARD OF 'commitslaw.Both'. -/
def bothCard : Claim7 := { stood := { row := bothRow, standIns := [], harness := (true, "9909fd51aa461c6ab607e3f3c41a65b5113f5bee0780d5bebf85441041c01317"), looks := true }, kinds := [], alts := [], laidByText := true, laidKinds := [.data, .data, .data, .data, .data, .handle, .sentinel, .sentinel, .pinned], laidTests := true, laidLooks := .later }
def BothCardSaid : Prop := Claim7.holds Tryz.pinned (.plain (OpenSpec.ofChange bothSpec)) bothCard

/-- THE SECOND FORM's CARD OF 'commitslaw.Codes'. -/
def codesUptoCard : Claim7 := { stood := { row := codesUptoRow, standIns := [], harness := (true, "9909fd51aa461c6ab607e3f3c41a65b5113f5bee0780d5bebf85441041c01317"), looks := true }, kinds := [], alts := [], laidByText := true, laidKinds := [.data, .data, .data, .data, .data, .handle, .sentinel, .sentinel, .pinned], laidTests := true, laidLooks := .later }
def CodesUptoCardSaid : Prop := Claim7.holds Tryz.pinned (.plain (OpenSpec.upto codesSpec)) codesUptoCard

/-- THE SECOND FORM's CARD OF 'commitslaw.Runs'. -/
def runsUptoCard : Claim7 := { stood := { row := runsUptoRow, standIns := [], harness := (true, "9909fd51aa461c6ab607e3f3c41a65b5113f5bee0780d5bebf85441041c01317"), looks := true }, kinds := [], alts := [], laidByText := true, laidKinds := [.data, .data, .data, .data, .data, .handle, .sentinel, .sentinel, .pinned], laidTests := true, laidLooks := .later }
def RunsUptoCardSaid : Prop := Claim7.holds Tryz.pinned (.plain (OpenSpec.upto runsSpec)) runsUptoCard

/-- THE SECOND FORM's CARD OF 'commitskeep.Litmus'. -/
def litmusUptoCard : Claim7 := { stood := { row := litmusUptoRow, standIns := [], harness := (true, "9909fd51aa461c6ab607e3f3c41a65b5113f5bee0780d5bebf85441041c01317"), looks := true }, kinds := [], alts := [], laidByText := true, laidKinds := [.data, .data, .data, .data, .data, .handle, .sentinel, .sentinel, .pinned], laidTests := true, laidLooks := .later }
def LitmusUptoCardSaid : Prop := Claim7.holds Tryz.pinned (.plain (OpenSpec.upto litmusSpec)) litmusUptoCard

/-- THE SECOND FORM's CARD OF 'commitskeep.Twice'. -/
def twiceUptoCard : Claim7 := { stood := { row := twiceUptoRow, standIns := [], harness := (true, "9909fd51aa461c6ab607e3f3c41a65b5113f5bee0780d5bebf85441041c01317"), looks := true }, kinds := [], alts := [], laidByText := true, laidKinds := [.data, .data, .data, .data, .data, .handle, .sentinel, .sentinel, .pinned], laidTests := true, laidLooks := .later }
def TwiceUptoCardSaid : Prop := Claim7.holds Tryz.pinned (.plain (OpenSpec.upto twiceSpec)) twiceUptoCard

/-- THE SECOND FORM's CARD OF 'commitslaw.Compiles'. -/
def compilesUptoCard : Claim7 := { stood := { row := compilesUptoRow, standIns := [], harness := (true, "9909fd51aa461c6ab607e3f3c41a65b5113f5bee0780d5bebf85441041c01317"), looks := true }, kinds := [], alts := [], laidByText := true, laidKinds := [.data, .data, .data, .data, .data, .handle, .sentinel, .sentinel, .pinned], laidTests := true, laidLooks := .later }
def CompilesUptoCardSaid : Prop := Claim7.holds Tryz.pinned (.plain (OpenSpec.upto compilesSpec)) compilesUptoCard

/-- THE SECOND FORM's CARD OF 'commitslaw.Serial'. -/
def serialUptoCard : Claim7 := { stood := { row := serialUptoRow, standIns := [], harness := (true, "9909fd51aa461c6ab607e3f3c41a65b5113f5bee0780d5bebf85441041c01317"), looks := true }, kinds := [], alts := [], laidByText := true, laidKinds := [.data, .data, .data, .data, .data, .handle, .sentinel, .sentinel, .pinned], laidTests := true, laidLooks := .later }
def SerialUptoCardSaid : Prop := Claim7.holds Tryz.pinned (.plain (OpenSpec.upto serialSpec)) serialUptoCard

/-- THE SECOND FORM's CARD OF 'commitskeep.Alone'. -/
def aloneUptoCard : Claim7 := { stood := { row := aloneUptoRow, standIns := [], harness := (true, "9909fd51aa461c6ab607e3f3c41a65b5113f5bee0780d5bebf85441041c01317"), looks := true }, kinds := [], alts := [], laidByText := true, laidKinds := [.data, .data, .data, .data, .data, .handle, .sentinel, .sentinel, .pinned], laidTests := true, laidLooks := .later }
def AloneUptoCardSaid : Prop := Claim7.holds Tryz.pinned (.plain (OpenSpec.upto aloneSpec)) aloneUptoCard

/-- THE SECOND FORM's CARD OF 'commitslaw.Explained'. -/
def explainedUptoCard : Claim7 := { stood := { row := explainedUptoRow, standIns := [], harness := (true, "9909fd51aa461c6ab607e3f3c41a65b5113f5bee0780d5bebf85441041c01317"), looks := true }, kinds := [], alts := [], laidByText := true, laidKinds := [.data, .data, .data, .data, .data, .handle, .sentinel, .sentinel, .pinned], laidTests := true, laidLooks := .later }
def ExplainedUptoCardSaid : Prop := Claim7.holds Tryz.pinned (.plain (OpenSpec.upto explainedSpec)) explainedUptoCard

/-- THE SECOND FORM's CARD OF 'commitslaw.Apart'. -/
def apartUptoCard : Claim7 := { stood := { row := apartUptoRow, standIns := [], harness := (true, "9909fd51aa461c6ab607e3f3c41a65b5113f5bee0780d5bebf85441041c01317"), looks := true }, kinds := [], alts := [], laidByText := true, laidKinds := [.data, .data, .data, .data, .data, .handle, .sentinel, .sentinel, .pinned], laidTests := true, laidLooks := .later }
def ApartUptoCardSaid : Prop := Claim7.holds Tryz.pinned (.plain (OpenSpec.upto apartSpec)) apartUptoCard

/-- THE SECOND FORM's CARD OF 'commitslaw.Readers'. -/
def readersUptoCard : Claim7 := { stood := { row := readersUptoRow, standIns := [], harness := (true, "9909fd51aa461c6ab607e3f3c41a65b5113f5bee0780d5bebf85441041c01317"), looks := true }, kinds := [], alts := [], laidByText := true, laidKinds := [.data, .data, .data, .data, .data, .handle, .sentinel, .sentinel, .pinned], laidTests := true, laidLooks := .later }
def ReadersUptoCardSaid : Prop := Claim7.holds Tryz.pinned (.plain (OpenSpec.upto readersSpec)) readersUptoCard

/-- THE SECOND FORM's CARD OF 'commitslaw.Left'. -/
def leftUptoCard : Claim7 := { stood := { row := leftUptoRow, standIns := [], harness := (true, "9909fd51aa461c6ab607e3f3c41a65b5113f5bee0780d5bebf85441041c01317"), looks := true }, kinds := [], alts := [], laidByText := true, laidKinds := [.data, .data, .data, .data, .data, .handle, .sentinel, .sentinel, .pinned], laidTests := true, laidLooks := .later }
def LeftUptoCardSaid : Prop := Claim7.holds Tryz.pinned (.plain (OpenSpec.upto leftSpec)) leftUptoCard

/-- THE SECOND FORM's CARD OF 'commitslaw.Both'. -/
def bothUptoCard : Claim7 := { stood := { row := bothUptoRow, standIns := [], harness := (true, "9909fd51aa461c6ab607e3f3c41a65b5113f5bee0780d5bebf85441041c01317"), looks := true }, kinds := [], alts := [], laidByText := true, laidKinds := [.data, .data, .data, .data, .data, .handle, .sentinel, .sentinel, .pinned], laidTests := true, laidLooks := .later }
def BothUptoCardSaid : Prop := Claim7.holds Tryz.pinned (.plain (OpenSpec.upto bothSpec)) bothUptoCard
end Rows
end Go.Proofs.YtfhkfnoajbbfdaaGreatDoor
