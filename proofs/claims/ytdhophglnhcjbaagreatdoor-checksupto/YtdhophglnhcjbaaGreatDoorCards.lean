/-
  DERIVED. GIVEN WITH THE SEED: THE CARDS: each row of YtdhophglnhcjbaaGreatDoorRows.lean that lists a variable, with what it lists TIED to the program's text (the seventh form; the later family's looks); each row that meets fmt, with fmt's text TOLD by the authors' own Lean function (tested against real Go, not proved from fmt's source: count such statements apart). THE CARD IS WHAT COUNTS. Prove the row's statement (the work); the ties are given (YtdhophglnhcjbaaGreatDoorTie.lean); close each card by the builder's one call (the guide's Derived/Test/ToyasCard.lean, 'card_holds'). Laid BY PROGRAM, IN A SANDBOX (cutbox-door.mjs). By AI agents, Wed Nov 11 2026. No macro, syntax, notation, axiom, sorry.
-/
import Derived.Test.YtdhophglnhcjbaaGreatDoorRows
import GoSem.ClaimSeven
namespace Go.Proofs.YtdhophglnhcjbaaGreatDoor
namespace Rows

/-- THE TIED CARD OF 'wardenlaw.Links'. -/
def linksCard : Claim7 := { stood := { row := linksRow, standIns := [], harness := (true, "971c9142bc861273c51401fc6029a2f9c0c3601c79bcfccc78bf3159ad03c691"), looks := true }, kinds := [], alts := [], laidByText := true, laidKinds := [.data, .data], laidTests := true, laidLooks := .later }
def LinksCardSaid : Prop := Claim7.holds Tryz.pinned (.plain (OpenSpec.ofChange linksSpec)) linksCard

/-- THE TIED CARD OF 'wardenlaw.Checks'. -/
def checksCard : Claim7 := { stood := { row := checksRow, standIns := [], harness := (true, "971c9142bc861273c51401fc6029a2f9c0c3601c79bcfccc78bf3159ad03c691"), looks := true }, kinds := [], alts := [], laidByText := true, laidKinds := [.data, .data], laidTests := true, laidLooks := .later }
def ChecksCardSaid : Prop := Claim7.holds Tryz.pinned (.plain (OpenSpec.ofChange checksSpec)) checksCard

/-- THE TIED CARD OF 'wardenlaw.Typings'. -/
def typingsCard : Claim7 := { stood := { row := typingsRow, standIns := [], harness := (true, "971c9142bc861273c51401fc6029a2f9c0c3601c79bcfccc78bf3159ad03c691"), looks := true }, kinds := [], alts := [], laidByText := true, laidKinds := [.data, .data], laidTests := true, laidLooks := .later }
def TypingsCardSaid : Prop := Claim7.holds Tryz.pinned (.plain (OpenSpec.ofChange typingsSpec)) typingsCard

/-- THE TIED CARD OF 'wardenlaw.Runs'. -/
def runsCard : Claim7 := { stood := { row := runsRow, standIns := [], harness := (true, "971c9142bc861273c51401fc6029a2f9c0c3601c79bcfccc78bf3159ad03c691"), looks := true }, kinds := [], alts := [], laidByText := true, laidKinds := [.data, .data, .data], laidTests := true, laidLooks := .later }
def RunsCardSaid : Prop := Claim7.holds Tryz.pinned (.plain (OpenSpec.ofChange runsSpec)) runsCard

/-- THE TIED CARD OF 'wardenlaw.Fasts'. -/
def fastsCard : Claim7 := { stood := { row := fastsRow, standIns := [], harness := (true, "971c9142bc861273c51401fc6029a2f9c0c3601c79bcfccc78bf3159ad03c691"), looks := true }, kinds := [], alts := [], laidByText := true, laidKinds := [.data, .data, .data], laidTests := true, laidLooks := .later }
def FastsCardSaid : Prop := Claim7.holds Tryz.pinned (.plain (OpenSpec.ofChange fastsSpec)) fastsCard

/-- THE TIED CARD OF 'wardenkeep.Exact'. -/
def exactCard : Claim7 := { stood := { row := exactRow, standIns := [], harness := (true, "971c9142bc861273c51401fc6029a2f9c0c3601c79bcfccc78bf3159ad03c691"), looks := true }, kinds := [], alts := [], laidByText := true, laidKinds := [.data, .data, .data], laidTests := true, laidLooks := .later }
def ExactCardSaid : Prop := Claim7.holds Tryz.pinned (.plain (OpenSpec.ofChange exactSpec)) exactCard

/-- THE TIED CARD OF 'wardenkeep.Erased'. -/
def erasedCard : Claim7 := { stood := { row := erasedRow, standIns := [], harness := (true, "971c9142bc861273c51401fc6029a2f9c0c3601c79bcfccc78bf3159ad03c691"), looks := true }, kinds := [], alts := [], laidByText := true, laidKinds := [.data, .data, .data], laidTests := true, laidLooks := .later }
def ErasedCardSaid : Prop := Claim7.holds Tryz.pinned (.plain (OpenSpec.ofChange erasedSpec)) erasedCard

/-- THE TIED CARD OF 'wardenkeep.Conform'. -/
def conformCard : Claim7 := { stood := { row := conformRow, standIns := [], harness := (true, "971c9142bc861273c51401fc6029a2f9c0c3601c79bcfccc78bf3159ad03c691"), looks := true }, kinds := [], alts := [], laidByText := true, laidKinds := [.data, .data, .data], laidTests := true, laidLooks := .later }
def ConformCardSaid : Prop := Claim7.holds Tryz.pinned (.plain (OpenSpec.ofChange conformSpec)) conformCard

/-- THE TIED CARD OF 'wardenkeep.Split'. -/
def splitCard : Claim7 := { stood := { row := splitRow, standIns := [], harness := (true, "971c9142bc861273c51401fc6029a2f9c0c3601c79bcfccc78bf3159ad03c691"), looks := true }, kinds := [], alts := [], laidByText := true, laidKinds := [.data, .data, .data], laidTests := true, laidLooks := .later }
def SplitCardSaid : Prop := Claim7.holds Tryz.pinned (.plain (OpenSpec.ofChange splitSpec)) splitCard

/-- THE TIED CARD OF 'wardenkeep.Apart'. -/
def apartCard : Claim7 := { stood := { row := apartRow, standIns := [], harness := (true, "971c9142bc861273c51401fc6029a2f9c0c3601c79bcfccc78bf3159ad03c691"), looks := true }, kinds := [], alts := [], laidByText := true, laidKinds := [.data, .data, .data], laidTests := true, laidLooks := .later }
def ApartCardSaid : Prop := Claim7.holds Tryz.pinned (.plain (OpenSpec.ofChange apartSpec)) apartCard

/-- THE SECOND FORM's CARD OF 'wardenlaw.Links'. -/
def linksUptoCard : Claim7 := { stood := { row := linksUptoRow, standIns := [], harness := (true, "971c9142bc861273c51401fc6029a2f9c0c3601c79bcfccc78bf3159ad03c691"), looks := true }, kinds := [], alts := [], laidByText := true, laidKinds := [.data, .data], laidTests := true, laidLooks := .later }
def LinksUptoCardSaid : Prop := Claim7.holds Tryz.pinned (.plain (OpenSpec.upto linksSpec)) linksUptoCard

/-- THE SECOND FORM's CARD OF 'wardenlaw.Checks'. -/
def checksUptoCard : Claim7 := { stood := { row := checksUptoRow, standIns := [], harness := (true, "971c9142bc861273c51401fc6029a2f9c0c3601c79bcfccc78bf3159ad03c691"), looks := true }, kinds := [], alts := [], laidByText := true, laidKinds := [.data, .data], laidTests := true, laidLooks := .later }
def ChecksUptoCardSaid : Prop := Claim7.holds Tryz.pinned (.plain (OpenSpec.upto checksSpec)) checksUptoCard

/-- THE SECOND FORM's CARD OF 'wardenlaw.Typings'. -/
def typingsUptoCard : Claim7 := { stood := { row := typingsUptoRow, standIns := [], harness := (true, "971c9142bc861273c51401fc6029a2f9c0c3601c79bcfccc78bf3159ad03c691"), looks := true }, kinds := [], alts := [], laidByText := true, laidKinds := [.data, .data], laidTests := true, laidLooks := .later }
def TypingsUptoCardSaid : Prop := Claim7.holds Tryz.pinned (.plain (OpenSpec.upto typingsSpec)) typingsUptoCard

/-- THE SECOND FORM's CARD OF 'wardenlaw.Runs'. -/
def runsUptoCard : Claim7 := { stood := { row := runsUptoRow, standIns := [], harness := (true, "971c9142bc861273c51401fc6029a2f9c0c3601c79bcfccc78bf3159ad03c691"), looks := true }, kinds := [], alts := [], laidByText := true, laidKinds := [.data, .data, .data], laidTests := true, laidLooks := .later }
def RunsUptoCardSaid : Prop := Claim7.holds Tryz.pinned (.plain (OpenSpec.upto runsSpec)) runsUptoCard

/-- THE SECOND FORM's CARD OF 'wardenlaw.Fasts'. -/
def fastsUptoCard : Claim7 := { stood := { row := fastsUptoRow, standIns := [], harness := (true, "971c9142bc861273c51401fc6029a2f9c0c3601c79bcfccc78bf3159ad03c691"), looks := true }, kinds := [], alts := [], laidByText := true, laidKinds := [.data, .data, .data], laidTests := true, laidLooks := .later }
def FastsUptoCardSaid : Prop := Claim7.holds Tryz.pinned (.plain (OpenSpec.upto fastsSpec)) fastsUptoCard

/-- THE SECOND FORM's CARD OF 'wardenkeep.Exact'. -/
def exactUptoCard : Claim7 := { stood := { row := exactUptoRow, standIns := [], harness := (true, "971c9142bc861273c51401fc6029a2f9c0c3601c79bcfccc78bf3159ad03c691"), looks := true }, kinds := [], alts := [], laidByText := true, laidKinds := [.data, .data, .data], laidTests := true, laidLooks := .later }
def ExactUptoCardSaid : Prop := Claim7.holds Tryz.pinned (.plain (OpenSpec.upto exactSpec)) exactUptoCard

/-- THE SECOND FORM's CARD OF 'wardenkeep.Erased'. -/
def erasedUptoCard : Claim7 := { stood := { row := erasedUptoRow, standIns := [], harness := (true, "971c9142bc861273c51401fc6029a2f9c0c3601c79bcfccc78bf3159ad03c691"), looks := true }, kinds := [], alts := [], laidByText := true, laidKinds := [.data, .data, .data], laidTests := true, laidLooks := .later }
def ErasedUptoCardSaid : Prop := Claim7.holds Tryz.pinned (.plain (OpenSpec.upto erasedSpec)) erasedUptoCard

/-- THE SECOND FORM's CARD OF 'wardenkeep.Conform'. -/
def conformUptoCard : Claim7 := { stood := { row := conformUptoRow, standIns := [], harness := (true, "971c9142bc861273c51401fc6029a2f9c0c3601c79bcfccc78bf3159ad03c691"), looks := true }, kinds := [], alts := [], laidByText := true, laidKinds := [.data, .data, .data], laidTests := true, laidLooks := .later }
def ConformUptoCardSaid : Prop := Claim7.holds Tryz.pinned (.plain (OpenSpec.upto conformSpec)) conformUptoCard

/-- THE SECOND FORM's CARD OF 'wardenkeep.Split'. -/
def splitUptoCard : Claim7 := { stood := { row := splitUptoRow, standIns := [], harness := (true, "971c9142bc861273c51401fc6029a2f9c0c3601c79bcfccc78bf3159ad03c691"), looks := true }, kinds := [], alts := [], laidByText := true, laidKinds := [.data, .data, .data], laidTests := true, laidLooks := .later }
def SplitUptoCardSaid : Prop := Claim7.holds Tryz.pinned (.plain (OpenSpec.upto splitSpec)) splitUptoCard

/-- THE SECOND FORM's CARD OF 'wardenkeep.Apart'. -/
def apartUptoCard : Claim7 := { stood := { row := apartUptoRow, standIns := [], harness := (true, "971c9142bc861273c51401fc6029a2f9c0c3601c79bcfccc78bf3159ad03c691"), looks := true }, kinds := [], alts := [], laidByText := true, laidKinds := [.data, .data, .data], laidTests := true, laidLooks := .later }
def ApartUptoCardSaid : Prop := Claim7.holds Tryz.pinned (.plain (OpenSpec.upto apartSpec)) apartUptoCard
end Rows
end Go.Proofs.YtdhophglnhcjbaaGreatDoor
