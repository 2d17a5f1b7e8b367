/-
  DERIVED. GIVEN WITH THE SEED: THE CARDS: each row of YtfcmodllbhpniaaGreatDoorRows.lean that lists a variable, with what it lists TIED to the program's text (the seventh form; the later family's looks); each row that meets fmt, with fmt's text TOLD by the authors' own Lean function (tested against real Go, not proved from fmt's source: count such statements apart). THE CARD IS WHAT COUNTS. Prove the row's statement (the work); the ties are given (YtfcmodllbhpniaaGreatDoorTie.lean); close each card by the builder's one call (the guide's Derived/Test/ToyasCard.lean, 'card_holds'). Laid BY PROGRAM, IN A SANDBOX (cutbox-door.mjs). By AI agents, Wed Nov 11 2026. No macro, syntax, notation, axiom, sorry.
-/
import Derived.Test.YtfcmodllbhpniaaGreatDoorRows
import GoSem.ClaimSeven
namespace Go.Proofs.YtfcmodllbhpniaaGreatDoor
namespace Rows

/-- THE TIED CARD OF 'trunnionlaw10.BareRows'. -/
def bareRowsCard : Claim7 := { stood := { row := bareRowsRow, standIns := [], harness := (true, "aace9d0ef1f8d43d1fe2115868c14b562d82bf8cc72493f70a14ab9b1e198b9f"), looks := true }, kinds := [], alts := [], laidByText := true, laidKinds := [.handle], laidTests := true, laidLooks := .later }
def BareRowsCardSaid : Prop := Claim7.holds Tryz.pinned (.plain (OpenSpec.ofChange bareRowsSpec)) bareRowsCard

/-- THE TIED CARD OF 'trunnionlaw10.BareResets'. -/
def bareResetsCard : Claim7 := { stood := { row := bareResetsRow, standIns := [], harness := (true, "aace9d0ef1f8d43d1fe2115868c14b562d82bf8cc72493f70a14ab9b1e198b9f"), looks := true }, kinds := [], alts := [], laidByText := true, laidKinds := [.handle], laidTests := true, laidLooks := .later }
def BareResetsCardSaid : Prop := Claim7.holds Tryz.pinned (.plain (OpenSpec.ofChange bareResetsSpec)) bareResetsCard

/-- THE TIED CARD OF 'trunnionlaw10.BareInstructions'. -/
def bareInstructionsCard : Claim7 := { stood := { row := bareInstructionsRow, standIns := [], harness := (true, "aace9d0ef1f8d43d1fe2115868c14b562d82bf8cc72493f70a14ab9b1e198b9f"), looks := true }, kinds := [], alts := [], laidByText := true, laidKinds := [.handle], laidTests := true, laidLooks := .later }
def BareInstructionsCardSaid : Prop := Claim7.holds Tryz.pinned (.plain (OpenSpec.ofChange bareInstructionsSpec)) bareInstructionsCard

/-- THE TIED CARD OF 'trunnionlaw10.BareTimer'. -/
def bareTimerCard : Claim7 := { stood := { row := bareTimerRow, standIns := [], harness := (true, "aace9d0ef1f8d43d1fe2115868c14b562d82bf8cc72493f70a14ab9b1e198b9f"), looks := true }, kinds := [], alts := [], laidByText := true, laidKinds := [.handle], laidTests := true, laidLooks := .later }
def BareTimerCardSaid : Prop := Claim7.holds Tryz.pinned (.plain (OpenSpec.ofChange bareTimerSpec)) bareTimerCard

/-- THE TIED CARD OF 'trunnionlaw10.BareStuck'. -/
def bareStuckCard : Claim7 := { stood := { row := bareStuckRow, standIns := [], harness := (true, "aace9d0ef1f8d43d1fe2115868c14b562d82bf8cc72493f70a14ab9b1e198b9f"), looks := true }, kinds := [], alts := [], laidByText := true, laidKinds := [.handle], laidTests := true, laidLooks := .later }
def BareStuckCardSaid : Prop := Claim7.holds Tryz.pinned (.plain (OpenSpec.ofChange bareStuckSpec)) bareStuckCard

/-- THE SECOND FORM's CARD OF 'trunnionlaw10.BareRows'. -/
def bareRowsUptoCard : Claim7 := { stood := { row := bareRowsUptoRow, standIns := [], harness := (true, "aace9d0ef1f8d43d1fe2115868c14b562d82bf8cc72493f70a14ab9b1e198b9f"), looks := true }, kinds := [], alts := [], laidByText := true, laidKinds := [.handle], laidTests := true, laidLooks := .later }
def BareRowsUptoCardSaid : Prop := Claim7.holds Tryz.pinned (.plain (OpenSpec.upto bareRowsSpec)) bareRowsUptoCard

/-- THE SECOND FORM's CARD OF 'trunnionlaw10.BareResets'. -/
def bareResetsUptoCard : Claim7 := { stood := { row := bareResetsUptoRow, standIns := [], harness := (true, "aace9d0ef1f8d43d1fe2115868c14b562d82bf8cc72493f70a14ab9b1e198b9f"), looks := true }, kinds := [], alts := [], laidByText := true, laidKinds := [.handle], laidTests := true, laidLooks := .later }
def BareResetsUptoCardSaid : Prop := Claim7.holds Tryz.pinned (.plain (OpenSpec.upto bareResetsSpec)) bareResetsUptoCard

/-- THE SECOND FORM's CARD OF 'trunnionlaw10.BareInstructions'. -/
def bareInstructionsUptoCard : Claim7 := { stood := { row := bareInstructionsUptoRow, standIns := [], harness := (true, "aace9d0ef1f8d43d1fe2115868c14b562d82bf8cc72493f70a14ab9b1e198b9f"), looks := true }, kinds := [], alts := [], laidByText := true, laidKinds := [.handle], laidTests := true, laidLooks := .later }
def BareInstructionsUptoCardSaid : Prop := Claim7.holds Tryz.pinned (.plain (OpenSpec.upto bareInstructionsSpec)) bareInstructionsUptoCard

/-- THE SECOND FORM's CARD OF 'trunnionlaw10.BareTimer'. -/
def bareTimerUptoCard : Claim7 := { stood := { row := bareTimerUptoRow, standIns := [], harness := (true, "aace9d0ef1f8d43d1fe2115868c14b562d82bf8cc72493f70a14ab9b1e198b9f"), looks := true }, kinds := [], alts := [], laidByText := true, laidKinds := [.handle], laidTests := true, laidLooks := .later }
def BareTimerUptoCardSaid : Prop := Claim7.holds Tryz.pinned (.plain (OpenSpec.upto bareTimerSpec)) bareTimerUptoCard

/-- THE SECOND FORM's CARD OF 'trunnionlaw10.BareStuck'. -/
def bareStuckUptoCard : Claim7 := { stood := { row := bareStuckUptoRow, standIns := [], harness := (true, "aace9d0ef1f8d43d1fe2115868c14b562d82bf8cc72493f70a14ab9b1e198b9f"), looks := true }, kinds := [], alts := [], laidByText := true, laidKinds := [.handle], laidTests := true, laidLooks := .later }
def BareStuckUptoCardSaid : Prop := Claim7.holds Tryz.pinned (.plain (OpenSpec.upto bareStuckSpec)) bareStuckUptoCard
end Rows
end Go.Proofs.YtfcmodllbhpniaaGreatDoor
