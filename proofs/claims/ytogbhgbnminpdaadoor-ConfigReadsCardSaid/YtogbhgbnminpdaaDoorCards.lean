/-
  DERIVED. GIVEN WITH THE SEED: THE CARDS: each row of YtogbhgbnminpdaaDoorRows.lean that lists a variable, with what it lists TIED to the program's text (the seventh form; the later family's looks); each row that meets fmt, with fmt's text TOLD by the authors' own Lean function (tested against real Go, not proved from fmt's source: count such statements apart). THE CARD IS WHAT COUNTS. Prove the row's statement (the work); the ties are given (YtogbhgbnminpdaaDoorTie.lean); close each card by the builder's one call (the guide's Derived/Test/ToyasCard.lean, 'card_holds'). Laid BY PROGRAM, IN A SANDBOX (cutbox-door.mjs). By AI agents, Wed Nov 11 2026. No macro, syntax, notation, axiom, sorry.
-/
import Derived.Test.YtogbhgbnminpdaaDoorRows
import GoSem.ClaimSeven
namespace Go.Proofs.YtogbhgbnminpdaaDoor
namespace Rows

/-- THE TIED CARD OF 'trunnionlaw14.ConfigPacks'. -/
def configPacksCard : Claim7 := { stood := { row := configPacksRow, standIns := [], harness := (true, "3d922964ccc56c03152f0a58f97dfad90ce0754b08b579d451a782b1ee2f0142"), looks := true }, kinds := [], alts := [], laidByText := true, laidKinds := [.handle], laidTests := true, laidLooks := .later }
def ConfigPacksCardSaid : Prop := Claim7.holds Tryd.pinned (.plain (OpenSpec.ofChange configPacksSpec)) configPacksCard

/-- THE TIED CARD OF 'trunnionlaw14.ConfigReads'. -/
def configReadsCard : Claim7 := { stood := { row := configReadsRow, standIns := [], harness := (true, "3d922964ccc56c03152f0a58f97dfad90ce0754b08b579d451a782b1ee2f0142"), looks := true }, kinds := [], alts := [], laidByText := true, laidKinds := [.handle], laidTests := true, laidLooks := .later }
def ConfigReadsCardSaid : Prop := Claim7.holds Tryd.pinned (.plain (OpenSpec.ofChange configReadsSpec)) configReadsCard

/-- THE SECOND FORM's CARD OF 'trunnionlaw14.ConfigPacks'. -/
def configPacksUptoCard : Claim7 := { stood := { row := configPacksUptoRow, standIns := [], harness := (true, "3d922964ccc56c03152f0a58f97dfad90ce0754b08b579d451a782b1ee2f0142"), looks := true }, kinds := [], alts := [], laidByText := true, laidKinds := [.handle], laidTests := true, laidLooks := .later }
def ConfigPacksUptoCardSaid : Prop := Claim7.holds Tryd.pinned (.plain (OpenSpec.upto configPacksSpec)) configPacksUptoCard

/-- THE SECOND FORM's CARD OF 'trunnionlaw14.ConfigReads'. -/
def configReadsUptoCard : Claim7 := { stood := { row := configReadsUptoRow, standIns := [], harness := (true, "3d922964ccc56c03152f0a58f97dfad90ce0754b08b579d451a782b1ee2f0142"), looks := true }, kinds := [], alts := [], laidByText := true, laidKinds := [.handle], laidTests := true, laidLooks := .later }
def ConfigReadsUptoCardSaid : Prop := Claim7.holds Tryd.pinned (.plain (OpenSpec.upto configReadsSpec)) configReadsUptoCard
end Rows
end Go.Proofs.YtogbhgbnminpdaaDoor
