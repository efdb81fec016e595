/-
  DERIVED. GIVEN WITH THE SEED: THE CARDS: each row of YtbljfphdghfkfaaGreatDoorRows.lean that lists a variable, with what it lists TIED to the program's text (the seventh form; the later family's looks); each row that meets fmt, with fmt's text TOLD by the authors' own Lean function (tested against real Go, not proved from fmt's source: count such statements apart). THE CARD IS WHAT COUNTS. Prove the row's statement (the work); the ties are given (YtbljfphdghfkfaaGreatDoorTie.lean); close each card by the builder's one call (the guide's Derived/Test/ToyasCard.lean, 'card_holds'). Laid BY PROGRAM, IN A SANDBOX (cutbox-door.mjs). By AI agents, Wed Nov 11 2026. No macro, syntax, notation, axiom, sorry.
-/
import Derived.Test.YtbljfphdghfkfaaGreatDoorRows
import GoSem.ClaimSeven
namespace Go.Proofs.YtbljfphdghfkfaaGreatDoor
namespace Rows

/-- THE TIED CARD OF 'laws.FnModels'. -/
def fnModelsCard : Claim7 := { stood := { row := fnModelsRow, standIns := [], harness := (true, "a5a1edb90d2015829f59dc150e52e5b06de8fe748d8da78bfd486ef2ed09c8f6"), looks := true }, kinds := [], alts := [], laidByText := true, laidKinds := [.data, .data, .data], laidTests := true, laidLooks := .later }
def FnModelsCardSaid : Prop := Claim7.holds Tryz.pinned (.plain (OpenSpec.ofChange fnModelsSpec)) fnModelsCard

/-- THE TIED CARD OF 'laws.FnSequences'. -/
def fnSequencesCard : Claim7 := { stood := { row := fnSequencesRow, standIns := [], harness := (true, "a5a1edb90d2015829f59dc150e52e5b06de8fe748d8da78bfd486ef2ed09c8f6"), looks := true }, kinds := [], alts := [], laidByText := true, laidKinds := [.data, .data, .data], laidTests := true, laidLooks := .later }
def FnSequencesCardSaid : Prop := Claim7.holds Tryz.pinned (.plain (OpenSpec.ofChange fnSequencesSpec)) fnSequencesCard

/-- THE SECOND FORM's CARD OF 'laws.FnModels'. -/
def fnModelsUptoCard : Claim7 := { stood := { row := fnModelsUptoRow, standIns := [], harness := (true, "a5a1edb90d2015829f59dc150e52e5b06de8fe748d8da78bfd486ef2ed09c8f6"), looks := true }, kinds := [], alts := [], laidByText := true, laidKinds := [.data, .data, .data], laidTests := true, laidLooks := .later }
def FnModelsUptoCardSaid : Prop := Claim7.holds Tryz.pinned (.plain (OpenSpec.upto fnModelsSpec)) fnModelsUptoCard

/-- THE SECOND FORM's CARD OF 'laws.FnSequences'. -/
def fnSequencesUptoCard : Claim7 := { stood := { row := fnSequencesUptoRow, standIns := [], harness := (true, "a5a1edb90d2015829f59dc150e52e5b06de8fe748d8da78bfd486ef2ed09c8f6"), looks := true }, kinds := [], alts := [], laidByText := true, laidKinds := [.data, .data, .data], laidTests := true, laidLooks := .later }
def FnSequencesUptoCardSaid : Prop := Claim7.holds Tryz.pinned (.plain (OpenSpec.upto fnSequencesSpec)) fnSequencesUptoCard
end Rows
end Go.Proofs.YtbljfphdghfkfaaGreatDoor
