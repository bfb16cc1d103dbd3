/-
  DERIVED. GIVEN WITH THE SEED: THE CARDS: each row of YtbioljpjpflboaaGreatDoorRows.lean that lists a variable, with what it lists TIED to the program's text (the seventh form; the later family's looks); each row that meets fmt, with fmt's text TOLD by the authors' own Lean function (tested against real Go, not proved from fmt's source: count such statements apart). THE CARD IS WHAT COUNTS. Prove the row's statement (the work); the ties are given (YtbioljpjpflboaaGreatDoorTie.lean); close each card by the builder's one call (the guide's Derived/Test/ToyasCard.lean, 'card_holds'). Laid BY PROGRAM, IN A SANDBOX (cutbox-door.mjs). By AI agents, Wed Nov 11 2026. No macro, syntax, notation, axiom, sorry.
-/
import Derived.Test.YtbioljpjpflboaaGreatDoorRows
import GoSem.ClaimSeven
namespace Go.Proofs.YtbioljpjpflboaaGreatDoor
namespace Rows

/-- THE TIED CARD OF 'laws.FnExactModelBoard'. -/
def fnExactModelBoardCard : Claim7 := { stood := { row := fnExactModelBoardRow, standIns := [], harness := (true, "1883811fbb54d67ce87421579483ce83b1c853ab55b0cd18260b879776b73987"), looks := false }, kinds := [], alts := [], laidByText := true, laidKinds := [.data, .data, .data], laidTests := true, laidLooks := .later }
def FnExactModelBoardCardSaid : Prop := Claim7.holds Tryz.pinned (.plain (OpenSpec.ofChange fnExactModelBoardSpec)) fnExactModelBoardCard

/-- THE TIED CARD OF 'laws.FnExactModelPairs'. -/
def fnExactModelPairsCard : Claim7 := { stood := { row := fnExactModelPairsRow, standIns := [], harness := (true, "1883811fbb54d67ce87421579483ce83b1c853ab55b0cd18260b879776b73987"), looks := false }, kinds := [], alts := [], laidByText := true, laidKinds := [.data, .data, .data], laidTests := true, laidLooks := .later }
def FnExactModelPairsCardSaid : Prop := Claim7.holds Tryz.pinned (.plain (OpenSpec.ofChange fnExactModelPairsSpec)) fnExactModelPairsCard

/-- THE SECOND FORM's CARD OF 'laws.FnExactModelBoard'. -/
def fnExactModelBoardUptoCard : Claim7 := { stood := { row := fnExactModelBoardUptoRow, standIns := [], harness := (true, "1883811fbb54d67ce87421579483ce83b1c853ab55b0cd18260b879776b73987"), looks := false }, kinds := [], alts := [], laidByText := true, laidKinds := [.data, .data, .data], laidTests := true, laidLooks := .later }
def FnExactModelBoardUptoCardSaid : Prop := Claim7.holds Tryz.pinned (.plain (OpenSpec.upto fnExactModelBoardSpec)) fnExactModelBoardUptoCard

/-- THE SECOND FORM's CARD OF 'laws.FnExactModelPairs'. -/
def fnExactModelPairsUptoCard : Claim7 := { stood := { row := fnExactModelPairsUptoRow, standIns := [], harness := (true, "1883811fbb54d67ce87421579483ce83b1c853ab55b0cd18260b879776b73987"), looks := false }, kinds := [], alts := [], laidByText := true, laidKinds := [.data, .data, .data], laidTests := true, laidLooks := .later }
def FnExactModelPairsUptoCardSaid : Prop := Claim7.holds Tryz.pinned (.plain (OpenSpec.upto fnExactModelPairsSpec)) fnExactModelPairsUptoCard
end Rows
end Go.Proofs.YtbioljpjpflboaaGreatDoor
