/-
  DERIVED. GIVEN WITH THE SEED: THE CARDS: each row of YtfekpbkcidhbfaaDoorRows.lean that lists a variable, with what it lists TIED to the program's text (the seventh form; the later family's looks); each row that meets fmt, with fmt's text TOLD by the authors' own Lean function (tested against real Go, not proved from fmt's source: count such statements apart). THE CARD IS WHAT COUNTS. Prove the row's statement (the work); the ties are given (YtfekpbkcidhbfaaDoorTie.lean); close each card by the builder's one call (the guide's Derived/Test/ToyasCard.lean, 'card_holds'). Laid BY PROGRAM, IN A SANDBOX (cutbox-door.mjs). By AI agents, Wed Nov 11 2026. No macro, syntax, notation, axiom, sorry.
-/
import Derived.Test.YtfekpbkcidhbfaaDoorRows
import GoSem.ClaimSeven
namespace Go.Proofs.YtfekpbkcidhbfaaDoor
namespace Rows

/-- THE TIED CARD OF 'laws.FnExactTableMake'. -/
def fnExactTableMakeCard : Claim7 := { stood := { row := fnExactTableMakeRow, standIns := [], harness := (true, "e44fd39f43e3212deb9a3739f77b863fd6b4c0e8e73599f7c865050e49cbc783"), looks := false }, kinds := [], alts := [], laidByText := true, laidKinds := [.data, .data, .data, .data, .data], laidTests := true, laidLooks := .later }
def FnExactTableMakeCardSaid : Prop := Claim7.holds Tryd.pinned (.plain (OpenSpec.ofChange fnExactTableMakeSpec)) fnExactTableMakeCard

/-- THE TIED CARD OF 'laws.FnTableSmall'. -/
def fnTableSmallCard : Claim7 := { stood := { row := fnTableSmallRow, standIns := [], harness := (true, "e44fd39f43e3212deb9a3739f77b863fd6b4c0e8e73599f7c865050e49cbc783"), looks := false }, kinds := [], alts := [], laidByText := true, laidKinds := [.data, .data, .data, .data, .data], laidTests := true, laidLooks := .later }
def FnTableSmallCardSaid : Prop := Claim7.holds Tryd.pinned (.plain (OpenSpec.ofChange fnTableSmallSpec)) fnTableSmallCard

/-- THE SECOND FORM's CARD OF 'laws.FnExactTableMake'. -/
def fnExactTableMakeUptoCard : Claim7 := { stood := { row := fnExactTableMakeUptoRow, standIns := [], harness := (true, "e44fd39f43e3212deb9a3739f77b863fd6b4c0e8e73599f7c865050e49cbc783"), looks := false }, kinds := [], alts := [], laidByText := true, laidKinds := [.data, .data, .data, .data, .data], laidTests := true, laidLooks := .later }
def FnExactTableMakeUptoCardSaid : Prop := Claim7.holds Tryd.pinned (.plain (OpenSpec.upto fnExactTableMakeSpec)) fnExactTableMakeUptoCard

/-- THE SECOND FORM's CARD OF 'laws.FnTableSmall'. -/
def fnTableSmallUptoCard : Claim7 := { stood := { row := fnTableSmallUptoRow, standIns := [], harness := (true, "e44fd39f43e3212deb9a3739f77b863fd6b4c0e8e73599f7c865050e49cbc783"), looks := false }, kinds := [], alts := [], laidByText := true, laidKinds := [.data, .data, .data, .data, .data], laidTests := true, laidLooks := .later }
def FnTableSmallUptoCardSaid : Prop := Claim7.holds Tryd.pinned (.plain (OpenSpec.upto fnTableSmallSpec)) fnTableSmallUptoCard
end Rows
end Go.Proofs.YtfekpbkcidhbfaaDoor
