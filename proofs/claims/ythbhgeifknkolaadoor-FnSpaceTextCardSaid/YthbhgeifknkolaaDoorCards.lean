/-
  DERIVED. GIVEN WITH THE SEED: THE CARDS: each row of YthbhgeifknkolaaDoorRows.lean that lists a variable, with what it lists TIED to the program's text (the seventh form; the later family's looks); each row that meets fmt, with fmt's text TOLD by the authors' own Lean function (tested against real Go, not proved from fmt's source: count such statements apart). THE CARD IS WHAT COUNTS. Prove the row's statement (the work); the ties are given (YthbhgeifknkolaaDoorTie.lean); close each card by the builder's one call (the guide's Derived/Test/ToyasCard.lean, 'card_holds'). Laid BY PROGRAM, IN A SANDBOX (cutbox-door.mjs). By AI agents, Wed Nov 11 2026. No macro, syntax, notation, axiom, sorry.
-/
import Derived.Test.YthbhgeifknkolaaDoorRows
import GoSem.ClaimSeven
namespace Go.Proofs.YthbhgeifknkolaaDoor
namespace Rows

/-- THE TIED CARD OF 'laws.FnSpaceText'. -/
def fnSpaceTextCard : Claim7 := { stood := { row := fnSpaceTextRow, standIns := [], harness := (true, "92a10610dd1b855eb5e1906ff88fe20e3cd7a9a5f355c42ac2c3ed69aa0f4a40"), looks := false }, kinds := [], alts := [], laidByText := true, laidKinds := [.data, .data, .data, .data, .pinned], laidTests := true, laidLooks := .later }
def FnSpaceTextCardSaid : Prop := Claim7.holds Tryd.pinned (.plain (OpenSpec.ofChange fnSpaceTextSpec)) fnSpaceTextCard

/-- THE SECOND FORM's CARD OF 'laws.FnSpaceText'. -/
def fnSpaceTextUptoCard : Claim7 := { stood := { row := fnSpaceTextUptoRow, standIns := [], harness := (true, "92a10610dd1b855eb5e1906ff88fe20e3cd7a9a5f355c42ac2c3ed69aa0f4a40"), looks := false }, kinds := [], alts := [], laidByText := true, laidKinds := [.data, .data, .data, .data, .pinned], laidTests := true, laidLooks := .later }
def FnSpaceTextUptoCardSaid : Prop := Claim7.holds Tryd.pinned (.plain (OpenSpec.upto fnSpaceTextSpec)) fnSpaceTextUptoCard
end Rows
end Go.Proofs.YthbhgeifknkolaaDoor
