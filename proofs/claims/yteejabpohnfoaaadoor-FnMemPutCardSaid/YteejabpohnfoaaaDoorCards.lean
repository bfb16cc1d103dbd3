/-
  DERIVED. GIVEN WITH THE SEED: THE CARDS: each row of YteejabpohnfoaaaDoorRows.lean that lists a variable, with what it lists TIED to the program's text (the seventh form; the later family's looks); each row that meets fmt, with fmt's text TOLD by the authors' own Lean function (tested against real Go, not proved from fmt's source: count such statements apart). THE CARD IS WHAT COUNTS. Prove the row's statement (the work); the ties are given (YteejabpohnfoaaaDoorTie.lean); close each card by the builder's one call (the guide's Derived/Test/ToyasCard.lean, 'card_holds'). Laid BY PROGRAM, IN A SANDBOX (cutbox-door.mjs). By AI agents, Wed Nov 11 2026. No macro, syntax, notation, axiom, sorry.
-/
import Derived.Test.YteejabpohnfoaaaDoorRows
import GoSem.ClaimSeven
namespace Go.Proofs.YteejabpohnfoaaaDoor
namespace Rows

/-- THE TIED CARD OF 'laws.FnExactMemPut'. -/
def fnExactMemPutCard : Claim7 := { stood := { row := fnExactMemPutRow, standIns := [], harness := (true, "1f5ee0f6e686ee4f37dfc783bb401ad6d4cbc4d02948dc8fd1e878c06fdb9220"), looks := false }, kinds := [], alts := [], laidByText := true, laidKinds := [.data, .data], laidTests := true, laidLooks := .later }
def FnExactMemPutCardSaid : Prop := Claim7.holds Tryd.pinned (.plain (OpenSpec.ofChange fnExactMemPutSpec)) fnExactMemPutCard

/-- THE TIED CARD OF 'laws.FnExactMemJoin'. -/
def fnExactMemJoinCard : Claim7 := { stood := { row := fnExactMemJoinRow, standIns := [], harness := (true, "1f5ee0f6e686ee4f37dfc783bb401ad6d4cbc4d02948dc8fd1e878c06fdb9220"), looks := false }, kinds := [], alts := [], laidByText := true, laidKinds := [.data, .data], laidTests := true, laidLooks := .later }
def FnExactMemJoinCardSaid : Prop := Claim7.holds Tryd.pinned (.plain (OpenSpec.ofChange fnExactMemJoinSpec)) fnExactMemJoinCard

/-- THE TIED CARD OF 'laws.FnMemPut'. -/
def fnMemPutCard : Claim7 := { stood := { row := fnMemPutRow, standIns := [], harness := (true, "1f5ee0f6e686ee4f37dfc783bb401ad6d4cbc4d02948dc8fd1e878c06fdb9220"), looks := false }, kinds := [], alts := [], laidByText := true, laidKinds := [.data, .data], laidTests := true, laidLooks := .later }
def FnMemPutCardSaid : Prop := Claim7.holds Tryd.pinned (.plain (OpenSpec.ofChange fnMemPutSpec)) fnMemPutCard

/-- THE TIED CARD OF 'laws.FnMemTurn'. -/
def fnMemTurnCard : Claim7 := { stood := { row := fnMemTurnRow, standIns := [], harness := (true, "1f5ee0f6e686ee4f37dfc783bb401ad6d4cbc4d02948dc8fd1e878c06fdb9220"), looks := false }, kinds := [], alts := [], laidByText := true, laidKinds := [.data, .data], laidTests := true, laidLooks := .later }
def FnMemTurnCardSaid : Prop := Claim7.holds Tryd.pinned (.plain (OpenSpec.ofChange fnMemTurnSpec)) fnMemTurnCard

/-- THE TIED CARD OF 'laws.FnMemJoin'. -/
def fnMemJoinCard : Claim7 := { stood := { row := fnMemJoinRow, standIns := [], harness := (true, "1f5ee0f6e686ee4f37dfc783bb401ad6d4cbc4d02948dc8fd1e878c06fdb9220"), looks := false }, kinds := [], alts := [], laidByText := true, laidKinds := [.data, .data], laidTests := true, laidLooks := .later }
def FnMemJoinCardSaid : Prop := Claim7.holds Tryd.pinned (.plain (OpenSpec.ofChange fnMemJoinSpec)) fnMemJoinCard

/-- THE SECOND FORM's CARD OF 'laws.FnExactMemPut'. -/
def fnExactMemPutUptoCard : Claim7 := { stood := { row := fnExactMemPutUptoRow, standIns := [], harness := (true, "1f5ee0f6e686ee4f37dfc783bb401ad6d4cbc4d02948dc8fd1e878c06fdb9220"), looks := false }, kinds := [], alts := [], laidByText := true, laidKinds := [.data, .data], laidTests := true, laidLooks := .later }
def FnExactMemPutUptoCardSaid : Prop := Claim7.holds Tryd.pinned (.plain (OpenSpec.upto fnExactMemPutSpec)) fnExactMemPutUptoCard

/-- THE SECOND FORM's CARD OF 'laws.FnExactMemJoin'. -/
def fnExactMemJoinUptoCard : Claim7 := { stood := { row := fnExactMemJoinUptoRow, standIns := [], harness := (true, "1f5ee0f6e686ee4f37dfc783bb401ad6d4cbc4d02948dc8fd1e878c06fdb9220"), looks := false }, kinds := [], alts := [], laidByText := true, laidKinds := [.data, .data], laidTests := true, laidLooks := .later }
def FnExactMemJoinUptoCardSaid : Prop := Claim7.holds Tryd.pinned (.plain (OpenSpec.upto fnExactMemJoinSpec)) fnExactMemJoinUptoCard

/-- THE SECOND FORM's CARD OF 'laws.FnMemPut'. -/
def fnMemPutUptoCard : Claim7 := { stood := { row := fnMemPutUptoRow, standIns := [], harness := (true, "1f5ee0f6e686ee4f37dfc783bb401ad6d4cbc4d02948dc8fd1e878c06fdb9220"), looks := false }, kinds := [], alts := [], laidByText := true, laidKinds := [.data, .data], laidTests := true, laidLooks := .later }
def FnMemPutUptoCardSaid : Prop := Claim7.holds Tryd.pinned (.plain (OpenSpec.upto fnMemPutSpec)) fnMemPutUptoCard

/-- THE SECOND FORM's CARD OF 'laws.FnMemTurn'. -/
def fnMemTurnUptoCard : Claim7 := { stood := { row := fnMemTurnUptoRow, standIns := [], harness := (true, "1f5ee0f6e686ee4f37dfc783bb401ad6d4cbc4d02948dc8fd1e878c06fdb9220"), looks := false }, kinds := [], alts := [], laidByText := true, laidKinds := [.data, .data], laidTests := true, laidLooks := .later }
def FnMemTurnUptoCardSaid : Prop := Claim7.holds Tryd.pinned (.plain (OpenSpec.upto fnMemTurnSpec)) fnMemTurnUptoCard

/-- THE SECOND FORM's CARD OF 'laws.FnMemJoin'. -/
def fnMemJoinUptoCard : Claim7 := { stood := { row := fnMemJoinUptoRow, standIns := [], harness := (true, "1f5ee0f6e686ee4f37dfc783bb401ad6d4cbc4d02948dc8fd1e878c06fdb9220"), looks := false }, kinds := [], alts := [], laidByText := true, laidKinds := [.data, .data], laidTests := true, laidLooks := .later }
def FnMemJoinUptoCardSaid : Prop := Claim7.holds Tryd.pinned (.plain (OpenSpec.upto fnMemJoinSpec)) fnMemJoinUptoCard
end Rows
end Go.Proofs.YteejabpohnfoaaaDoor
