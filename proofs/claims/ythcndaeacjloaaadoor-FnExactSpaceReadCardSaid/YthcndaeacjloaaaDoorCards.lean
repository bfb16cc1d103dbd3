/-
  DERIVED. GIVEN WITH THE SEED: THE CARDS: each row of YthcndaeacjloaaaDoorRows.lean that lists a variable, with what it lists TIED to the program's text (the seventh form; the later family's looks); each row that meets fmt, with fmt's text TOLD by the authors' own Lean function (tested against real Go, not proved from fmt's source: count such statements apart). THE CARD IS WHAT COUNTS. Prove the row's statement (the work); the ties are given (YthcndaeacjloaaaDoorTie.lean); close each card by the builder's one call (the guide's Derived/Test/ToyasCard.lean, 'card_holds'). Laid BY PROGRAM, IN A SANDBOX (cutbox-door.mjs). By AI agents, Wed Nov 11 2026. No macro, syntax, notation, axiom, sorry.
-/
import Derived.Test.YthcndaeacjloaaaDoorRows
import GoSem.ClaimSeven
namespace Go.Proofs.YthcndaeacjloaaaDoor
namespace Rows

/-- THE TIED CARD OF 'laws.FnExactSpaceWrite'. -/
def fnExactSpaceWriteCard : Claim7 := { stood := { row := fnExactSpaceWriteRow, standIns := [], harness := (true, "3c2d8ce1bb3a7b9964b8e178bfb9263ba879212eb8e5968400aedc5fe10ab9fb"), looks := true }, kinds := [], alts := [], laidByText := true, laidKinds := [.data, .data, .data], laidTests := true, laidLooks := .later }
def FnExactSpaceWriteCardSaid : Prop := Claim7.holds Tryd.pinned (.plain (OpenSpec.ofChange fnExactSpaceWriteSpec)) fnExactSpaceWriteCard

/-- THE TIED CARD OF 'laws.FnExactSpaceRead'. -/
def fnExactSpaceReadCard : Claim7 := { stood := { row := fnExactSpaceReadRow, standIns := [], harness := (true, "3c2d8ce1bb3a7b9964b8e178bfb9263ba879212eb8e5968400aedc5fe10ab9fb"), looks := true }, kinds := [], alts := [], laidByText := true, laidKinds := [.data, .data, .data, .data, .pinned], laidTests := true, laidLooks := .later }
def FnExactSpaceReadCardSaid : Prop := Claim7.holds Tryd.pinned (.plain (OpenSpec.ofChange fnExactSpaceReadSpec)) fnExactSpaceReadCard

/-- THE TIED CARD OF 'laws.FnExactThingWrite'. -/
def fnExactThingWriteCard : Claim7 := { stood := { row := fnExactThingWriteRow, standIns := [], harness := (true, "3c2d8ce1bb3a7b9964b8e178bfb9263ba879212eb8e5968400aedc5fe10ab9fb"), looks := true }, kinds := [], alts := [], laidByText := true, laidKinds := [.data, .data, .data], laidTests := true, laidLooks := .later }
def FnExactThingWriteCardSaid : Prop := Claim7.holds Tryd.pinned (.plain (OpenSpec.ofChange fnExactThingWriteSpec)) fnExactThingWriteCard

/-- THE TIED CARD OF 'laws.FnExactThingRead'. -/
def fnExactThingReadCard : Claim7 := { stood := { row := fnExactThingReadRow, standIns := [], harness := (true, "3c2d8ce1bb3a7b9964b8e178bfb9263ba879212eb8e5968400aedc5fe10ab9fb"), looks := true }, kinds := [], alts := [], laidByText := true, laidKinds := [.data, .data, .data, .data, .pinned], laidTests := true, laidLooks := .later }
def FnExactThingReadCardSaid : Prop := Claim7.holds Tryd.pinned (.plain (OpenSpec.ofChange fnExactThingReadSpec)) fnExactThingReadCard

/-- THE TIED CARD OF 'laws.FnExactReqWrite'. -/
def fnExactReqWriteCard : Claim7 := { stood := { row := fnExactReqWriteRow, standIns := [], harness := (true, "3c2d8ce1bb3a7b9964b8e178bfb9263ba879212eb8e5968400aedc5fe10ab9fb"), looks := true }, kinds := [], alts := [], laidByText := true, laidKinds := [.data], laidTests := true, laidLooks := .later }
def FnExactReqWriteCardSaid : Prop := Claim7.holds Tryd.pinned (.plain (OpenSpec.ofChange fnExactReqWriteSpec)) fnExactReqWriteCard

/-- THE TIED CARD OF 'laws.FnExactReqRead'. -/
def fnExactReqReadCard : Claim7 := { stood := { row := fnExactReqReadRow, standIns := [], harness := (true, "3c2d8ce1bb3a7b9964b8e178bfb9263ba879212eb8e5968400aedc5fe10ab9fb"), looks := true }, kinds := [], alts := [], laidByText := true, laidKinds := [.data, .data, .data, .data], laidTests := true, laidLooks := .later }
def FnExactReqReadCardSaid : Prop := Claim7.holds Tryd.pinned (.plain (OpenSpec.ofChange fnExactReqReadSpec)) fnExactReqReadCard

/-- THE SECOND FORM's CARD OF 'laws.FnExactSpaceWrite'. -/
def fnExactSpaceWriteUptoCard : Claim7 := { stood := { row := fnExactSpaceWriteUptoRow, standIns := [], harness := (true, "3c2d8ce1bb3a7b9964b8e178bfb9263ba879212eb8e5968400aedc5fe10ab9fb"), looks := true }, kinds := [], alts := [], laidByText := true, laidKinds := [.data, .data, .data], laidTests := true, laidLooks := .later }
def FnExactSpaceWriteUptoCardSaid : Prop := Claim7.holds Tryd.pinned (.plain (OpenSpec.upto fnExactSpaceWriteSpec)) fnExactSpaceWriteUptoCard

/-- THE SECOND FORM's CARD OF 'laws.FnExactSpaceRead'. -/
def fnExactSpaceReadUptoCard : Claim7 := { stood := { row := fnExactSpaceReadUptoRow, standIns := [], harness := (true, "3c2d8ce1bb3a7b9964b8e178bfb9263ba879212eb8e5968400aedc5fe10ab9fb"), looks := true }, kinds := [], alts := [], laidByText := true, laidKinds := [.data, .data, .data, .data, .pinned], laidTests := true, laidLooks := .later }
def FnExactSpaceReadUptoCardSaid : Prop := Claim7.holds Tryd.pinned (.plain (OpenSpec.upto fnExactSpaceReadSpec)) fnExactSpaceReadUptoCard

/-- THE SECOND FORM's CARD OF 'laws.FnExactThingWrite'. -/
def fnExactThingWriteUptoCard : Claim7 := { stood := { row := fnExactThingWriteUptoRow, standIns := [], harness := (true, "3c2d8ce1bb3a7b9964b8e178bfb9263ba879212eb8e5968400aedc5fe10ab9fb"), looks := true }, kinds := [], alts := [], laidByText := true, laidKinds := [.data, .data, .data], laidTests := true, laidLooks := .later }
def FnExactThingWriteUptoCardSaid : Prop := Claim7.holds Tryd.pinned (.plain (OpenSpec.upto fnExactThingWriteSpec)) fnExactThingWriteUptoCard

/-- THE SECOND FORM's CARD OF 'laws.FnExactThingRead'. -/
def fnExactThingReadUptoCard : Claim7 := { stood := { row := fnExactThingReadUptoRow, standIns := [], harness := (true, "3c2d8ce1bb3a7b9964b8e178bfb9263ba879212eb8e5968400aedc5fe10ab9fb"), looks := true }, kinds := [], alts := [], laidByText := true, laidKinds := [.data, .data, .data, .data, .pinned], laidTests := true, laidLooks := .later }
def FnExactThingReadUptoCardSaid : Prop := Claim7.holds Tryd.pinned (.plain (OpenSpec.upto fnExactThingReadSpec)) fnExactThingReadUptoCard

/-- THE SECOND FORM's CARD OF 'laws.FnExactReqWrite'. -/
def fnExactReqWriteUptoCard : Claim7 := { stood := { row := fnExactReqWriteUptoRow, standIns := [], harness := (true, "3c2d8ce1bb3a7b9964b8e178bfb9263ba879212eb8e5968400aedc5fe10ab9fb"), looks := true }, kinds := [], alts := [], laidByText := true, laidKinds := [.data], laidTests := true, laidLooks := .later }
def FnExactReqWriteUptoCardSaid : Prop := Claim7.holds Tryd.pinned (.plain (OpenSpec.upto fnExactReqWriteSpec)) fnExactReqWriteUptoCard

/-- THE SECOND FORM's CARD OF 'laws.FnExactReqRead'. -/
def fnExactReqReadUptoCard : Claim7 := { stood := { row := fnExactReqReadUptoRow, standIns := [], harness := (true, "3c2d8ce1bb3a7b9964b8e178bfb9263ba879212eb8e5968400aedc5fe10ab9fb"), looks := true }, kinds := [], alts := [], laidByText := true, laidKinds := [.data, .data, .data, .data], laidTests := true, laidLooks := .later }
def FnExactReqReadUptoCardSaid : Prop := Claim7.holds Tryd.pinned (.plain (OpenSpec.upto fnExactReqReadSpec)) fnExactReqReadUptoCard
end Rows
end Go.Proofs.YthcndaeacjloaaaDoor
