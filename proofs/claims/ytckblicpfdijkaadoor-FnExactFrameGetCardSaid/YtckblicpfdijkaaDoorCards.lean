/-
  DERIVED. GIVEN WITH THE SEED: THE CARDS: each row of YtckblicpfdijkaaDoorRows.lean that lists a variable, with what it lists TIED to the program's text (the seventh form; the later family's looks); each row that meets fmt, with fmt's text TOLD by the authors' own Lean function (tested against real Go, not proved from fmt's source: count such statements apart). THE CARD IS WHAT COUNTS. Prove the row's statement (the work); the ties are given (YtckblicpfdijkaaDoorTie.lean); close each card by the builder's one call (the guide's Derived/Test/ToyasCard.lean, 'card_holds'). Laid BY PROGRAM, IN A SANDBOX (cutbox-door.mjs). By AI agents, Wed Nov 11 2026. No macro, syntax, notation, axiom, sorry.
-/
import Derived.Test.YtckblicpfdijkaaDoorRows
import GoSem.ClaimSeven
namespace Go.Proofs.YtckblicpfdijkaaDoor
namespace Rows

/-- THE TIED CARD OF 'laws.FnExactFramePut'. -/
def fnExactFramePutCard : Claim7 := { stood := { row := fnExactFramePutRow, standIns := [], harness := (true, "3ebf591436a36d2b8c58e20bb599b6946a42e8978eca20c5cec64752a1cded81"), looks := false }, kinds := [], alts := [], laidByText := true, laidKinds := [.data, .data, .data, .data, .data], laidTests := true, laidLooks := .later }
def FnExactFramePutCardSaid : Prop := Claim7.holds Tryd.pinned (.plain (OpenSpec.ofChange fnExactFramePutSpec)) fnExactFramePutCard

/-- THE TIED CARD OF 'laws.FnExactFrameGet'. -/
def fnExactFrameGetCard : Claim7 := { stood := { row := fnExactFrameGetRow, standIns := [], harness := (true, "3ebf591436a36d2b8c58e20bb599b6946a42e8978eca20c5cec64752a1cded81"), looks := false }, kinds := [], alts := [], laidByText := true, laidKinds := [.data, .data, .data, .data, .data], laidTests := true, laidLooks := .later }
def FnExactFrameGetCardSaid : Prop := Claim7.holds Tryd.pinned (.plain (OpenSpec.ofChange fnExactFrameGetSpec)) fnExactFrameGetCard

/-- THE TIED CARD OF 'laws.FnFrameGet'. -/
def fnFrameGetCard : Claim7 := { stood := { row := fnFrameGetRow, standIns := [], harness := (true, "3ebf591436a36d2b8c58e20bb599b6946a42e8978eca20c5cec64752a1cded81"), looks := false }, kinds := [], alts := [], laidByText := true, laidKinds := [.data, .data, .data, .data, .data], laidTests := true, laidLooks := .later }
def FnFrameGetCardSaid : Prop := Claim7.holds Tryd.pinned (.plain (OpenSpec.ofChange fnFrameGetSpec)) fnFrameGetCard

/-- THE TIED CARD OF 'laws.FnFrameOther'. -/
def fnFrameOtherCard : Claim7 := { stood := { row := fnFrameOtherRow, standIns := [], harness := (true, "3ebf591436a36d2b8c58e20bb599b6946a42e8978eca20c5cec64752a1cded81"), looks := false }, kinds := [], alts := [], laidByText := true, laidKinds := [.data, .data, .data, .data, .data], laidTests := true, laidLooks := .later }
def FnFrameOtherCardSaid : Prop := Claim7.holds Tryd.pinned (.plain (OpenSpec.ofChange fnFrameOtherSpec)) fnFrameOtherCard

/-- THE TIED CARD OF 'laws.FnFrameByte'. -/
def fnFrameByteCard : Claim7 := { stood := { row := fnFrameByteRow, standIns := [], harness := (true, "3ebf591436a36d2b8c58e20bb599b6946a42e8978eca20c5cec64752a1cded81"), looks := false }, kinds := [], alts := [], laidByText := true, laidKinds := [.data, .data, .data, .data, .data], laidTests := true, laidLooks := .later }
def FnFrameByteCardSaid : Prop := Claim7.holds Tryd.pinned (.plain (OpenSpec.ofChange fnFrameByteSpec)) fnFrameByteCard

/-- THE TIED CARD OF 'laws.FnWireText'. -/
def fnWireTextCard : Claim7 := { stood := { row := fnWireTextRow, standIns := [], harness := (true, "3ebf591436a36d2b8c58e20bb599b6946a42e8978eca20c5cec64752a1cded81"), looks := false }, kinds := [], alts := [], laidByText := true, laidKinds := [.data, .data, .data], laidTests := true, laidLooks := .later }
def FnWireTextCardSaid : Prop := Claim7.holds Tryd.pinned (.plain (OpenSpec.ofChange fnWireTextSpec)) fnWireTextCard

/-- THE SECOND FORM's CARD OF 'laws.FnExactFramePut'. -/
def fnExactFramePutUptoCard : Claim7 := { stood := { row := fnExactFramePutUptoRow, standIns := [], harness := (true, "3ebf591436a36d2b8c58e20bb599b6946a42e8978eca20c5cec64752a1cded81"), looks := false }, kinds := [], alts := [], laidByText := true, laidKinds := [.data, .data, .data, .data, .data], laidTests := true, laidLooks := .later }
def FnExactFramePutUptoCardSaid : Prop := Claim7.holds Tryd.pinned (.plain (OpenSpec.upto fnExactFramePutSpec)) fnExactFramePutUptoCard

/-- THE SECOND FORM's CARD OF 'laws.FnExactFrameGet'. -/
def fnExactFrameGetUptoCard : Claim7 := { stood := { row := fnExactFrameGetUptoRow, standIns := [], harness := (true, "3ebf591436a36d2b8c58e20bb599b6946a42e8978eca20c5cec64752a1cded81"), looks := false }, kinds := [], alts := [], laidByText := true, laidKinds := [.data, .data, .data, .data, .data], laidTests := true, laidLooks := .later }
def FnExactFrameGetUptoCardSaid : Prop := Claim7.holds Tryd.pinned (.plain (OpenSpec.upto fnExactFrameGetSpec)) fnExactFrameGetUptoCard

/-- THE SECOND FORM's CARD OF 'laws.FnFrameGet'. -/
def fnFrameGetUptoCard : Claim7 := { stood := { row := fnFrameGetUptoRow, standIns := [], harness := (true, "3ebf591436a36d2b8c58e20bb599b6946a42e8978eca20c5cec64752a1cded81"), looks := false }, kinds := [], alts := [], laidByText := true, laidKinds := [.data, .data, .data, .data, .data], laidTests := true, laidLooks := .later }
def FnFrameGetUptoCardSaid : Prop := Claim7.holds Tryd.pinned (.plain (OpenSpec.upto fnFrameGetSpec)) fnFrameGetUptoCard

/-- THE SECOND FORM's CARD OF 'laws.FnFrameOther'. -/
def fnFrameOtherUptoCard : Claim7 := { stood := { row := fnFrameOtherUptoRow, standIns := [], harness := (true, "3ebf591436a36d2b8c58e20bb599b6946a42e8978eca20c5cec64752a1cded81"), looks := false }, kinds := [], alts := [], laidByText := true, laidKinds := [.data, .data, .data, .data, .data], laidTests := true, laidLooks := .later }
def FnFrameOtherUptoCardSaid : Prop := Claim7.holds Tryd.pinned (.plain (OpenSpec.upto fnFrameOtherSpec)) fnFrameOtherUptoCard

/-- THE SECOND FORM's CARD OF 'laws.FnFrameByte'. -/
def fnFrameByteUptoCard : Claim7 := { stood := { row := fnFrameByteUptoRow, standIns := [], harness := (true, "3ebf591436a36d2b8c58e20bb599b6946a42e8978eca20c5cec64752a1cded81"), looks := false }, kinds := [], alts := [], laidByText := true, laidKinds := [.data, .data, .data, .data, .data], laidTests := true, laidLooks := .later }
def FnFrameByteUptoCardSaid : Prop := Claim7.holds Tryd.pinned (.plain (OpenSpec.upto fnFrameByteSpec)) fnFrameByteUptoCard

/-- THE SECOND FORM's CARD OF 'laws.FnWireText'. -/
def fnWireTextUptoCard : Claim7 := { stood := { row := fnWireTextUptoRow, standIns := [], harness := (true, "3ebf591436a36d2b8c58e20bb599b6946a42e8978eca20c5cec64752a1cded81"), looks := false }, kinds := [], alts := [], laidByText := true, laidKinds := [.data, .data, .data], laidTests := true, laidLooks := .later }
def FnWireTextUptoCardSaid : Prop := Claim7.holds Tryd.pinned (.plain (OpenSpec.upto fnWireTextSpec)) fnWireTextUptoCard
end Rows
end Go.Proofs.YtckblicpfdijkaaDoor
