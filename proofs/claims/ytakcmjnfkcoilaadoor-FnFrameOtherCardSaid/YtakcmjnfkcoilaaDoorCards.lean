/-
  DERIVED. GIVEN WITH THE SEED: THE CARDS: each row of YtakcmjnfkcoilaaDoorRows.lean that lists a variable, with what it lists TIED to the program's text (the seventh form; the later family's looks); each row that meets fmt, with fmt's text TOLD by the authors' own Lean function (tested against real Go, not proved from fmt's source: count such statements apart). THE CARD IS WHAT COUNTS. Prove the row's statement (the work); the ties are given (YtakcmjnfkcoilaaDoorTie.lean); close each card by the builder's one call (the guide's Derived/Test/ToyasCard.lean, 'card_holds'). Laid BY PROGRAM, IN A SANDBOX (cutbox-door.mjs). By AI agents, Wed Nov 11 2026. No macro, syntax, notation, axiom, sorry.
-/
import Derived.Test.YtakcmjnfkcoilaaDoorRows
import GoSem.ClaimSeven
namespace Go.Proofs.YtakcmjnfkcoilaaDoor
namespace Rows

/-- THE TIED CARD OF 'laws.FnFrameGet'. -/
def fnFrameGetCard : Claim7 := { stood := { row := fnFrameGetRow, standIns := [], harness := (true, "699cb13dbd133cadfd79d83c14645e02298859ca0272021bbbe8918ad99bee8d"), looks := false }, kinds := [], alts := [], laidByText := true, laidKinds := [.data, .data, .data, .data, .data], laidTests := true, laidLooks := .later }
def FnFrameGetCardSaid : Prop := Claim7.holds Tryd.pinned (.plain (OpenSpec.ofChange fnFrameGetSpec)) fnFrameGetCard

/-- THE TIED CARD OF 'laws.FnFrameOther'. -/
def fnFrameOtherCard : Claim7 := { stood := { row := fnFrameOtherRow, standIns := [], harness := (true, "699cb13dbd133cadfd79d83c14645e02298859ca0272021bbbe8918ad99bee8d"), looks := false }, kinds := [], alts := [], laidByText := true, laidKinds := [.data, .data, .data, .data, .data], laidTests := true, laidLooks := .later }
def FnFrameOtherCardSaid : Prop := Claim7.holds Tryd.pinned (.plain (OpenSpec.ofChange fnFrameOtherSpec)) fnFrameOtherCard

/-- THE TIED CARD OF 'laws.FnWireText'. -/
def fnWireTextCard : Claim7 := { stood := { row := fnWireTextRow, standIns := [], harness := (true, "699cb13dbd133cadfd79d83c14645e02298859ca0272021bbbe8918ad99bee8d"), looks := false }, kinds := [], alts := [], laidByText := true, laidKinds := [.data, .data, .data], laidTests := true, laidLooks := .later }
def FnWireTextCardSaid : Prop := Claim7.holds Tryd.pinned (.plain (OpenSpec.ofChange fnWireTextSpec)) fnWireTextCard

/-- THE TIED CARD OF 'laws.FnFrameByte'. -/
def fnFrameByteCard : Claim7 := { stood := { row := fnFrameByteRow, standIns := [], harness := (true, "699cb13dbd133cadfd79d83c14645e02298859ca0272021bbbe8918ad99bee8d"), looks := false }, kinds := [], alts := [], laidByText := true, laidKinds := [.data, .data, .data, .data, .data], laidTests := true, laidLooks := .later }
def FnFrameByteCardSaid : Prop := Claim7.holds Tryd.pinned (.plain (OpenSpec.ofChange fnFrameByteSpec)) fnFrameByteCard

/-- THE SECOND FORM's CARD OF 'laws.FnFrameGet'. -/
def fnFrameGetUptoCard : Claim7 := { stood := { row := fnFrameGetUptoRow, standIns := [], harness := (true, "699cb13dbd133cadfd79d83c14645e02298859ca0272021bbbe8918ad99bee8d"), looks := false }, kinds := [], alts := [], laidByText := true, laidKinds := [.data, .data, .data, .data, .data], laidTests := true, laidLooks := .later }
def FnFrameGetUptoCardSaid : Prop := Claim7.holds Tryd.pinned (.plain (OpenSpec.upto fnFrameGetSpec)) fnFrameGetUptoCard

/-- THE SECOND FORM's CARD OF 'laws.FnFrameOther'. -/
def fnFrameOtherUptoCard : Claim7 := { stood := { row := fnFrameOtherUptoRow, standIns := [], harness := (true, "699cb13dbd133cadfd79d83c14645e02298859ca0272021bbbe8918ad99bee8d"), looks := false }, kinds := [], alts := [], laidByText := true, laidKinds := [.data, .data, .data, .data, .data], laidTests := true, laidLooks := .later }
def FnFrameOtherUptoCardSaid : Prop := Claim7.holds Tryd.pinned (.plain (OpenSpec.upto fnFrameOtherSpec)) fnFrameOtherUptoCard

/-- THE SECOND FORM's CARD OF 'laws.FnWireText'. -/
def fnWireTextUptoCard : Claim7 := { stood := { row := fnWireTextUptoRow, standIns := [], harness := (true, "699cb13dbd133cadfd79d83c14645e02298859ca0272021bbbe8918ad99bee8d"), looks := false }, kinds := [], alts := [], laidByText := true, laidKinds := [.data, .data, .data], laidTests := true, laidLooks := .later }
def FnWireTextUptoCardSaid : Prop := Claim7.holds Tryd.pinned (.plain (OpenSpec.upto fnWireTextSpec)) fnWireTextUptoCard

/-- THE SECOND FORM's CARD OF 'laws.FnFrameByte'. -/
def fnFrameByteUptoCard : Claim7 := { stood := { row := fnFrameByteUptoRow, standIns := [], harness := (true, "699cb13dbd133cadfd79d83c14645e02298859ca0272021bbbe8918ad99bee8d"), looks := false }, kinds := [], alts := [], laidByText := true, laidKinds := [.data, .data, .data, .data, .data], laidTests := true, laidLooks := .later }
def FnFrameByteUptoCardSaid : Prop := Claim7.holds Tryd.pinned (.plain (OpenSpec.upto fnFrameByteSpec)) fnFrameByteUptoCard
end Rows
end Go.Proofs.YtakcmjnfkcoilaaDoor
