/-
  DERIVED. GIVEN WITH THE SEED: THE CARDS: each row of YtgjfflfldddebaaDoorRows.lean that lists a variable, with what it lists TIED to the program's text (the seventh form; the later family's looks); each row that meets fmt, with fmt's text TOLD by the authors' own Lean function (tested against real Go, not proved from fmt's source: count such statements apart). THE CARD IS WHAT COUNTS. Prove the row's statement (the work); the ties are given (YtgjfflfldddebaaDoorTie.lean); close each card by the builder's one call (the guide's Derived/Test/ToyasCard.lean, 'card_holds'). Laid BY PROGRAM, IN A SANDBOX (cutbox-door.mjs). By AI agents, Wed Nov 11 2026. No macro, syntax, notation, axiom, sorry.
-/
import Derived.Test.YtgjfflfldddebaaDoorRows
import GoSem.ClaimSeven
namespace Go.Proofs.YtgjfflfldddebaaDoor
namespace Rows

/-- THE TIED CARD OF 'laws.FnFrameByte'. -/
def fnFrameByteCard : Claim7 := { stood := { row := fnFrameByteRow, standIns := [], harness := (true, "4398f2a961d3dde67a94ceb99524bb6beb28b6671d0bc65aaa53700a0fe921ea"), looks := false }, kinds := [], alts := [], laidByText := true, laidKinds := [.data, .data, .data, .data, .data], laidTests := true, laidLooks := .later }
def FnFrameByteCardSaid : Prop := Claim7.holds Tryd.pinned (.plain (OpenSpec.ofChange fnFrameByteSpec)) fnFrameByteCard

/-- THE TIED CARD OF 'laws.FnExactBloomMake'. -/
def fnExactBloomMakeCard : Claim7 := { stood := { row := fnExactBloomMakeRow, standIns := [], harness := (true, "4398f2a961d3dde67a94ceb99524bb6beb28b6671d0bc65aaa53700a0fe921ea"), looks := false }, kinds := [], alts := [], laidByText := true, laidKinds := [.data, .data], laidTests := true, laidLooks := .later }
def FnExactBloomMakeCardSaid : Prop := Claim7.holds Tryd.pinned (.plain (OpenSpec.ofChange fnExactBloomMakeSpec)) fnExactBloomMakeCard

/-- THE TIED CARD OF 'laws.FnExactBloomMay'. -/
def fnExactBloomMayCard : Claim7 := { stood := { row := fnExactBloomMayRow, standIns := [], harness := (true, "4398f2a961d3dde67a94ceb99524bb6beb28b6671d0bc65aaa53700a0fe921ea"), looks := false }, kinds := [], alts := [], laidByText := true, laidKinds := [.data, .data], laidTests := true, laidLooks := .later }
def FnExactBloomMayCardSaid : Prop := Claim7.holds Tryd.pinned (.plain (OpenSpec.ofChange fnExactBloomMaySpec)) fnExactBloomMayCard

/-- THE TIED CARD OF 'laws.FnBloomMay'. -/
def fnBloomMayCard : Claim7 := { stood := { row := fnBloomMayRow, standIns := [], harness := (true, "4398f2a961d3dde67a94ceb99524bb6beb28b6671d0bc65aaa53700a0fe921ea"), looks := false }, kinds := [], alts := [], laidByText := true, laidKinds := [.data, .data], laidTests := true, laidLooks := .later }
def FnBloomMayCardSaid : Prop := Claim7.holds Tryd.pinned (.plain (OpenSpec.ofChange fnBloomMaySpec)) fnBloomMayCard

/-- THE SECOND FORM's CARD OF 'laws.FnFrameByte'. -/
def fnFrameByteUptoCard : Claim7 := { stood := { row := fnFrameByteUptoRow, standIns := [], harness := (true, "4398f2a961d3dde67a94ceb99524bb6beb28b6671d0bc65aaa53700a0fe921ea"), looks := false }, kinds := [], alts := [], laidByText := true, laidKinds := [.data, .data, .data, .data, .data], laidTests := true, laidLooks := .later }
def FnFrameByteUptoCardSaid : Prop := Claim7.holds Tryd.pinned (.plain (OpenSpec.upto fnFrameByteSpec)) fnFrameByteUptoCard

/-- THE SECOND FORM's CARD OF 'laws.FnExactBloomMake'. -/
def fnExactBloomMakeUptoCard : Claim7 := { stood := { row := fnExactBloomMakeUptoRow, standIns := [], harness := (true, "4398f2a961d3dde67a94ceb99524bb6beb28b6671d0bc65aaa53700a0fe921ea"), looks := false }, kinds := [], alts := [], laidByText := true, laidKinds := [.data, .data], laidTests := true, laidLooks := .later }
def FnExactBloomMakeUptoCardSaid : Prop := Claim7.holds Tryd.pinned (.plain (OpenSpec.upto fnExactBloomMakeSpec)) fnExactBloomMakeUptoCard

/-- THE SECOND FORM's CARD OF 'laws.FnExactBloomMay'. -/
def fnExactBloomMayUptoCard : Claim7 := { stood := { row := fnExactBloomMayUptoRow, standIns := [], harness := (true, "4398f2a961d3dde67a94ceb99524bb6beb28b6671d0bc65aaa53700a0fe921ea"), looks := false }, kinds := [], alts := [], laidByText := true, laidKinds := [.data, .data], laidTests := true, laidLooks := .later }
def FnExactBloomMayUptoCardSaid : Prop := Claim7.holds Tryd.pinned (.plain (OpenSpec.upto fnExactBloomMaySpec)) fnExactBloomMayUptoCard

/-- THE SECOND FORM's CARD OF 'laws.FnBloomMay'. -/
def fnBloomMayUptoCard : Claim7 := { stood := { row := fnBloomMayUptoRow, standIns := [], harness := (true, "4398f2a961d3dde67a94ceb99524bb6beb28b6671d0bc65aaa53700a0fe921ea"), looks := false }, kinds := [], alts := [], laidByText := true, laidKinds := [.data, .data], laidTests := true, laidLooks := .later }
def FnBloomMayUptoCardSaid : Prop := Claim7.holds Tryd.pinned (.plain (OpenSpec.upto fnBloomMaySpec)) fnBloomMayUptoCard
end Rows
end Go.Proofs.YtgjfflfldddebaaDoor
