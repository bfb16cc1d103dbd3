/-
  No cell of these rows narrows 'for every input' (looked for: loops, veiled, ifaces, maps, wideKeys, modest, calm, conditions, laid).
  DERIVED. THE GIVEN ROWS OF THIS SEAT. 9 by the template 'for every input the law returns true; each argument reads behind the call as it read before'; 0 by the template 'total and deterministic' (their statements: YtlaehhdbagiciabTotals.lean).
  GIVEN WITH THE SEED: the statements are not yours to turn. If you find one false, say at which input.
  Laid BY PROGRAM, IN A SANDBOX (cutbox-rows.mjs): the forced cells as the released guide's own fill.sh prints them over the translation c5880daaace72290… (all of the seat's roots in one cut). By AI agents, Wed Nov 11 2026. No macro, syntax, notation, axiom, sorry.
-/
import Derived.Test.YtlaehhdbagiciabChecked
import GoSem.Claim
import GoSem.ClaimJoined
import GoSem.ClaimMapViews
import Derived.JoinedTies
import Derived.KernelRfl
namespace Go.Proofs.Ytlaehhdbagiciab
/- THE CELL 'sum', in the pinned program and in every row, IS THE sha256 OF THE DUMP (.gsa) THAT YtlaehhdbagiciabProg.lean LOADS. Nothing in Lean hashes anything: it is a label: what it is worth is what the hold of that sum in a sandbox is worth. -/
noncomputable def Try.pinned : Pinned := { name := "ytlaehhdbagiciab", sum := "c5880daaace722908be7bddd45125e5b50b60639652dfabb287ab5b0a0b96d55", checked := Try.checked }
namespace Rows
def none {H : Type} : Left H := { results := [], args := [] }

/-- 'laws.FnExactUseSum': WHATEVER THE INPUT: true; the input reads as it did. -/
def fnExactUseSumSpec : ChangeSpec := { name := "fnExactUseSum", fn := fun _ => fun
  | [d1, d2, d3] => { results := [.lit (.bool true)], args := [d1, d2, d3] }
  | _ => none }
def fnExactUseSumRow : OpenClaim := { program := "ytlaehhdbagiciab", sum := "c5880daaace722908be7bddd45125e5b50b60639652dfabb287ab5b0a0b96d55", func := "loop.example/muniment/laws.FnExactUseSum", spec := "fnExactUseSum", unfollowed := true, recurses := true, apart := false }
def FnExactUseSumSaid : Prop := fnExactUseSumRow.holds Try.pinned (OpenSpec.ofChange fnExactUseSumSpec)

/-- ITS FALSE NEIGHBOUR: 'it returns false'. Refute it at one input. -/
def fnExactUseSumWrong : ChangeSpec := { name := "fnExactUseSum", fn := fun _ => fun
  | [d1, d2, d3] => { results := [.lit (.bool false)], args := [d1, d2, d3] }
  | _ => none }
def FnExactUseSumWrongFalsely : Prop := fnExactUseSumRow.holds Try.pinned (OpenSpec.ofChange fnExactUseSumWrong)

/-- 'laws.FnExactUseMay': WHATEVER THE INPUT: true; the input reads as it did. -/
def fnExactUseMaySpec : ChangeSpec := { name := "fnExactUseMay", fn := fun _ => fun
  | [d1, d2, d3, d4] => { results := [.lit (.bool true)], args := [d1, d2, d3, d4] }
  | _ => none }
def fnExactUseMayRow : OpenClaim := { program := "ytlaehhdbagiciab", sum := "c5880daaace722908be7bddd45125e5b50b60639652dfabb287ab5b0a0b96d55", func := "loop.example/muniment/laws.FnExactUseMay", spec := "fnExactUseMay", unfollowed := true, recurses := true, apart := false }
def FnExactUseMaySaid : Prop := fnExactUseMayRow.holds Try.pinned (OpenSpec.ofChange fnExactUseMaySpec)

/-- ITS FALSE NEIGHBOUR: 'it returns false'. Refute it at one input. -/
def fnExactUseMayWrong : ChangeSpec := { name := "fnExactUseMay", fn := fun _ => fun
  | [d1, d2, d3, d4] => { results := [.lit (.bool false)], args := [d1, d2, d3, d4] }
  | _ => none }
def FnExactUseMayWrongFalsely : Prop := fnExactUseMayRow.holds Try.pinned (OpenSpec.ofChange fnExactUseMayWrong)

/-- 'laws.FnExactUseAdd': WHATEVER THE INPUT: true; the input reads as it did. -/
def fnExactUseAddSpec : ChangeSpec := { name := "fnExactUseAdd", fn := fun _ => fun
  | [d1, d2, d3, d4] => { results := [.lit (.bool true)], args := [d1, d2, d3, d4] }
  | _ => none }
def fnExactUseAddRow : OpenClaim := { program := "ytlaehhdbagiciab", sum := "c5880daaace722908be7bddd45125e5b50b60639652dfabb287ab5b0a0b96d55", func := "loop.example/muniment/laws.FnExactUseAdd", spec := "fnExactUseAdd", unfollowed := true, recurses := true, apart := false }
def FnExactUseAddSaid : Prop := fnExactUseAddRow.holds Try.pinned (OpenSpec.ofChange fnExactUseAddSpec)

/-- ITS FALSE NEIGHBOUR: 'it returns false'. Refute it at one input. -/
def fnExactUseAddWrong : ChangeSpec := { name := "fnExactUseAdd", fn := fun _ => fun
  | [d1, d2, d3, d4] => { results := [.lit (.bool false)], args := [d1, d2, d3, d4] }
  | _ => none }
def FnExactUseAddWrongFalsely : Prop := fnExactUseAddRow.holds Try.pinned (OpenSpec.ofChange fnExactUseAddWrong)

/-- 'laws.FnSpaceUp': WHATEVER THE INPUT: true; the input reads as it did. -/
def fnSpaceUpSpec : ChangeSpec := { name := "fnSpaceUp", fn := fun _ => fun
  | [d] => { results := [.lit (.bool true)], args := [d] }
  | _ => none }
def fnSpaceUpRow : OpenClaim := { program := "ytlaehhdbagiciab", sum := "c5880daaace722908be7bddd45125e5b50b60639652dfabb287ab5b0a0b96d55", func := "loop.example/muniment/laws.FnSpaceUp", spec := "fnSpaceUp", unfollowed := true, recurses := true, apart := false }
def FnSpaceUpSaid : Prop := fnSpaceUpRow.holds Try.pinned (OpenSpec.ofChange fnSpaceUpSpec)

/-- ITS FALSE NEIGHBOUR: 'it returns false'. Refute it at one input. -/
def fnSpaceUpWrong : ChangeSpec := { name := "fnSpaceUp", fn := fun _ => fun
  | [d] => { results := [.lit (.bool false)], args := [d] }
  | _ => none }
def FnSpaceUpWrongFalsely : Prop := fnSpaceUpRow.holds Try.pinned (OpenSpec.ofChange fnSpaceUpWrong)

/-- 'laws.FnSpaceIn': WHATEVER THE INPUT: true; the input reads as it did. -/
def fnSpaceInSpec : ChangeSpec := { name := "fnSpaceIn", fn := fun _ => fun
  | [d1, d2] => { results := [.lit (.bool true)], args := [d1, d2] }
  | _ => none }
def fnSpaceInRow : OpenClaim := { program := "ytlaehhdbagiciab", sum := "c5880daaace722908be7bddd45125e5b50b60639652dfabb287ab5b0a0b96d55", func := "loop.example/muniment/laws.FnSpaceIn", spec := "fnSpaceIn", unfollowed := true, recurses := true, apart := false }
def FnSpaceInSaid : Prop := fnSpaceInRow.holds Try.pinned (OpenSpec.ofChange fnSpaceInSpec)

/-- ITS FALSE NEIGHBOUR: 'it returns false'. Refute it at one input. -/
def fnSpaceInWrong : ChangeSpec := { name := "fnSpaceIn", fn := fun _ => fun
  | [d1, d2] => { results := [.lit (.bool false)], args := [d1, d2] }
  | _ => none }
def FnSpaceInWrongFalsely : Prop := fnSpaceInRow.holds Try.pinned (OpenSpec.ofChange fnSpaceInWrong)

/-- 'laws.FnSpaceGoing': WHATEVER THE INPUT: true; the input reads as it did. -/
def fnSpaceGoingSpec : ChangeSpec := { name := "fnSpaceGoing", fn := fun _ => fun
  | [d] => { results := [.lit (.bool true)], args := [d] }
  | _ => none }
def fnSpaceGoingRow : OpenClaim := { program := "ytlaehhdbagiciab", sum := "c5880daaace722908be7bddd45125e5b50b60639652dfabb287ab5b0a0b96d55", func := "loop.example/muniment/laws.FnSpaceGoing", spec := "fnSpaceGoing", unfollowed := true, recurses := true, apart := false }
def FnSpaceGoingSaid : Prop := fnSpaceGoingRow.holds Try.pinned (OpenSpec.ofChange fnSpaceGoingSpec)

/-- ITS FALSE NEIGHBOUR: 'it returns false'. Refute it at one input. -/
def fnSpaceGoingWrong : ChangeSpec := { name := "fnSpaceGoing", fn := fun _ => fun
  | [d] => { results := [.lit (.bool false)], args := [d] }
  | _ => none }
def FnSpaceGoingWrongFalsely : Prop := fnSpaceGoingRow.holds Try.pinned (OpenSpec.ofChange fnSpaceGoingWrong)

/-- 'laws.FnUseSum': WHATEVER THE INPUT: true; the input reads as it did. -/
def fnUseSumSpec : ChangeSpec := { name := "fnUseSum", fn := fun _ => fun
  | [d] => { results := [.lit (.bool true)], args := [d] }
  | _ => none }
def fnUseSumRow : OpenClaim := { program := "ytlaehhdbagiciab", sum := "c5880daaace722908be7bddd45125e5b50b60639652dfabb287ab5b0a0b96d55", func := "loop.example/muniment/laws.FnUseSum", spec := "fnUseSum", unfollowed := true, recurses := true, apart := false }
def FnUseSumSaid : Prop := fnUseSumRow.holds Try.pinned (OpenSpec.ofChange fnUseSumSpec)

/-- ITS FALSE NEIGHBOUR: 'it returns false'. Refute it at one input. -/
def fnUseSumWrong : ChangeSpec := { name := "fnUseSum", fn := fun _ => fun
  | [d] => { results := [.lit (.bool false)], args := [d] }
  | _ => none }
def FnUseSumWrongFalsely : Prop := fnUseSumRow.holds Try.pinned (OpenSpec.ofChange fnUseSumWrong)

/-- 'laws.FnUseMay': WHATEVER THE INPUT: true; the input reads as it did. -/
def fnUseMaySpec : ChangeSpec := { name := "fnUseMay", fn := fun _ => fun
  | [d] => { results := [.lit (.bool true)], args := [d] }
  | _ => none }
def fnUseMayRow : OpenClaim := { program := "ytlaehhdbagiciab", sum := "c5880daaace722908be7bddd45125e5b50b60639652dfabb287ab5b0a0b96d55", func := "loop.example/muniment/laws.FnUseMay", spec := "fnUseMay", unfollowed := true, recurses := true, apart := false }
def FnUseMaySaid : Prop := fnUseMayRow.holds Try.pinned (OpenSpec.ofChange fnUseMaySpec)

/-- ITS FALSE NEIGHBOUR: 'it returns false'. Refute it at one input. -/
def fnUseMayWrong : ChangeSpec := { name := "fnUseMay", fn := fun _ => fun
  | [d] => { results := [.lit (.bool false)], args := [d] }
  | _ => none }
def FnUseMayWrongFalsely : Prop := fnUseMayRow.holds Try.pinned (OpenSpec.ofChange fnUseMayWrong)

/-- 'laws.FnUseAdd': WHATEVER THE INPUT: true; the input reads as it did. -/
def fnUseAddSpec : ChangeSpec := { name := "fnUseAdd", fn := fun _ => fun
  | [d] => { results := [.lit (.bool true)], args := [d] }
  | _ => none }
def fnUseAddRow : OpenClaim := { program := "ytlaehhdbagiciab", sum := "c5880daaace722908be7bddd45125e5b50b60639652dfabb287ab5b0a0b96d55", func := "loop.example/muniment/laws.FnUseAdd", spec := "fnUseAdd", unfollowed := true, recurses := true, apart := false }
def FnUseAddSaid : Prop := fnUseAddRow.holds Try.pinned (OpenSpec.ofChange fnUseAddSpec)

/-- ITS FALSE NEIGHBOUR: 'it returns false'. Refute it at one input. -/
def fnUseAddWrong : ChangeSpec := { name := "fnUseAdd", fn := fun _ => fun
  | [d] => { results := [.lit (.bool false)], args := [d] }
  | _ => none }
def FnUseAddWrongFalsely : Prop := fnUseAddRow.holds Try.pinned (OpenSpec.ofChange fnUseAddWrong)

/- THE SECOND FORM. 'bulk': how many values and letters a reading holds, each counted each time it is reached (what is shared counts as often as it is met; a slice's spare places count too). A statement '..UptoSaid' is the law's where the arguments, and the package variables that the reading takes, are together of bulk at most 1048576: NARROWER than '..Said'. Prove '..Said' where nothing that the law and all that it calls make is longer than what came in: it says more and counts as full. Else prove '..UptoSaid'. A law counts once. -/
mutual
def uptoBulk {H : Type} : DataW H → Nat
  | .lit (.string bytes) => bytes.length + 1
  | .lit _ => 1
  | .nil => 1
  | .ptr d => uptoBulk d + 1
  | .slice elems spare => uptoBulkAll elems + uptoBulkAll spare + 1
  | .agg parts => uptoBulkAll parts + 1
  | .iface _ d => uptoBulk d + 1
  | .map entries => uptoBulkEntries entries + 1
  | .held _ => 1
def uptoBulkAll {H : Type} : List (DataW H) → Nat
  | [] => 0
  | d :: r => uptoBulk d + uptoBulkAll r
def uptoBulkEntries {H : Type} : List (Lit × DataW H) → Nat
  | [] => 0
  | x :: r => uptoBulkEntry x + uptoBulkEntries r
def uptoBulkEntry {H : Type} : Lit × DataW H → Nat
  | (.string bytes, d) => bytes.length + uptoBulk d + 1
  | (_, d) => uptoBulk d + 1
 end
def uptoSmall : (H : Type) → List (DataW H) → Bool := fun _ ds => decide (uptoBulkAll ds ≤ 1048576)
def OpenSpec.upto (s : _root_.Go.ChangeSpec) : _root_.Go.OpenSpec := { _root_.Go.OpenSpec.ofChange s with cond := some uptoSmall }

/-- 'laws.FnExactUseSum', WHERE WHAT IT READS IS OF BULK AT MOST 1048576: true; the input reads as it did. -/
def fnExactUseSumUptoRow : OpenClaim := { program := "ytlaehhdbagiciab", sum := "c5880daaace722908be7bddd45125e5b50b60639652dfabb287ab5b0a0b96d55", func := "loop.example/muniment/laws.FnExactUseSum", spec := "fnExactUseSum", unfollowed := true, recurses := true, apart := false, narrowed := true }
def FnExactUseSumUptoSaid : Prop := fnExactUseSumUptoRow.holds Try.pinned (OpenSpec.upto fnExactUseSumSpec)

/-- 'laws.FnExactUseMay', WHERE WHAT IT READS IS OF BULK AT MOST 1048576: true; the input reads as it did. -/
def fnExactUseMayUptoRow : OpenClaim := { program := "ytlaehhdbagiciab", sum := "c5880daaace722908be7bddd45125e5b50b60639652dfabb287ab5b0a0b96d55", func := "loop.example/muniment/laws.FnExactUseMay", spec := "fnExactUseMay", unfollowed := true, recurses := true, apart := false, narrowed := true }
def FnExactUseMayUptoSaid : Prop := fnExactUseMayUptoRow.holds Try.pinned (OpenSpec.upto fnExactUseMaySpec)

/-- 'laws.FnExactUseAdd', WHERE WHAT IT READS IS OF BULK AT MOST 1048576: true; the input reads as it did. -/
def fnExactUseAddUptoRow : OpenClaim := { program := "ytlaehhdbagiciab", sum := "c5880daaace722908be7bddd45125e5b50b60639652dfabb287ab5b0a0b96d55", func := "loop.example/muniment/laws.FnExactUseAdd", spec := "fnExactUseAdd", unfollowed := true, recurses := true, apart := false, narrowed := true }
def FnExactUseAddUptoSaid : Prop := fnExactUseAddUptoRow.holds Try.pinned (OpenSpec.upto fnExactUseAddSpec)

/-- 'laws.FnSpaceUp', WHERE WHAT IT READS IS OF BULK AT MOST 1048576: true; the input reads as it did. -/
def fnSpaceUpUptoRow : OpenClaim := { program := "ytlaehhdbagiciab", sum := "c5880daaace722908be7bddd45125e5b50b60639652dfabb287ab5b0a0b96d55", func := "loop.example/muniment/laws.FnSpaceUp", spec := "fnSpaceUp", unfollowed := true, recurses := true, apart := false, narrowed := true }
def FnSpaceUpUptoSaid : Prop := fnSpaceUpUptoRow.holds Try.pinned (OpenSpec.upto fnSpaceUpSpec)

/-- 'laws.FnSpaceIn', WHERE WHAT IT READS IS OF BULK AT MOST 1048576: true; the input reads as it did. -/
def fnSpaceInUptoRow : OpenClaim := { program := "ytlaehhdbagiciab", sum := "c5880daaace722908be7bddd45125e5b50b60639652dfabb287ab5b0a0b96d55", func := "loop.example/muniment/laws.FnSpaceIn", spec := "fnSpaceIn", unfollowed := true, recurses := true, apart := false, narrowed := true }
def FnSpaceInUptoSaid : Prop := fnSpaceInUptoRow.holds Try.pinned (OpenSpec.upto fnSpaceInSpec)

/-- 'laws.FnSpaceGoing', WHERE WHAT IT READS IS OF BULK AT MOST 1048576: true; the input reads as it did. -/
def fnSpaceGoingUptoRow : OpenClaim := { program := "ytlaehhdbagiciab", sum := "c5880daaace722908be7bddd45125e5b50b60639652dfabb287ab5b0a0b96d55", func := "loop.example/muniment/laws.FnSpaceGoing", spec := "fnSpaceGoing", unfollowed := true, recurses := true, apart := false, narrowed := true }
def FnSpaceGoingUptoSaid : Prop := fnSpaceGoingUptoRow.holds Try.pinned (OpenSpec.upto fnSpaceGoingSpec)

/-- 'laws.FnUseSum', WHERE WHAT IT READS IS OF BULK AT MOST 1048576: true; the input reads as it did. -/
def fnUseSumUptoRow : OpenClaim := { program := "ytlaehhdbagiciab", sum := "c5880daaace722908be7bddd45125e5b50b60639652dfabb287ab5b0a0b96d55", func := "loop.example/muniment/laws.FnUseSum", spec := "fnUseSum", unfollowed := true, recurses := true, apart := false, narrowed := true }
def FnUseSumUptoSaid : Prop := fnUseSumUptoRow.holds Try.pinned (OpenSpec.upto fnUseSumSpec)

/-- 'laws.FnUseMay', WHERE WHAT IT READS IS OF BULK AT MOST 1048576: true; the input reads as it did. -/
def fnUseMayUptoRow : OpenClaim := { program := "ytlaehhdbagiciab", sum := "c5880daaace722908be7bddd45125e5b50b60639652dfabb287ab5b0a0b96d55", func := "loop.example/muniment/laws.FnUseMay", spec := "fnUseMay", unfollowed := true, recurses := true, apart := false, narrowed := true }
def FnUseMayUptoSaid : Prop := fnUseMayUptoRow.holds Try.pinned (OpenSpec.upto fnUseMaySpec)

/-- 'laws.FnUseAdd', WHERE WHAT IT READS IS OF BULK AT MOST 1048576: true; the input reads as it did. -/
def fnUseAddUptoRow : OpenClaim := { program := "ytlaehhdbagiciab", sum := "c5880daaace722908be7bddd45125e5b50b60639652dfabb287ab5b0a0b96d55", func := "loop.example/muniment/laws.FnUseAdd", spec := "fnUseAdd", unfollowed := true, recurses := true, apart := false, narrowed := true }
def FnUseAddUptoSaid : Prop := fnUseAddUptoRow.holds Try.pinned (OpenSpec.upto fnUseAddSpec)

end Rows
end Go.Proofs.Ytlaehhdbagiciab
