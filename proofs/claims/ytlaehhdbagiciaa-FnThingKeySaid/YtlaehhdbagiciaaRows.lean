/-
  No cell of these rows narrows 'for every input' (looked for: loops, veiled, ifaces, maps, wideKeys, modest, calm, conditions, laid).
  DERIVED. THE GIVEN ROWS OF THIS SEAT. 9 by the template 'for every input the law returns true; each argument reads behind the call as it read before'; 0 by the template 'total and deterministic' (their statements: YtlaehhdbagiciaaTotals.lean).
  GIVEN WITH THE SEED: the statements are not yours to turn. If you find one false, say at which input.
  Laid BY PROGRAM, IN A SANDBOX (cutbox-rows.mjs): the forced cells as the released guide's own fill.sh prints them over the translation 5eb50163fa8a56a9… (all of the seat's roots in one cut). By AI agents, Wed Nov 11 2026. No macro, syntax, notation, axiom, sorry.
-/
import Derived.Test.YtlaehhdbagiciaaChecked
import GoSem.Claim
import GoSem.ClaimJoined
import GoSem.ClaimMapViews
import Derived.JoinedTies
import Derived.KernelRfl
namespace Go.Proofs.Ytlaehhdbagiciaa
/- THE CELL 'sum', in the pinned program and in every row, IS THE sha256 OF THE DUMP (.gsa) THAT YtlaehhdbagiciaaProg.lean LOADS. Nothing in Lean hashes anything: it is a label: what it is worth is what the hold of that sum in a sandbox is worth. -/
noncomputable def Try.pinned : Pinned := { name := "ytlaehhdbagiciaa", sum := "5eb50163fa8a56a90aa8100d35672d5d66d6790fc4b471e81307c6853f783a6a", checked := Try.checked }
namespace Rows
def none {H : Type} : Left H := { results := [], args := [] }

/-- 'laws.FnExactThingOk': WHATEVER THE INPUT: true; the input reads as it did. -/
def fnExactThingOkSpec : ChangeSpec := { name := "fnExactThingOk", fn := fun _ => fun
  | [d] => { results := [.lit (.bool true)], args := [d] }
  | _ => none }
def fnExactThingOkRow : OpenClaim := { program := "ytlaehhdbagiciaa", sum := "5eb50163fa8a56a90aa8100d35672d5d66d6790fc4b471e81307c6853f783a6a", func := "loop.example/muniment/laws.FnExactThingOk", spec := "fnExactThingOk", unfollowed := true, recurses := true, apart := false }
def FnExactThingOkSaid : Prop := fnExactThingOkRow.holds Try.pinned (OpenSpec.ofChange fnExactThingOkSpec)

/-- ITS FALSE NEIGHBOUR: 'it returns false'. Refute it at one input. -/
def fnExactThingOkWrong : ChangeSpec := { name := "fnExactThingOk", fn := fun _ => fun
  | [d] => { results := [.lit (.bool false)], args := [d] }
  | _ => none }
def FnExactThingOkWrongFalsely : Prop := fnExactThingOkRow.holds Try.pinned (OpenSpec.ofChange fnExactThingOkWrong)

/-- 'laws.FnExactThingCost': WHATEVER THE INPUT: true; the input reads as it did. -/
def fnExactThingCostSpec : ChangeSpec := { name := "fnExactThingCost", fn := fun _ => fun
  | [d] => { results := [.lit (.bool true)], args := [d] }
  | _ => none }
def fnExactThingCostRow : OpenClaim := { program := "ytlaehhdbagiciaa", sum := "5eb50163fa8a56a90aa8100d35672d5d66d6790fc4b471e81307c6853f783a6a", func := "loop.example/muniment/laws.FnExactThingCost", spec := "fnExactThingCost", unfollowed := true, recurses := true, apart := false }
def FnExactThingCostSaid : Prop := fnExactThingCostRow.holds Try.pinned (OpenSpec.ofChange fnExactThingCostSpec)

/-- ITS FALSE NEIGHBOUR: 'it returns false'. Refute it at one input. -/
def fnExactThingCostWrong : ChangeSpec := { name := "fnExactThingCost", fn := fun _ => fun
  | [d] => { results := [.lit (.bool false)], args := [d] }
  | _ => none }
def FnExactThingCostWrongFalsely : Prop := fnExactThingCostRow.holds Try.pinned (OpenSpec.ofChange fnExactThingCostWrong)

/-- 'laws.FnExactThingKey': WHATEVER THE INPUT: true; the input reads as it did. -/
def fnExactThingKeySpec : ChangeSpec := { name := "fnExactThingKey", fn := fun _ => fun
  | [d1, d2] => { results := [.lit (.bool true)], args := [d1, d2] }
  | _ => none }
def fnExactThingKeyRow : OpenClaim := { program := "ytlaehhdbagiciaa", sum := "5eb50163fa8a56a90aa8100d35672d5d66d6790fc4b471e81307c6853f783a6a", func := "loop.example/muniment/laws.FnExactThingKey", spec := "fnExactThingKey", apart := false }
def FnExactThingKeySaid : Prop := fnExactThingKeyRow.holds Try.pinned (OpenSpec.ofChange fnExactThingKeySpec)

/-- ITS FALSE NEIGHBOUR: 'it returns false'. Refute it at one input. -/
def fnExactThingKeyWrong : ChangeSpec := { name := "fnExactThingKey", fn := fun _ => fun
  | [d1, d2] => { results := [.lit (.bool false)], args := [d1, d2] }
  | _ => none }
def FnExactThingKeyWrongFalsely : Prop := fnExactThingKeyRow.holds Try.pinned (OpenSpec.ofChange fnExactThingKeyWrong)

/-- 'laws.FnThingCost': WHATEVER THE INPUT: true; the input reads as it did. -/
def fnThingCostSpec : ChangeSpec := { name := "fnThingCost", fn := fun _ => fun
  | [d] => { results := [.lit (.bool true)], args := [d] }
  | _ => none }
def fnThingCostRow : OpenClaim := { program := "ytlaehhdbagiciaa", sum := "5eb50163fa8a56a90aa8100d35672d5d66d6790fc4b471e81307c6853f783a6a", func := "loop.example/muniment/laws.FnThingCost", spec := "fnThingCost", unfollowed := true, recurses := true, apart := false }
def FnThingCostSaid : Prop := fnThingCostRow.holds Try.pinned (OpenSpec.ofChange fnThingCostSpec)

/-- ITS FALSE NEIGHBOUR: 'it returns false'. Refute it at one input. -/
def fnThingCostWrong : ChangeSpec := { name := "fnThingCost", fn := fun _ => fun
  | [d] => { results := [.lit (.bool false)], args := [d] }
  | _ => none }
def FnThingCostWrongFalsely : Prop := fnThingCostRow.holds Try.pinned (OpenSpec.ofChange fnThingCostWrong)

/-- 'laws.FnThingKey': WHATEVER THE INPUT: true; the input reads as it did. -/
def fnThingKeySpec : ChangeSpec := { name := "fnThingKey", fn := fun _ => fun
  | [d1, d2] => { results := [.lit (.bool true)], args := [d1, d2] }
  | _ => none }
def fnThingKeyRow : OpenClaim := { program := "ytlaehhdbagiciaa", sum := "5eb50163fa8a56a90aa8100d35672d5d66d6790fc4b471e81307c6853f783a6a", func := "loop.example/muniment/laws.FnThingKey", spec := "fnThingKey", apart := false }
def FnThingKeySaid : Prop := fnThingKeyRow.holds Try.pinned (OpenSpec.ofChange fnThingKeySpec)

/-- ITS FALSE NEIGHBOUR: 'it returns false'. Refute it at one input. -/
def fnThingKeyWrong : ChangeSpec := { name := "fnThingKey", fn := fun _ => fun
  | [d1, d2] => { results := [.lit (.bool false)], args := [d1, d2] }
  | _ => none }
def FnThingKeyWrongFalsely : Prop := fnThingKeyRow.holds Try.pinned (OpenSpec.ofChange fnThingKeyWrong)

/-- 'laws.FnExactSpacesOk': WHATEVER THE INPUT: true; the input reads as it did. -/
def fnExactSpacesOkSpec : ChangeSpec := { name := "fnExactSpacesOk", fn := fun _ => fun
  | [d] => { results := [.lit (.bool true)], args := [d] }
  | _ => none }
def fnExactSpacesOkRow : OpenClaim := { program := "ytlaehhdbagiciaa", sum := "5eb50163fa8a56a90aa8100d35672d5d66d6790fc4b471e81307c6853f783a6a", func := "loop.example/muniment/laws.FnExactSpacesOk", spec := "fnExactSpacesOk", unfollowed := true, recurses := true, apart := false }
def FnExactSpacesOkSaid : Prop := fnExactSpacesOkRow.holds Try.pinned (OpenSpec.ofChange fnExactSpacesOkSpec)

/-- ITS FALSE NEIGHBOUR: 'it returns false'. Refute it at one input. -/
def fnExactSpacesOkWrong : ChangeSpec := { name := "fnExactSpacesOk", fn := fun _ => fun
  | [d] => { results := [.lit (.bool false)], args := [d] }
  | _ => none }
def FnExactSpacesOkWrongFalsely : Prop := fnExactSpacesOkRow.holds Try.pinned (OpenSpec.ofChange fnExactSpacesOkWrong)

/-- 'laws.FnExactSpaceUp': WHATEVER THE INPUT: true; the input reads as it did. -/
def fnExactSpaceUpSpec : ChangeSpec := { name := "fnExactSpaceUp", fn := fun _ => fun
  | [d1, d2] => { results := [.lit (.bool true)], args := [d1, d2] }
  | _ => none }
def fnExactSpaceUpRow : OpenClaim := { program := "ytlaehhdbagiciaa", sum := "5eb50163fa8a56a90aa8100d35672d5d66d6790fc4b471e81307c6853f783a6a", func := "loop.example/muniment/laws.FnExactSpaceUp", spec := "fnExactSpaceUp", unfollowed := true, recurses := true, apart := false }
def FnExactSpaceUpSaid : Prop := fnExactSpaceUpRow.holds Try.pinned (OpenSpec.ofChange fnExactSpaceUpSpec)

/-- ITS FALSE NEIGHBOUR: 'it returns false'. Refute it at one input. -/
def fnExactSpaceUpWrong : ChangeSpec := { name := "fnExactSpaceUp", fn := fun _ => fun
  | [d1, d2] => { results := [.lit (.bool false)], args := [d1, d2] }
  | _ => none }
def FnExactSpaceUpWrongFalsely : Prop := fnExactSpaceUpRow.holds Try.pinned (OpenSpec.ofChange fnExactSpaceUpWrong)

/-- 'laws.FnExactSpaceIn': WHATEVER THE INPUT: true; the input reads as it did. -/
def fnExactSpaceInSpec : ChangeSpec := { name := "fnExactSpaceIn", fn := fun _ => fun
  | [d1, d2, d3] => { results := [.lit (.bool true)], args := [d1, d2, d3] }
  | _ => none }
def fnExactSpaceInRow : OpenClaim := { program := "ytlaehhdbagiciaa", sum := "5eb50163fa8a56a90aa8100d35672d5d66d6790fc4b471e81307c6853f783a6a", func := "loop.example/muniment/laws.FnExactSpaceIn", spec := "fnExactSpaceIn", unfollowed := true, recurses := true, apart := false }
def FnExactSpaceInSaid : Prop := fnExactSpaceInRow.holds Try.pinned (OpenSpec.ofChange fnExactSpaceInSpec)

/-- ITS FALSE NEIGHBOUR: 'it returns false'. Refute it at one input. -/
def fnExactSpaceInWrong : ChangeSpec := { name := "fnExactSpaceIn", fn := fun _ => fun
  | [d1, d2, d3] => { results := [.lit (.bool false)], args := [d1, d2, d3] }
  | _ => none }
def FnExactSpaceInWrongFalsely : Prop := fnExactSpaceInRow.holds Try.pinned (OpenSpec.ofChange fnExactSpaceInWrong)

/-- 'laws.FnExactSpaceGoing': WHATEVER THE INPUT: true; the input reads as it did. -/
def fnExactSpaceGoingSpec : ChangeSpec := { name := "fnExactSpaceGoing", fn := fun _ => fun
  | [d1, d2] => { results := [.lit (.bool true)], args := [d1, d2] }
  | _ => none }
def fnExactSpaceGoingRow : OpenClaim := { program := "ytlaehhdbagiciaa", sum := "5eb50163fa8a56a90aa8100d35672d5d66d6790fc4b471e81307c6853f783a6a", func := "loop.example/muniment/laws.FnExactSpaceGoing", spec := "fnExactSpaceGoing", unfollowed := true, recurses := true, apart := false }
def FnExactSpaceGoingSaid : Prop := fnExactSpaceGoingRow.holds Try.pinned (OpenSpec.ofChange fnExactSpaceGoingSpec)

/-- ITS FALSE NEIGHBOUR: 'it returns false'. Refute it at one input. -/
def fnExactSpaceGoingWrong : ChangeSpec := { name := "fnExactSpaceGoing", fn := fun _ => fun
  | [d1, d2] => { results := [.lit (.bool false)], args := [d1, d2] }
  | _ => none }
def FnExactSpaceGoingWrongFalsely : Prop := fnExactSpaceGoingRow.holds Try.pinned (OpenSpec.ofChange fnExactSpaceGoingWrong)

/- THE SECOND FORM. 'bulk': how many values and letters a reading holds, each counted each time it is reached (what is shared counts as often as it is met; a slice's spare places count too). A statement '..UptoSaid' is the law's where the arguments, and the package variables that the reading takes, are together of bulk at most 1048576: NARROWER than '..Said'. Prove '..Said' where nothing that the law and all that it calls make is longer than what came in: it says more and counts as full. Else prove '..UptoSaid'. A law counts once. -/
mutual
def uptoBulk {H : Type} : DataW H → Nat
  | .lit (.string bytes) => bytes.length + 1
  | .lit _ => 1
  | .nil => 1
  | .ptr d => uptoBulk d + 1
  | .slice elems spare => uptoBulkAll elems + uptoBulkAll spare + 1
  | .agg parts => uptoBulkAll parts + 1
  | .iface _ d => uptoBulk d + 1
  | .map entries => uptoBulkEntries entries + 1
  | .held _ => 1
def uptoBulkAll {H : Type} : List (DataW H) → Nat
  | [] => 0
  | d :: r => uptoBulk d + uptoBulkAll r
def uptoBulkEntries {H : Type} : List (Lit × DataW H) → Nat
  | [] => 0
  | x :: r => uptoBulkEntry x + uptoBulkEntries r
def uptoBulkEntry {H : Type} : Lit × DataW H → Nat
  | (.string bytes, d) => bytes.length + uptoBulk d + 1
  | (_, d) => uptoBulk d + 1
 end
def uptoSmall : (H : Type) → List (DataW H) → Bool := fun _ ds => decide (uptoBulkAll ds ≤ 1048576)
def OpenSpec.upto (s : _root_.Go.ChangeSpec) : _root_.Go.OpenSpec := { _root_.Go.OpenSpec.ofChange s with cond := some uptoSmall }

/-- 'laws.FnExactThingOk', WHERE WHAT IT READS IS OF BULK AT MOST 1048576: true; the input reads as it did. -/
def fnExactThingOkUptoRow : OpenClaim := { program := "ytlaehhdbagiciaa", sum := "5eb50163fa8a56a90aa8100d35672d5d66d6790fc4b471e81307c6853f783a6a", func := "loop.example/muniment/laws.FnExactThingOk", spec := "fnExactThingOk", unfollowed := true, recurses := true, apart := false, narrowed := true }
def FnExactThingOkUptoSaid : Prop := fnExactThingOkUptoRow.holds Try.pinned (OpenSpec.upto fnExactThingOkSpec)

/-- 'laws.FnExactThingCost', WHERE WHAT IT READS IS OF BULK AT MOST 1048576: true; the input reads as it did. -/
def fnExactThingCostUptoRow : OpenClaim := { program := "ytlaehhdbagiciaa", sum := "5eb50163fa8a56a90aa8100d35672d5d66d6790fc4b471e81307c6853f783a6a", func := "loop.example/muniment/laws.FnExactThingCost", spec := "fnExactThingCost", unfollowed := true, recurses := true, apart := false, narrowed := true }
def FnExactThingCostUptoSaid : Prop := fnExactThingCostUptoRow.holds Try.pinned (OpenSpec.upto fnExactThingCostSpec)

/-- 'laws.FnExactThingKey', WHERE WHAT IT READS IS OF BULK AT MOST 1048576: true; the input reads as it did. -/
def fnExactThingKeyUptoRow : OpenClaim := { program := "ytlaehhdbagiciaa", sum := "5eb50163fa8a56a90aa8100d35672d5d66d6790fc4b471e81307c6853f783a6a", func := "loop.example/muniment/laws.FnExactThingKey", spec := "fnExactThingKey", apart := false, narrowed := true }
def FnExactThingKeyUptoSaid : Prop := fnExactThingKeyUptoRow.holds Try.pinned (OpenSpec.upto fnExactThingKeySpec)

/-- 'laws.FnThingCost', WHERE WHAT IT READS IS OF BULK AT MOST 1048576: true; the input reads as it did. -/
def fnThingCostUptoRow : OpenClaim := { program := "ytlaehhdbagiciaa", sum := "5eb50163fa8a56a90aa8100d35672d5d66d6790fc4b471e81307c6853f783a6a", func := "loop.example/muniment/laws.FnThingCost", spec := "fnThingCost", unfollowed := true, recurses := true, apart := false, narrowed := true }
def FnThingCostUptoSaid : Prop := fnThingCostUptoRow.holds Try.pinned (OpenSpec.upto fnThingCostSpec)

/-- 'laws.FnThingKey', WHERE WHAT IT READS IS OF BULK AT MOST 1048576: true; the input reads as it did. -/
def fnThingKeyUptoRow : OpenClaim := { program := "ytlaehhdbagiciaa", sum := "5eb50163fa8a56a90aa8100d35672d5d66d6790fc4b471e81307c6853f783a6a", func := "loop.example/muniment/laws.FnThingKey", spec := "fnThingKey", apart := false, narrowed := true }
def FnThingKeyUptoSaid : Prop := fnThingKeyUptoRow.holds Try.pinned (OpenSpec.upto fnThingKeySpec)

/-- 'laws.FnExactSpacesOk', WHERE WHAT IT READS IS OF BULK AT MOST 1048576: true; the input reads as it did. -/
def fnExactSpacesOkUptoRow : OpenClaim := { program := "ytlaehhdbagiciaa", sum := "5eb50163fa8a56a90aa8100d35672d5d66d6790fc4b471e81307c6853f783a6a", func := "loop.example/muniment/laws.FnExactSpacesOk", spec := "fnExactSpacesOk", unfollowed := true, recurses := true, apart := false, narrowed := true }
def FnExactSpacesOkUptoSaid : Prop := fnExactSpacesOkUptoRow.holds Try.pinned (OpenSpec.upto fnExactSpacesOkSpec)

/-- 'laws.FnExactSpaceUp', WHERE WHAT IT READS IS OF BULK AT MOST 1048576: true; the input reads as it did. -/
def fnExactSpaceUpUptoRow : OpenClaim := { program := "ytlaehhdbagiciaa", sum := "5eb50163fa8a56a90aa8100d35672d5d66d6790fc4b471e81307c6853f783a6a", func := "loop.example/muniment/laws.FnExactSpaceUp", spec := "fnExactSpaceUp", unfollowed := true, recurses := true, apart := false, narrowed := true }
def FnExactSpaceUpUptoSaid : Prop := fnExactSpaceUpUptoRow.holds Try.pinned (OpenSpec.upto fnExactSpaceUpSpec)

/-- 'laws.FnExactSpaceIn', WHERE WHAT IT READS IS OF BULK AT MOST 1048576: true; the input reads as it did. -/
def fnExactSpaceInUptoRow : OpenClaim := { program := "ytlaehhdbagiciaa", sum := "5eb50163fa8a56a90aa8100d35672d5d66d6790fc4b471e81307c6853f783a6a", func := "loop.example/muniment/laws.FnExactSpaceIn", spec := "fnExactSpaceIn", unfollowed := true, recurses := true, apart := false, narrowed := true }
def FnExactSpaceInUptoSaid : Prop := fnExactSpaceInUptoRow.holds Try.pinned (OpenSpec.upto fnExactSpaceInSpec)

/-- 'laws.FnExactSpaceGoing', WHERE WHAT IT READS IS OF BULK AT MOST 1048576: true; the input reads as it did. -/
def fnExactSpaceGoingUptoRow : OpenClaim := { program := "ytlaehhdbagiciaa", sum := "5eb50163fa8a56a90aa8100d35672d5d66d6790fc4b471e81307c6853f783a6a", func := "loop.example/muniment/laws.FnExactSpaceGoing", spec := "fnExactSpaceGoing", unfollowed := true, recurses := true, apart := false, narrowed := true }
def FnExactSpaceGoingUptoSaid : Prop := fnExactSpaceGoingUptoRow.holds Try.pinned (OpenSpec.upto fnExactSpaceGoingSpec)

end Rows
end Go.Proofs.Ytlaehhdbagiciaa
