/-
  No cell of these rows narrows 'for every input' (looked for: loops, veiled, ifaces, maps, wideKeys, modest, calm, conditions, laid).
  DERIVED. THE GIVEN ROWS OF THIS SEAT. 2 by the template 'for every input the law returns true; each argument reads behind the call as it read before'; 0 by the template 'total and deterministic' (their statements: YtdimenahnohjlaaGreatTotals.lean).
  GIVEN WITH THE SEED: the statements are not yours to turn. If you find one false, say at which input.
  Laid BY PROGRAM, IN A SANDBOX (cutbox-rows.mjs): the forced cells as the released guide's own fill.sh prints them over the translation 2d65bd766229d2ea… (all of the seat's roots in one cut). By AI agents, Wed Nov 11 2026. No macro, syntax, notation, axiom, sorry.
-/
import Derived.Test.YtdimenahnohjlaaGreatChecked
import GoSem.Claim
import GoSem.ClaimJoined
import GoSem.ClaimMapViews
import Derived.JoinedTies
import Derived.KernelRfl
namespace Go.Proofs.YtdimenahnohjlaaGreat
/- THE CELL 'sum', in the pinned program and in every row, IS THE sha256 OF THE DUMP (.gsa) THAT YtdimenahnohjlaaGreatProg.lean LOADS. Nothing in Lean hashes anything: it is a label: what it is worth is what the hold of that sum in a sandbox is worth. -/
noncomputable def Tryz.pinned : Pinned := { name := "ytdimenahnohjlaagreat", sum := "2d65bd766229d2ea056386fbcfb13f59aa91274f6d12e957a8e08e0b0f0d27ad", checked := Tryz.checked }
namespace Rows
def none {H : Type} : Left H := { results := [], args := [] }

/-- 'laws.FnExactModelList': WHATEVER THE INPUT: true; the input reads as it did. -/
def fnExactModelListSpec : ChangeSpec := { name := "fnExactModelList", fn := fun _ => fun
  | [d1, d2] => { results := [.lit (.bool true)], args := [d1, d2] }
  | _ => none }
def fnExactModelListRow : OpenClaim := { program := "ytdimenahnohjlaagreat", sum := "2d65bd766229d2ea056386fbcfb13f59aa91274f6d12e957a8e08e0b0f0d27ad", func := "loop.example/muniment/laws.FnExactModelList", spec := "fnExactModelList", inPlace := ["slices.overlaps[int]", "internal/bytealg.abigen_runtime_cmpstring"], unfollowed := true, recurses := true, apart := false }
def FnExactModelListSaid : Prop := fnExactModelListRow.holds Tryz.pinned (OpenSpec.ofChange fnExactModelListSpec)

/-- ITS FALSE NEIGHBOUR: 'it returns false'. Refute it at one input. -/
def fnExactModelListWrong : ChangeSpec := { name := "fnExactModelList", fn := fun _ => fun
  | [d1, d2] => { results := [.lit (.bool false)], args := [d1, d2] }
  | _ => none }
def FnExactModelListWrongFalsely : Prop := fnExactModelListRow.holds Tryz.pinned (OpenSpec.ofChange fnExactModelListWrong)

/-- 'laws.FnExactModelWatch': WHATEVER THE INPUT: true; the input reads as it did. -/
def fnExactModelWatchSpec : ChangeSpec := { name := "fnExactModelWatch", fn := fun _ => fun
  | [d1, d2, d3] => { results := [.lit (.bool true)], args := [d1, d2, d3] }
  | _ => none }
def fnExactModelWatchRow : OpenClaim := { program := "ytdimenahnohjlaagreat", sum := "2d65bd766229d2ea056386fbcfb13f59aa91274f6d12e957a8e08e0b0f0d27ad", func := "loop.example/muniment/laws.FnExactModelWatch", spec := "fnExactModelWatch", inPlace := ["slices.overlaps[int]", "internal/bytealg.abigen_runtime_cmpstring"], unfollowed := true, recurses := true, apart := false }
def FnExactModelWatchSaid : Prop := fnExactModelWatchRow.holds Tryz.pinned (OpenSpec.ofChange fnExactModelWatchSpec)

/-- ITS FALSE NEIGHBOUR: 'it returns false'. Refute it at one input. -/
def fnExactModelWatchWrong : ChangeSpec := { name := "fnExactModelWatch", fn := fun _ => fun
  | [d1, d2, d3] => { results := [.lit (.bool false)], args := [d1, d2, d3] }
  | _ => none }
def FnExactModelWatchWrongFalsely : Prop := fnExactModelWatchRow.holds Tryz.pinned (OpenSpec.ofChange fnExactModelWatchWrong)

/- THE SECOND FORM. 'bulk': how many values and letters a reading holds, each counted each time it is reached (what is shared counts as often as it is met; a slice's spare places count too). A statement '..UptoSaid' is the law's where the arguments, and the package variables that the reading takes, are together of bulk at most 1048576: NARROWER than '..Said'. Prove '..Said' where nothing that the law and all that it calls make is longer than what came in: it says more and counts as full. Else prove '..UptoSaid'. A law counts once. -/
mutual
def uptoBulk {H : Type} : DataW H → Nat
  | .lit (.string bytes) => bytes.length + 1
  | .lit _ => 1
  | .nil => 1
  | .ptr d => uptoBulk d + 1
  | .slice elems spare => uptoBulkAll elems + uptoBulkAll spare + 1
  | .agg parts => uptoBulkAll parts + 1
  | .iface _ d => uptoBulk d + 1
  | .map entries => uptoBulkEntries entries + 1
  | .held _ => 1
def uptoBulkAll {H : Type} : List (DataW H) → Nat
  | [] => 0
  | d :: r => uptoBulk d + uptoBulkAll r
def uptoBulkEntries {H : Type} : List (Lit × DataW H) → Nat
  | [] => 0
  | x :: r => uptoBulkEntry x + uptoBulkEntries r
def uptoBulkEntry {H : Type} : Lit × DataW H → Nat
  | (.string bytes, d) => bytes.length + uptoBulk d + 1
  | (_, d) => uptoBulk d + 1
 end
def uptoSmall : (H : Type) → List (DataW H) → Bool := fun _ ds => decide (uptoBulkAll ds ≤ 1048576)
def OpenSpec.upto (s : _root_.Go.ChangeSpec) : _root_.Go.OpenSpec := { _root_.Go.OpenSpec.ofChange s with cond := some uptoSmall }

/-- 'laws.FnExactModelList', WHERE WHAT IT READS IS OF BULK AT MOST 1048576: true; the input reads as it did. -/
def fnExactModelListUptoRow : OpenClaim := { program := "ytdimenahnohjlaagreat", sum := "2d65bd766229d2ea056386fbcfb13f59aa91274f6d12e957a8e08e0b0f0d27ad", func := "loop.example/muniment/laws.FnExactModelList", spec := "fnExactModelList", inPlace := ["slices.overlaps[int]", "internal/bytealg.abigen_runtime_cmpstring"], unfollowed := true, recurses := true, apart := false, narrowed := true }
def FnExactModelListUptoSaid : Prop := fnExactModelListUptoRow.holds Tryz.pinned (OpenSpec.upto fnExactModelListSpec)

/-- 'laws.FnExactModelWatch', WHERE WHAT IT READS IS OF BULK AT MOST 1048576: true; the input reads as it did. -/
def fnExactModelWatchUptoRow : OpenClaim := { program := "ytdimenahnohjlaagreat", sum := "2d65bd766229d2ea056386fbcfb13f59aa91274f6d12e957a8e08e0b0f0d27ad", func := "loop.example/muniment/laws.FnExactModelWatch", spec := "fnExactModelWatch", inPlace := ["slices.overlaps[int]", "internal/bytealg.abigen_runtime_cmpstring"], unfollowed := true, recurses := true, apart := false, narrowed := true }
def FnExactModelWatchUptoSaid : Prop := fnExactModelWatchUptoRow.holds Tryz.pinned (OpenSpec.upto fnExactModelWatchSpec)

end Rows
end Go.Proofs.YtdimenahnohjlaaGreat
