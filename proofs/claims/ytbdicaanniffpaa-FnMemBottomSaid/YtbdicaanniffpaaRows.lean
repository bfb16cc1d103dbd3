/-
  No cell of these rows narrows 'for every input' (looked for: loops, veiled, ifaces, maps, wideKeys, modest, calm, conditions, laid).
  DERIVED. THE GIVEN ROWS OF THIS SEAT. 6 by the template 'for every input the law returns true; each argument reads behind the call as it read before'; 0 by the template 'total and deterministic' (their statements: YtbdicaanniffpaaTotals.lean).
  GIVEN WITH THE SEED: the statements are not yours to turn. If you find one false, say at which input.
  Laid BY PROGRAM, IN A SANDBOX (cutbox-rows.mjs): the forced cells as the released guide's own fill.sh prints them over the translation 0d737fdc54f30005… (all of the seat's roots in one cut). By AI agents, Wed Nov 11 2026. No macro, syntax, notation, axiom, sorry.
-/
import Derived.Test.YtbdicaanniffpaaChecked
import GoSem.Claim
import GoSem.ClaimJoined
import GoSem.ClaimMapViews
import Derived.JoinedTies
import Derived.KernelRfl
namespace Go.Proofs.Ytbdicaanniffpaa
/- THE CELL 'sum', in the pinned program and in every row, IS THE sha256 OF THE DUMP (.gsa) THAT YtbdicaanniffpaaProg.lean LOADS. Nothing in Lean hashes anything: it is a label: what it is worth is what the hold of that sum in a sandbox is worth. -/
noncomputable def Try.pinned : Pinned := { name := "ytbdicaanniffpaa", sum := "0d737fdc54f3000515c9ff3a47a7e9a08ec8ff796bea2ee37088eb9f4afd12d9", checked := Try.checked }
namespace Rows
def none {H : Type} : Left H := { results := [], args := [] }

/-- 'laws.FnMemScan': WHATEVER THE INPUT: true; the input reads as it did. -/
def fnMemScanSpec : ChangeSpec := { name := "fnMemScan", fn := fun _ => fun
  | [d] => { results := [.lit (.bool true)], args := [d] }
  | _ => none }
def fnMemScanRow : OpenClaim := { program := "ytbdicaanniffpaa", sum := "0d737fdc54f3000515c9ff3a47a7e9a08ec8ff796bea2ee37088eb9f4afd12d9", func := "loop.example/muniment/laws.FnMemScan", spec := "fnMemScan", inPlace := ["internal/bytealg.IndexByteString", "internal/bytealg.IndexString"], unfollowed := true, recurses := true, named := ["internal/bytealg.MaxLen"], apart := false }
def FnMemScanSaid : Prop := fnMemScanRow.holds Try.pinned (OpenSpec.ofChange fnMemScanSpec)

/-- ITS FALSE NEIGHBOUR: 'it returns false'. Refute it at one input. -/
def fnMemScanWrong : ChangeSpec := { name := "fnMemScan", fn := fun _ => fun
  | [d] => { results := [.lit (.bool false)], args := [d] }
  | _ => none }
def FnMemScanWrongFalsely : Prop := fnMemScanRow.holds Try.pinned (OpenSpec.ofChange fnMemScanWrong)

/-- 'laws.FnMemTrim': WHATEVER THE INPUT: true; the input reads as it did. -/
def fnMemTrimSpec : ChangeSpec := { name := "fnMemTrim", fn := fun _ => fun
  | [d] => { results := [.lit (.bool true)], args := [d] }
  | _ => none }
def fnMemTrimRow : OpenClaim := { program := "ytbdicaanniffpaa", sum := "0d737fdc54f3000515c9ff3a47a7e9a08ec8ff796bea2ee37088eb9f4afd12d9", func := "loop.example/muniment/laws.FnMemTrim", spec := "fnMemTrim", inPlace := ["internal/bytealg.IndexByteString", "internal/bytealg.IndexString"], unfollowed := true, recurses := true, named := ["internal/bytealg.MaxLen"], apart := false }
def FnMemTrimSaid : Prop := fnMemTrimRow.holds Try.pinned (OpenSpec.ofChange fnMemTrimSpec)

/-- ITS FALSE NEIGHBOUR: 'it returns false'. Refute it at one input. -/
def fnMemTrimWrong : ChangeSpec := { name := "fnMemTrim", fn := fun _ => fun
  | [d] => { results := [.lit (.bool false)], args := [d] }
  | _ => none }
def FnMemTrimWrongFalsely : Prop := fnMemTrimRow.holds Try.pinned (OpenSpec.ofChange fnMemTrimWrong)

/-- 'laws.FnMemBottom': WHATEVER THE INPUT: true; the input reads as it did. -/
def fnMemBottomSpec : ChangeSpec := { name := "fnMemBottom", fn := fun _ => fun
  | [d] => { results := [.lit (.bool true)], args := [d] }
  | _ => none }
def fnMemBottomRow : OpenClaim := { program := "ytbdicaanniffpaa", sum := "0d737fdc54f3000515c9ff3a47a7e9a08ec8ff796bea2ee37088eb9f4afd12d9", func := "loop.example/muniment/laws.FnMemBottom", spec := "fnMemBottom", inPlace := ["internal/bytealg.IndexByteString", "internal/bytealg.IndexString"], recurses := true, named := ["internal/bytealg.MaxLen"], apart := false }
def FnMemBottomSaid : Prop := fnMemBottomRow.holds Try.pinned (OpenSpec.ofChange fnMemBottomSpec)

/-- ITS FALSE NEIGHBOUR: 'it returns false'. Refute it at one input. -/
def fnMemBottomWrong : ChangeSpec := { name := "fnMemBottom", fn := fun _ => fun
  | [d] => { results := [.lit (.bool false)], args := [d] }
  | _ => none }
def FnMemBottomWrongFalsely : Prop := fnMemBottomRow.holds Try.pinned (OpenSpec.ofChange fnMemBottomWrong)

/-- 'laws.FnExactMemScan': WHATEVER THE INPUT: true; the input reads as it did. -/
def fnExactMemScanSpec : ChangeSpec := { name := "fnExactMemScan", fn := fun _ => fun
  | [d1, d2, d3] => { results := [.lit (.bool true)], args := [d1, d2, d3] }
  | _ => none }
def fnExactMemScanRow : OpenClaim := { program := "ytbdicaanniffpaa", sum := "0d737fdc54f3000515c9ff3a47a7e9a08ec8ff796bea2ee37088eb9f4afd12d9", func := "loop.example/muniment/laws.FnExactMemScan", spec := "fnExactMemScan", inPlace := ["internal/bytealg.IndexByteString", "internal/bytealg.IndexString"], unfollowed := true, recurses := true, named := ["internal/bytealg.MaxLen"], apart := false }
def FnExactMemScanSaid : Prop := fnExactMemScanRow.holds Try.pinned (OpenSpec.ofChange fnExactMemScanSpec)

/-- ITS FALSE NEIGHBOUR: 'it returns false'. Refute it at one input. -/
def fnExactMemScanWrong : ChangeSpec := { name := "fnExactMemScan", fn := fun _ => fun
  | [d1, d2, d3] => { results := [.lit (.bool false)], args := [d1, d2, d3] }
  | _ => none }
def FnExactMemScanWrongFalsely : Prop := fnExactMemScanRow.holds Try.pinned (OpenSpec.ofChange fnExactMemScanWrong)

/-- 'laws.FnExactMemTrim': WHATEVER THE INPUT: true; the input reads as it did. -/
def fnExactMemTrimSpec : ChangeSpec := { name := "fnExactMemTrim", fn := fun _ => fun
  | [d1, d2, d3] => { results := [.lit (.bool true)], args := [d1, d2, d3] }
  | _ => none }
def fnExactMemTrimRow : OpenClaim := { program := "ytbdicaanniffpaa", sum := "0d737fdc54f3000515c9ff3a47a7e9a08ec8ff796bea2ee37088eb9f4afd12d9", func := "loop.example/muniment/laws.FnExactMemTrim", spec := "fnExactMemTrim", inPlace := ["internal/bytealg.IndexByteString", "internal/bytealg.IndexString"], named := ["internal/bytealg.MaxLen"], apart := false }
def FnExactMemTrimSaid : Prop := fnExactMemTrimRow.holds Try.pinned (OpenSpec.ofChange fnExactMemTrimSpec)

/-- ITS FALSE NEIGHBOUR: 'it returns false'. Refute it at one input. -/
def fnExactMemTrimWrong : ChangeSpec := { name := "fnExactMemTrim", fn := fun _ => fun
  | [d1, d2, d3] => { results := [.lit (.bool false)], args := [d1, d2, d3] }
  | _ => none }
def FnExactMemTrimWrongFalsely : Prop := fnExactMemTrimRow.holds Try.pinned (OpenSpec.ofChange fnExactMemTrimWrong)

/-- 'laws.FnExactEntriesOk': WHATEVER THE INPUT: true; the input reads as it did. -/
def fnExactEntriesOkSpec : ChangeSpec := { name := "fnExactEntriesOk", fn := fun _ => fun
  | [d] => { results := [.lit (.bool true)], args := [d] }
  | _ => none }
def fnExactEntriesOkRow : OpenClaim := { program := "ytbdicaanniffpaa", sum := "0d737fdc54f3000515c9ff3a47a7e9a08ec8ff796bea2ee37088eb9f4afd12d9", func := "loop.example/muniment/laws.FnExactEntriesOk", spec := "fnExactEntriesOk", inPlace := ["internal/bytealg.IndexByteString", "internal/bytealg.IndexString"], named := ["internal/bytealg.MaxLen"], apart := false }
def FnExactEntriesOkSaid : Prop := fnExactEntriesOkRow.holds Try.pinned (OpenSpec.ofChange fnExactEntriesOkSpec)

/-- ITS FALSE NEIGHBOUR: 'it returns false'. Refute it at one input. -/
def fnExactEntriesOkWrong : ChangeSpec := { name := "fnExactEntriesOk", fn := fun _ => fun
  | [d] => { results := [.lit (.bool false)], args := [d] }
  | _ => none }
def FnExactEntriesOkWrongFalsely : Prop := fnExactEntriesOkRow.holds Try.pinned (OpenSpec.ofChange fnExactEntriesOkWrong)

/- THE SECOND FORM. 'bulk': how many values and letters a reading holds, each counted each time it is reached (what is shared counts as often as it is met; a slice's spare places count too). A statement '..UptoSaid' is the law's where the arguments, and the package variables that the reading takes, are together of bulk at most 1048576: NARROWER than '..Said'. Prove '..Said' where nothing that the law and all that it calls make is longer than what came in: it says more and counts as full. Else prove '..UptoSaid'. A law counts once. -/
mutual
def uptoBulk {H : Type} : DataW H → Nat
  | .lit (.string bytes) => bytes.length + 1
  | .lit _ => 1
  | .nil => 1
  | .ptr d => uptoBulk d + 1
  | .slice elems spare => uptoBulkAll elems + uptoBulkAll spare + 1
  | .agg parts => uptoBulkAll parts + 1
  | .iface _ d => uptoBulk d + 1
  | .map entries => uptoBulkEntries entries + 1
  | .held _ => 1
def uptoBulkAll {H : Type} : List (DataW H) → Nat
  | [] => 0
  | d :: r => uptoBulk d + uptoBulkAll r
def uptoBulkEntries {H : Type} : List (Lit × DataW H) → Nat
  | [] => 0
  | x :: r => uptoBulkEntry x + uptoBulkEntries r
def uptoBulkEntry {H : Type} : Lit × DataW H → Nat
  | (.string bytes, d) => bytes.length + uptoBulk d + 1
  | (_, d) => uptoBulk d + 1
 end
def uptoSmall : (H : Type) → List (DataW H) → Bool := fun _ ds => decide (uptoBulkAll ds ≤ 1048576)
def OpenSpec.upto (s : _root_.Go.ChangeSpec) : _root_.Go.OpenSpec := { _root_.Go.OpenSpec.ofChange s with cond := some uptoSmall }

/-- 'laws.FnMemScan', WHERE WHAT IT READS IS OF BULK AT MOST 1048576: true; the input reads as it did. -/
def fnMemScanUptoRow : OpenClaim := { program := "ytbdicaanniffpaa", sum := "0d737fdc54f3000515c9ff3a47a7e9a08ec8ff796bea2ee37088eb9f4afd12d9", func := "loop.example/muniment/laws.FnMemScan", spec := "fnMemScan", inPlace := ["internal/bytealg.IndexByteString", "internal/bytealg.IndexString"], unfollowed := true, recurses := true, named := ["internal/bytealg.MaxLen"], apart := false, narrowed := true }
def FnMemScanUptoSaid : Prop := fnMemScanUptoRow.holds Try.pinned (OpenSpec.upto fnMemScanSpec)

/-- 'laws.FnMemTrim', WHERE WHAT IT READS IS OF BULK AT MOST 1048576: true; the input reads as it did. -/
def fnMemTrimUptoRow : OpenClaim := { program := "ytbdicaanniffpaa", sum := "0d737fdc54f3000515c9ff3a47a7e9a08ec8ff796bea2ee37088eb9f4afd12d9", func := "loop.example/muniment/laws.FnMemTrim", spec := "fnMemTrim", inPlace := ["internal/bytealg.IndexByteString", "internal/bytealg.IndexString"], unfollowed := true, recurses := true, named := ["internal/bytealg.MaxLen"], apart := false, narrowed := true }
def FnMemTrimUptoSaid : Prop := fnMemTrimUptoRow.holds Try.pinned (OpenSpec.upto fnMemTrimSpec)

/-- 'laws.FnMemBottom', WHERE WHAT IT READS IS OF BULK AT MOST 1048576: true; the input reads as it did. -/
def fnMemBottomUptoRow : OpenClaim := { program := "ytbdicaanniffpaa", sum := "0d737fdc54f3000515c9ff3a47a7e9a08ec8ff796bea2ee37088eb9f4afd12d9", func := "loop.example/muniment/laws.FnMemBottom", spec := "fnMemBottom", inPlace := ["internal/bytealg.IndexByteString", "internal/bytealg.IndexString"], recurses := true, named := ["internal/bytealg.MaxLen"], apart := false, narrowed := true }
def FnMemBottomUptoSaid : Prop := fnMemBottomUptoRow.holds Try.pinned (OpenSpec.upto fnMemBottomSpec)

/-- 'laws.FnExactMemScan', WHERE WHAT IT READS IS OF BULK AT MOST 1048576: true; the input reads as it did. -/
def fnExactMemScanUptoRow : OpenClaim := { program := "ytbdicaanniffpaa", sum := "0d737fdc54f3000515c9ff3a47a7e9a08ec8ff796bea2ee37088eb9f4afd12d9", func := "loop.example/muniment/laws.FnExactMemScan", spec := "fnExactMemScan", inPlace := ["internal/bytealg.IndexByteString", "internal/bytealg.IndexString"], unfollowed := true, recurses := true, named := ["internal/bytealg.MaxLen"], apart := false, narrowed := true }
def FnExactMemScanUptoSaid : Prop := fnExactMemScanUptoRow.holds Try.pinned (OpenSpec.upto fnExactMemScanSpec)

/-- 'laws.FnExactMemTrim', WHERE WHAT IT READS IS OF BULK AT MOST 1048576: true; the input reads as it did. -/
def fnExactMemTrimUptoRow : OpenClaim := { program := "ytbdicaanniffpaa", sum := "0d737fdc54f3000515c9ff3a47a7e9a08ec8ff796bea2ee37088eb9f4afd12d9", func := "loop.example/muniment/laws.FnExactMemTrim", spec := "fnExactMemTrim", inPlace := ["internal/bytealg.IndexByteString", "internal/bytealg.IndexString"], named := ["internal/bytealg.MaxLen"], apart := false, narrowed := true }
def FnExactMemTrimUptoSaid : Prop := fnExactMemTrimUptoRow.holds Try.pinned (OpenSpec.upto fnExactMemTrimSpec)

/-- 'laws.FnExactEntriesOk', WHERE WHAT IT READS IS OF BULK AT MOST 1048576: true; the input reads as it did. -/
def fnExactEntriesOkUptoRow : OpenClaim := { program := "ytbdicaanniffpaa", sum := "0d737fdc54f3000515c9ff3a47a7e9a08ec8ff796bea2ee37088eb9f4afd12d9", func := "loop.example/muniment/laws.FnExactEntriesOk", spec := "fnExactEntriesOk", inPlace := ["internal/bytealg.IndexByteString", "internal/bytealg.IndexString"], named := ["internal/bytealg.MaxLen"], apart := false, narrowed := true }
def FnExactEntriesOkUptoSaid : Prop := fnExactEntriesOkUptoRow.holds Try.pinned (OpenSpec.upto fnExactEntriesOkSpec)

end Rows
end Go.Proofs.Ytbdicaanniffpaa
