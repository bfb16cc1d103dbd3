/-
  NARROWER THAN 'FOR EVERY INPUT', by the rows' own cells (each row's printed sentence says how): FnExactSpaceWrite: laid · FnExactSpaceRead: laid · FnExactThingWrite: laid · FnExactThingRead: laid · FnExactReqWrite: laid · FnExactReqRead: laid.
  DERIVED. THE GIVEN ROWS OF THIS SEAT. 6 by the template 'for every input the law returns true; each argument reads behind the call as it read before'; 0 by the template 'total and deterministic' (their statements: YthcndaeacjloaaaDoorTotals.lean).
  GIVEN WITH THE SEED: the statements are not yours to turn. If you find one false, say at which input.
  Laid BY PROGRAM, IN A SANDBOX (cutbox-rows.mjs): the forced cells as the released guide's own fill.sh prints them over the translation c4e883d50db30436… (all of the seat's roots in one cut). By AI agents, Wed Nov 11 2026. No macro, syntax, notation, axiom, sorry.
-/
import Derived.Test.YthcndaeacjloaaaDoorChecked
import GoSem.PinnedTables
import GoSem.Claim
import GoSem.ClaimJoined
import GoSem.ClaimMapViews
import Derived.JoinedTies
import Derived.KernelRfl
namespace Go.Proofs.YthcndaeacjloaaaDoor
/- THE CELL 'sum', in the pinned program and in every row, IS THE sha256 OF THE DUMP (.gsa) THAT YthcndaeacjloaaaDoorProg.lean LOADS. Nothing in Lean hashes anything: it is a label: what it is worth is what the hold of that sum in a sandbox is worth. -/
noncomputable def Tryd.pinned : Pinned := { name := "ythcndaeacjloaaadoor", sum := "c4e883d50db3043677d550cb96a9b467b20c78fa0cc22cc42c9773652057306d", checked := Tryd.checked }
namespace Rows
def none {H : Type} : Left H := { results := [], args := [] }

/- WHAT THE LISTED PACKAGE-LEVEL VARIABLES READ AS WHEN THE CALL BEGINS. Each datum BY PROGRAM (the guide's laid-datum.mjs) off the statement by which the dump's own 'gosem.cut.vars' lays the variable. In a bare row this is a premise. The card (YthcndaeacjloaaaDoorCards.lean) ties it to the program's text. -/
def laid_math_bits_deBruijn32tab {H : Type} : DataW H := .agg [.lit (.int .u8 0), .lit (.int .u8 1), .lit (.int .u8 28), .lit (.int .u8 2), .lit (.int .u8 29), .lit (.int .u8 14), .lit (.int .u8 24), .lit (.int .u8 3), .lit (.int .u8 30), .lit (.int .u8 22), .lit (.int .u8 20), .lit (.int .u8 15), .lit (.int .u8 25), .lit (.int .u8 17), .lit (.int .u8 4), .lit (.int .u8 8), .lit (.int .u8 31), .lit (.int .u8 27), .lit (.int .u8 13), .lit (.int .u8 23), .lit (.int .u8 21), .lit (.int .u8 19), .lit (.int .u8 16), .lit (.int .u8 7), .lit (.int .u8 26), .lit (.int .u8 12), .lit (.int .u8 18), .lit (.int .u8 6), .lit (.int .u8 11), .lit (.int .u8 5), .lit (.int .u8 10), .lit (.int .u8 9)]
def laid_math_bits_deBruijn64tab {H : Type} : DataW H := .agg [.lit (.int .u8 0), .lit (.int .u8 1), .lit (.int .u8 56), .lit (.int .u8 2), .lit (.int .u8 57), .lit (.int .u8 49), .lit (.int .u8 28), .lit (.int .u8 3), .lit (.int .u8 61), .lit (.int .u8 58), .lit (.int .u8 42), .lit (.int .u8 50), .lit (.int .u8 38), .lit (.int .u8 29), .lit (.int .u8 17), .lit (.int .u8 4), .lit (.int .u8 62), .lit (.int .u8 47), .lit (.int .u8 59), .lit (.int .u8 36), .lit (.int .u8 45), .lit (.int .u8 43), .lit (.int .u8 51), .lit (.int .u8 22), .lit (.int .u8 53), .lit (.int .u8 39), .lit (.int .u8 33), .lit (.int .u8 30), .lit (.int .u8 24), .lit (.int .u8 18), .lit (.int .u8 12), .lit (.int .u8 5), .lit (.int .u8 63), .lit (.int .u8 55), .lit (.int .u8 48), .lit (.int .u8 27), .lit (.int .u8 60), .lit (.int .u8 41), .lit (.int .u8 37), .lit (.int .u8 16), .lit (.int .u8 46), .lit (.int .u8 35), .lit (.int .u8 44), .lit (.int .u8 21), .lit (.int .u8 52), .lit (.int .u8 32), .lit (.int .u8 23), .lit (.int .u8 11), .lit (.int .u8 54), .lit (.int .u8 26), .lit (.int .u8 40), .lit (.int .u8 15), .lit (.int .u8 34), .lit (.int .u8 20), .lit (.int .u8 31), .lit (.int .u8 10), .lit (.int .u8 25), .lit (.int .u8 14), .lit (.int .u8 19), .lit (.int .u8 9), .lit (.int .u8 13), .lit (.int .u8 8), .lit (.int .u8 7), .lit (.int .u8 6)]
def laid_internal_strconv_uint64pow10 {H : Type} : DataW H := .agg [.lit (.int .u64 1), .lit (.int .u64 10), .lit (.int .u64 100), .lit (.int .u64 1000), .lit (.int .u64 10000), .lit (.int .u64 100000), .lit (.int .u64 1000000), .lit (.int .u64 10000000), .lit (.int .u64 100000000), .lit (.int .u64 1000000000), .lit (.int .u64 10000000000), .lit (.int .u64 100000000000), .lit (.int .u64 1000000000000), .lit (.int .u64 10000000000000), .lit (.int .u64 100000000000000), .lit (.int .u64 1000000000000000), .lit (.int .u64 10000000000000000), .lit (.int .u64 100000000000000000), .lit (.int .u64 1000000000000000000), .lit (.int .u64 10000000000000000000)]
def laid_unicode_utf8_acceptRanges {H : Type} : DataW H := .agg [.agg [.lit (.int .u8 128), .lit (.int .u8 191)], .agg [.lit (.int .u8 160), .lit (.int .u8 191)], .agg [.lit (.int .u8 128), .lit (.int .u8 159)], .agg [.lit (.int .u8 144), .lit (.int .u8 191)], .agg [.lit (.int .u8 128), .lit (.int .u8 143)], .agg [.lit (.int .u8 0), .lit (.int .u8 0)], .agg [.lit (.int .u8 0), .lit (.int .u8 0)], .agg [.lit (.int .u8 0), .lit (.int .u8 0)], .agg [.lit (.int .u8 0), .lit (.int .u8 0)], .agg [.lit (.int .u8 0), .lit (.int .u8 0)], .agg [.lit (.int .u8 0), .lit (.int .u8 0)], .agg [.lit (.int .u8 0), .lit (.int .u8 0)], .agg [.lit (.int .u8 0), .lit (.int .u8 0)], .agg [.lit (.int .u8 0), .lit (.int .u8 0)], .agg [.lit (.int .u8 0), .lit (.int .u8 0)], .agg [.lit (.int .u8 0), .lit (.int .u8 0)]]
/-- One of Go's own tables, pinned by name: the form's constant. -/
def laid_unicode_utf8_first : DataW Unit := Go.Pinned.utf8First
def laid_loop_example_muniment_impl_reqVerbs {H : Type} : DataW H := .agg [.lit (.string []), .lit (.string [115, 112, 97, 99, 101]), .lit (.string [108, 105, 109, 105, 116]), .lit (.string [99, 108, 111, 115, 101]), .lit (.string [112, 117, 116]), .lit (.string [115, 101, 116]), .lit (.string [109, 97, 114, 107]), .lit (.string [117, 110, 109, 97, 114, 107]), .lit (.string [100, 114, 111, 112]), .lit (.string [103, 101, 116]), .lit (.string [108, 105, 115, 116]), .lit (.string [119, 97, 116, 99, 104]), .lit (.string [115, 116, 101, 112])]

/-- 'laws.FnExactSpaceWrite': WHATEVER THE INPUT: true; the input reads as it did. -/
def fnExactSpaceWriteSpec : ChangeSpec := { name := "fnExactSpaceWrite", fn := fun _ => fun
  | [d] => { results := [.lit (.bool true)], args := [d] }
  | _ => none }
def fnExactSpaceWriteRow : OpenClaim := { program := "ythcndaeacjloaaadoor", sum := "c4e883d50db3043677d550cb96a9b467b20c78fa0cc22cc42c9773652057306d", func := "loop.example/muniment/laws.FnExactSpaceWrite", spec := "fnExactSpaceWrite", recurses := true, named := ["internal/strconv.uint64pow10", "math/bits.deBruijn32tab", "math/bits.deBruijn64tab"], apart := false, laid := [("math/bits.deBruijn32tab", laid_math_bits_deBruijn32tab), ("math/bits.deBruijn64tab", laid_math_bits_deBruijn64tab), ("internal/strconv.uint64pow10", laid_internal_strconv_uint64pow10)] }
def FnExactSpaceWriteSaid : Prop := fnExactSpaceWriteRow.holds Tryd.pinned (OpenSpec.ofChange fnExactSpaceWriteSpec)

/-- ITS FALSE NEIGHBOUR: 'it returns false'. Refute it at one input. -/
def fnExactSpaceWriteWrong : ChangeSpec := { name := "fnExactSpaceWrite", fn := fun _ => fun
  | [d] => { results := [.lit (.bool false)], args := [d] }
  | _ => none }
def FnExactSpaceWriteWrongFalsely : Prop := fnExactSpaceWriteRow.holds Tryd.pinned (OpenSpec.ofChange fnExactSpaceWriteWrong)

/-- 'laws.FnExactSpaceRead': WHATEVER THE INPUT: true; the input reads as it did. -/
def fnExactSpaceReadSpec : ChangeSpec := { name := "fnExactSpaceRead", fn := fun _ => fun
  | [d1, d2] => { results := [.lit (.bool true)], args := [d1, d2] }
  | _ => none }
def fnExactSpaceReadRow : OpenClaim := { program := "ythcndaeacjloaaadoor", sum := "c4e883d50db3043677d550cb96a9b467b20c78fa0cc22cc42c9773652057306d", func := "loop.example/muniment/laws.FnExactSpaceRead", spec := "fnExactSpaceRead", inPlace := ["internal/bytealg.CountString", "internal/bytealg.IndexByteString", "internal/bytealg.IndexString"], recurses := true, named := ["unicode/utf8.first", "unicode/utf8.acceptRanges", "internal/bytealg.MaxLen", "internal/strconv.uint64pow10", "math/bits.deBruijn32tab", "math/bits.deBruijn64tab"], apart := false, laid := [("math/bits.deBruijn32tab", laid_math_bits_deBruijn32tab), ("math/bits.deBruijn64tab", laid_math_bits_deBruijn64tab), ("internal/strconv.uint64pow10", laid_internal_strconv_uint64pow10), ("unicode/utf8.acceptRanges", laid_unicode_utf8_acceptRanges), ("unicode/utf8.first", laid_unicode_utf8_first)] }
def FnExactSpaceReadSaid : Prop := fnExactSpaceReadRow.holds Tryd.pinned (OpenSpec.ofChange fnExactSpaceReadSpec)

/-- ITS FALSE NEIGHBOUR: 'it returns false'. Refute it at one input. -/
def fnExactSpaceReadWrong : ChangeSpec := { name := "fnExactSpaceRead", fn := fun _ => fun
  | [d1, d2] => { results := [.lit (.bool false)], args := [d1, d2] }
  | _ => none }
def FnExactSpaceReadWrongFalsely : Prop := fnExactSpaceReadRow.holds Tryd.pinned (OpenSpec.ofChange fnExactSpaceReadWrong)

/-- 'laws.FnExactThingWrite': WHATEVER THE INPUT: true; the input reads as it did. -/
def fnExactThingWriteSpec : ChangeSpec := { name := "fnExactThingWrite", fn := fun _ => fun
  | [d] => { results := [.lit (.bool true)], args := [d] }
  | _ => none }
def fnExactThingWriteRow : OpenClaim := { program := "ythcndaeacjloaaadoor", sum := "c4e883d50db3043677d550cb96a9b467b20c78fa0cc22cc42c9773652057306d", func := "loop.example/muniment/laws.FnExactThingWrite", spec := "fnExactThingWrite", inPlace := ["internal/abi.NoEscape", "internal/bytealg.MakeNoZero"], unfollowed := true, recurses := true, named := ["internal/strconv.uint64pow10", "math/bits.deBruijn32tab", "math/bits.deBruijn64tab"], apart := false, laid := [("math/bits.deBruijn32tab", laid_math_bits_deBruijn32tab), ("math/bits.deBruijn64tab", laid_math_bits_deBruijn64tab), ("internal/strconv.uint64pow10", laid_internal_strconv_uint64pow10)] }
def FnExactThingWriteSaid : Prop := fnExactThingWriteRow.holds Tryd.pinned (OpenSpec.ofChange fnExactThingWriteSpec)

/-- ITS FALSE NEIGHBOUR: 'it returns false'. Refute it at one input. -/
def fnExactThingWriteWrong : ChangeSpec := { name := "fnExactThingWrite", fn := fun _ => fun
  | [d] => { results := [.lit (.bool false)], args := [d] }
  | _ => none }
def FnExactThingWriteWrongFalsely : Prop := fnExactThingWriteRow.holds Tryd.pinned (OpenSpec.ofChange fnExactThingWriteWrong)

/-- 'laws.FnExactThingRead': WHATEVER THE INPUT: true; the input reads as it did. -/
def fnExactThingReadSpec : ChangeSpec := { name := "fnExactThingRead", fn := fun _ => fun
  | [d1, d2] => { results := [.lit (.bool true)], args := [d1, d2] }
  | _ => none }
def fnExactThingReadRow : OpenClaim := { program := "ythcndaeacjloaaadoor", sum := "c4e883d50db3043677d550cb96a9b467b20c78fa0cc22cc42c9773652057306d", func := "loop.example/muniment/laws.FnExactThingRead", spec := "fnExactThingRead", inPlace := ["internal/bytealg.CountString", "internal/bytealg.IndexByteString", "internal/bytealg.IndexString", "internal/abi.NoEscape", "internal/bytealg.MakeNoZero"], unfollowed := true, recurses := true, named := ["unicode/utf8.first", "unicode/utf8.acceptRanges", "internal/bytealg.MaxLen", "internal/strconv.uint64pow10", "math/bits.deBruijn32tab", "math/bits.deBruijn64tab"], apart := false, laid := [("math/bits.deBruijn32tab", laid_math_bits_deBruijn32tab), ("math/bits.deBruijn64tab", laid_math_bits_deBruijn64tab), ("internal/strconv.uint64pow10", laid_internal_strconv_uint64pow10), ("unicode/utf8.acceptRanges", laid_unicode_utf8_acceptRanges), ("unicode/utf8.first", laid_unicode_utf8_first)] }
def FnExactThingReadSaid : Prop := fnExactThingReadRow.holds Tryd.pinned (OpenSpec.ofChange fnExactThingReadSpec)

/-- ITS FALSE NEIGHBOUR: 'it returns false'. Refute it at one input. -/
def fnExactThingReadWrong : ChangeSpec := { name := "fnExactThingRead", fn := fun _ => fun
  | [d1, d2] => { results := [.lit (.bool false)], args := [d1, d2] }
  | _ => none }
def FnExactThingReadWrongFalsely : Prop := fnExactThingReadRow.holds Tryd.pinned (OpenSpec.ofChange fnExactThingReadWrong)

/-- 'laws.FnExactReqWrite': WHATEVER THE INPUT: true; the input reads as it did. -/
def fnExactReqWriteSpec : ChangeSpec := { name := "fnExactReqWrite", vars := ["loop.example/muniment/impl.reqVerbs"], fn := fun _ => fun
  | [d, g1] => { results := [.lit (.bool true)], args := [d], vars := [g1] }
  | _ => none }
def fnExactReqWriteRow : OpenClaim := { program := "ythcndaeacjloaaadoor", sum := "c4e883d50db3043677d550cb96a9b467b20c78fa0cc22cc42c9773652057306d", func := "loop.example/muniment/laws.FnExactReqWrite", spec := "fnExactReqWrite", inPlace := ["internal/abi.NoEscape", "internal/bytealg.MakeNoZero"], unfollowed := true, recurses := true, named := ["loop.example/muniment/impl.reqVerbs"], apart := false, laid := [("loop.example/muniment/impl.reqVerbs", laid_loop_example_muniment_impl_reqVerbs)] }
def FnExactReqWriteSaid : Prop := fnExactReqWriteRow.holds Tryd.pinned (OpenSpec.ofChange fnExactReqWriteSpec)

/-- ITS FALSE NEIGHBOUR: 'it returns false'. Refute it at one input. -/
def fnExactReqWriteWrong : ChangeSpec := { name := "fnExactReqWrite", vars := ["loop.example/muniment/impl.reqVerbs"], fn := fun _ => fun
  | [d, g1] => { results := [.lit (.bool false)], args := [d], vars := [g1] }
  | _ => none }
def FnExactReqWriteWrongFalsely : Prop := fnExactReqWriteRow.holds Tryd.pinned (OpenSpec.ofChange fnExactReqWriteWrong)

/-- 'laws.FnExactReqRead': WHATEVER THE INPUT: true; the input reads as it did. -/
def fnExactReqReadSpec : ChangeSpec := { name := "fnExactReqRead", vars := ["loop.example/muniment/impl.reqVerbs"], fn := fun _ => fun
  | [d, g1] => { results := [.lit (.bool true)], args := [d], vars := [g1] }
  | _ => none }
def fnExactReqReadRow : OpenClaim := { program := "ythcndaeacjloaaadoor", sum := "c4e883d50db3043677d550cb96a9b467b20c78fa0cc22cc42c9773652057306d", func := "loop.example/muniment/laws.FnExactReqRead", spec := "fnExactReqRead", inPlace := ["internal/bytealg.IndexByteString", "internal/bytealg.IndexString", "internal/abi.NoEscape", "internal/bytealg.MakeNoZero"], unfollowed := true, recurses := true, named := ["loop.example/muniment/impl.reqVerbs", "internal/bytealg.MaxLen", "internal/strconv.uint64pow10", "math/bits.deBruijn32tab", "math/bits.deBruijn64tab"], apart := false, laid := [("math/bits.deBruijn32tab", laid_math_bits_deBruijn32tab), ("math/bits.deBruijn64tab", laid_math_bits_deBruijn64tab), ("internal/strconv.uint64pow10", laid_internal_strconv_uint64pow10), ("loop.example/muniment/impl.reqVerbs", laid_loop_example_muniment_impl_reqVerbs)] }
def FnExactReqReadSaid : Prop := fnExactReqReadRow.holds Tryd.pinned (OpenSpec.ofChange fnExactReqReadSpec)

/-- ITS FALSE NEIGHBOUR: 'it returns false'. Refute it at one input. -/
def fnExactReqReadWrong : ChangeSpec := { name := "fnExactReqRead", vars := ["loop.example/muniment/impl.reqVerbs"], fn := fun _ => fun
  | [d, g1] => { results := [.lit (.bool false)], args := [d], vars := [g1] }
  | _ => none }
def FnExactReqReadWrongFalsely : Prop := fnExactReqReadRow.holds Tryd.pinned (OpenSpec.ofChange fnExactReqReadWrong)

/- THE SECOND FORM. 'bulk': how many values and letters a reading holds, each counted each time it is reached (what is shared counts as often as it is met; a slice's spare places count too). A statement '..UptoSaid' is the law's where the arguments, and the package variables that the reading takes, are together of bulk at most 1048576: NARROWER than '..Said'. Prove '..Said' where nothing that the law and all that it calls make is longer than what came in: it says more and counts as full. Else prove '..UptoSaid'. A law counts once. -/
mutual
def uptoBulk {H : Type} : DataW H → Nat
  | .lit (.string bytes) => bytes.length + 1
  | .lit _ => 1
  | .nil => 1
  | .ptr d => uptoBulk d + 1
  | .slice elems spare => uptoBulkAll elems + uptoBulkAll spare + 1
  | .agg parts => uptoBulkAll parts + 1
  | .iface _ d => uptoBulk d + 1
  | .map entries => uptoBulkEntries entries + 1
  | .held _ => 1
def uptoBulkAll {H : Type} : List (DataW H) → Nat
  | [] => 0
  | d :: r => uptoBulk d + uptoBulkAll r
def uptoBulkEntries {H : Type} : List (Lit × DataW H) → Nat
  | [] => 0
  | x :: r => uptoBulkEntry x + uptoBulkEntries r
def uptoBulkEntry {H : Type} : Lit × DataW H → Nat
  | (.string bytes, d) => bytes.length + uptoBulk d + 1
  | (_, d) => uptoBulk d + 1
 end
def uptoSmall : (H : Type) → List (DataW H) → Bool := fun _ ds => decide (uptoBulkAll ds ≤ 1048576)
def OpenSpec.upto (s : _root_.Go.ChangeSpec) : _root_.Go.OpenSpec := { _root_.Go.OpenSpec.ofChange s with cond := some uptoSmall }

/-- 'laws.FnExactSpaceWrite', WHERE WHAT IT READS IS OF BULK AT MOST 1048576: true; the input reads as it did. -/
def fnExactSpaceWriteUptoRow : OpenClaim := { program := "ythcndaeacjloaaadoor", sum := "c4e883d50db3043677d550cb96a9b467b20c78fa0cc22cc42c9773652057306d", func := "loop.example/muniment/laws.FnExactSpaceWrite", spec := "fnExactSpaceWrite", recurses := true, named := ["internal/strconv.uint64pow10", "math/bits.deBruijn32tab", "math/bits.deBruijn64tab"], apart := false, laid := [("math/bits.deBruijn32tab", laid_math_bits_deBruijn32tab), ("math/bits.deBruijn64tab", laid_math_bits_deBruijn64tab), ("internal/strconv.uint64pow10", laid_internal_strconv_uint64pow10)], narrowed := true }
def FnExactSpaceWriteUptoSaid : Prop := fnExactSpaceWriteUptoRow.holds Tryd.pinned (OpenSpec.upto fnExactSpaceWriteSpec)

/-- 'laws.FnExactSpaceRead', WHERE WHAT IT READS IS OF BULK AT MOST 1048576: true; the input reads as it did. -/
def fnExactSpaceReadUptoRow : OpenClaim := { program := "ythcndaeacjloaaadoor", sum := "c4e883d50db3043677d550cb96a9b467b20c78fa0cc22cc42c9773652057306d", func := "loop.example/muniment/laws.FnExactSpaceRead", spec := "fnExactSpaceRead", inPlace := ["internal/bytealg.CountString", "internal/bytealg.IndexByteString", "internal/bytealg.IndexString"], recurses := true, named := ["unicode/utf8.first", "unicode/utf8.acceptRanges", "internal/bytealg.MaxLen", "internal/strconv.uint64pow10", "math/bits.deBruijn32tab", "math/bits.deBruijn64tab"], apart := false, laid := [("math/bits.deBruijn32tab", laid_math_bits_deBruijn32tab), ("math/bits.deBruijn64tab", laid_math_bits_deBruijn64tab), ("internal/strconv.uint64pow10", laid_internal_strconv_uint64pow10), ("unicode/utf8.acceptRanges", laid_unicode_utf8_acceptRanges), ("unicode/utf8.first", laid_unicode_utf8_first)], narrowed := true }
def FnExactSpaceReadUptoSaid : Prop := fnExactSpaceReadUptoRow.holds Tryd.pinned (OpenSpec.upto fnExactSpaceReadSpec)

/-- 'laws.FnExactThingWrite', WHERE WHAT IT READS IS OF BULK AT MOST 1048576: true; the input reads as it did. -/
def fnExactThingWriteUptoRow : OpenClaim := { program := "ythcndaeacjloaaadoor", sum := "c4e883d50db3043677d550cb96a9b467b20c78fa0cc22cc42c9773652057306d", func := "loop.example/muniment/laws.FnExactThingWrite", spec := "fnExactThingWrite", inPlace := ["internal/abi.NoEscape", "internal/bytealg.MakeNoZero"], unfollowed := true, recurses := true, named := ["internal/strconv.uint64pow10", "math/bits.deBruijn32tab", "math/bits.deBruijn64tab"], apart := false, laid := [("math/bits.deBruijn32tab", laid_math_bits_deBruijn32tab), ("math/bits.deBruijn64tab", laid_math_bits_deBruijn64tab), ("internal/strconv.uint64pow10", laid_internal_strconv_uint64pow10)], narrowed := true }
def FnExactThingWriteUptoSaid : Prop := fnExactThingWriteUptoRow.holds Tryd.pinned (OpenSpec.upto fnExactThingWriteSpec)

/-- 'laws.FnExactThingRead', WHERE WHAT IT READS IS OF BULK AT MOST 1048576: true; the input reads as it did. -/
def fnExactThingReadUptoRow : OpenClaim := { program := "ythcndaeacjloaaadoor", sum := "c4e883d50db3043677d550cb96a9b467b20c78fa0cc22cc42c9773652057306d", func := "loop.example/muniment/laws.FnExactThingRead", spec := "fnExactThingRead", inPlace := ["internal/bytealg.CountString", "internal/bytealg.IndexByteString", "internal/bytealg.IndexString", "internal/abi.NoEscape", "internal/bytealg.MakeNoZero"], unfollowed := true, recurses := true, named := ["unicode/utf8.first", "unicode/utf8.acceptRanges", "internal/bytealg.MaxLen", "internal/strconv.uint64pow10", "math/bits.deBruijn32tab", "math/bits.deBruijn64tab"], apart := false, laid := [("math/bits.deBruijn32tab", laid_math_bits_deBruijn32tab), ("math/bits.deBruijn64tab", laid_math_bits_deBruijn64tab), ("internal/strconv.uint64pow10", laid_internal_strconv_uint64pow10), ("unicode/utf8.acceptRanges", laid_unicode_utf8_acceptRanges), ("unicode/utf8.first", laid_unicode_utf8_first)], narrowed := true }
def FnExactThingReadUptoSaid : Prop := fnExactThingReadUptoRow.holds Tryd.pinned (OpenSpec.upto fnExactThingReadSpec)

/-- 'laws.FnExactReqWrite', WHERE WHAT IT READS IS OF BULK AT MOST 1048576: true; the input reads as it did. -/
def fnExactReqWriteUptoRow : OpenClaim := { program := "ythcndaeacjloaaadoor", sum := "c4e883d50db3043677d550cb96a9b467b20c78fa0cc22cc42c9773652057306d", func := "loop.example/muniment/laws.FnExactReqWrite", spec := "fnExactReqWrite", inPlace := ["internal/abi.NoEscape", "internal/bytealg.MakeNoZero"], unfollowed := true, recurses := true, named := ["loop.example/muniment/impl.reqVerbs"], apart := false, laid := [("loop.example/muniment/impl.reqVerbs", laid_loop_example_muniment_impl_reqVerbs)], narrowed := true }
def FnExactReqWriteUptoSaid : Prop := fnExactReqWriteUptoRow.holds Tryd.pinned (OpenSpec.upto fnExactReqWriteSpec)

/-- 'laws.FnExactReqRead', WHERE WHAT IT READS IS OF BULK AT MOST 1048576: true; the input reads as it did. -/
def fnExactReqReadUptoRow : OpenClaim := { program := "ythcndaeacjloaaadoor", sum := "c4e883d50db3043677d550cb96a9b467b20c78fa0cc22cc42c9773652057306d", func := "loop.example/muniment/laws.FnExactReqRead", spec := "fnExactReqRead", inPlace := ["internal/bytealg.IndexByteString", "internal/bytealg.IndexString", "internal/abi.NoEscape", "internal/bytealg.MakeNoZero"], unfollowed := true, recurses := true, named := ["loop.example/muniment/impl.reqVerbs", "internal/bytealg.MaxLen", "internal/strconv.uint64pow10", "math/bits.deBruijn32tab", "math/bits.deBruijn64tab"], apart := false, laid := [("math/bits.deBruijn32tab", laid_math_bits_deBruijn32tab), ("math/bits.deBruijn64tab", laid_math_bits_deBruijn64tab), ("internal/strconv.uint64pow10", laid_internal_strconv_uint64pow10), ("loop.example/muniment/impl.reqVerbs", laid_loop_example_muniment_impl_reqVerbs)], narrowed := true }
def FnExactReqReadUptoSaid : Prop := fnExactReqReadUptoRow.holds Tryd.pinned (OpenSpec.upto fnExactReqReadSpec)

end Rows
end Go.Proofs.YthcndaeacjloaaaDoor
