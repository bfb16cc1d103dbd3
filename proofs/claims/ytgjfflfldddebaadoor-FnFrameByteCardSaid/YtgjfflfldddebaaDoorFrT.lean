import Derived.Test.YtgjfflfldddebaaDoorFrameB
/- What an integer argument is bounded by. -/
namespace Go.Proofs.YtgjfflfldddebaaDoor
open Go Go.RowKit

theorem i64_bounds {n : Int} (h : (Lit.int .i64 n).wf = true) : -9223372036854775808 ≤ n ∧ n ≤ 9223372036854775807 := by
  simp only [Lit.wf, Bool.and_eq_true, decide_eq_true_eq] at h
  have h1 : IntKind.i64.min = -9223372036854775808 := by decide
  have h2 : IntKind.i64.max = 9223372036854775807 := by decide
  omega
end Go.Proofs.YtgjfflfldddebaaDoor
