import Derived.Test.YtbioljpjpflboaaGreatDoorProg
import Derived.Test.YtbioljpjpflboaaGreatDoorBase
/- l1In of the model: a number between two others. -/
namespace Go.Proofs.YtbioljpjpflboaaGreatDoor
open Go Go.RowKit

/-- n is from a to b -/
def inB (n a b : Int) : Bool := decide (a ≤ n ∧ n ≤ b)
theorem in_any (n a b : Int) (w : World) :
    Calls Tryz.prog 53 #[.int .i64 n, .int .i64 a, .int .i64 b] w fun e w' => e = .returned (.bool (inB n a b)) ∧ w = w' := by
  by_cases h1 : a ≤ n
  · go_enter Tryz.func53, Tryz.ntmps53
    go_wp2
    all_goals
      go_ret
      exact ⟨ret_bool (by simp [inB, h1]), rfl⟩
  · go_enter Tryz.func53, Tryz.ntmps53
    go_wp2
    go_ret
    exact ⟨ret_bool (by simp [inB]; omega), rfl⟩

end Go.Proofs.YtbioljpjpflboaaGreatDoor
