import Derived.Test.YtgjfflfldddebaaMarksS
import Derived.Test.YtgjfflfldddebaaSpaceS
import Derived.WalkSpells
/- Requests, of the specification. -/
namespace Go.Proofs.Ytgjfflfldddebaa
open Go Go.RowKit
set_option maxHeartbeats 1000000 in
theorem has1 (w : World) : Calls Try.prog 37 #[.int .i64 1] w fun e w' => e = .returned (.tuple #[.bool true, .bool true, .bool false]) ∧ w' = w := by
  go_enter Try.func37, Try.ntmps37
  go_wp2
  go_ret3
  exact ⟨rfl, rfl⟩
set_option maxHeartbeats 1000000 in
theorem has2 (w : World) : Calls Try.prog 37 #[.int .i64 2] w fun e w' => e = .returned (.tuple #[.bool false, .bool true, .bool false]) ∧ w' = w := by
  go_enter Try.func37, Try.ntmps37
  go_wp2
  go_ret3
  exact ⟨rfl, rfl⟩
set_option maxHeartbeats 1000000 in
theorem has3 (w : World) : Calls Try.prog 37 #[.int .i64 3] w fun e w' => e = .returned (.tuple #[.bool false, .bool false, .bool false]) ∧ w' = w := by
  go_enter Try.func37, Try.ntmps37
  go_wp2
  go_ret3
  exact ⟨rfl, rfl⟩
set_option maxHeartbeats 1000000 in
theorem has4 (w : World) : Calls Try.prog 37 #[.int .i64 4] w fun e w' => e = .returned (.tuple #[.bool true, .bool false, .bool true]) ∧ w' = w := by
  go_enter Try.func37, Try.ntmps37
  go_wp2
  go_ret3
  exact ⟨rfl, rfl⟩
set_option maxHeartbeats 1000000 in
theorem has5 (w : World) : Calls Try.prog 37 #[.int .i64 5] w fun e w' => e = .returned (.tuple #[.bool true, .bool true, .bool true]) ∧ w' = w := by
  go_enter Try.func37, Try.ntmps37
  go_wp2
  go_ret3
  exact ⟨rfl, rfl⟩
set_option maxHeartbeats 1000000 in
theorem has6 (w : World) : Calls Try.prog 37 #[.int .i64 6] w fun e w' => e = .returned (.tuple #[.bool true, .bool false, .bool true]) ∧ w' = w := by
  go_enter Try.func37, Try.ntmps37
  go_wp2
  go_ret3
  exact ⟨rfl, rfl⟩
set_option maxHeartbeats 1000000 in
theorem has7 (w : World) : Calls Try.prog 37 #[.int .i64 7] w fun e w' => e = .returned (.tuple #[.bool true, .bool false, .bool true]) ∧ w' = w := by
  go_enter Try.func37, Try.ntmps37
  go_wp2
  go_ret3
  exact ⟨rfl, rfl⟩
set_option maxHeartbeats 1000000 in
theorem has8 (w : World) : Calls Try.prog 37 #[.int .i64 8] w fun e w' => e = .returned (.tuple #[.bool true, .bool false, .bool false]) ∧ w' = w := by
  go_enter Try.func37, Try.ntmps37
  go_wp2
  go_ret3
  exact ⟨rfl, rfl⟩
set_option maxHeartbeats 1000000 in
theorem has9 (w : World) : Calls Try.prog 37 #[.int .i64 9] w fun e w' => e = .returned (.tuple #[.bool true, .bool false, .bool false]) ∧ w' = w := by
  go_enter Try.func37, Try.ntmps37
  go_wp2
  go_ret3
  exact ⟨rfl, rfl⟩
set_option maxHeartbeats 1000000 in
theorem has10 (w : World) : Calls Try.prog 37 #[.int .i64 10] w fun e w' => e = .returned (.tuple #[.bool false, .bool false, .bool false]) ∧ w' = w := by
  go_enter Try.func37, Try.ntmps37
  go_wp2
  go_ret3
  exact ⟨rfl, rfl⟩
set_option maxHeartbeats 1000000 in
theorem has11 (w : World) : Calls Try.prog 37 #[.int .i64 11] w fun e w' => e = .returned (.tuple #[.bool false, .bool true, .bool false]) ∧ w' = w := by
  go_enter Try.func37, Try.ntmps37
  go_wp2
  go_ret3
  exact ⟨rfl, rfl⟩
set_option maxHeartbeats 1000000 in
theorem has12 (w : World) : Calls Try.prog 37 #[.int .i64 12] w fun e w' => e = .returned (.tuple #[.bool false, .bool false, .bool false]) ∧ w' = w := by
  go_enter Try.func37, Try.ntmps37
  go_wp2
  go_ret3
  exact ⟨rfl, rfl⟩
end Go.Proofs.Ytgjfflfldddebaa
