import Derived.Test.YtbioljpjpflboaaGreatDoorProg
import Derived.Test.YtbioljpjpflboaaGreatDoorBase
/- szStringS takes of a number what a list of strings holds. -/
namespace Go.Proofs.YtbioljpjpflboaaGreatDoor
open Go Go.RowKit

set_option maxHeartbeats 400000 in
theorem szStr_any (a : Option Addr) (ca : Nat) (l : List ByteArray) (left : Int) (w : World) (h0 : 0 ≤ left) (h1 : left ≤ 1048576) (hl : StrS w a l) :
    Calls Tryz.prog 87 #[.slice a l.length ca, .int .i64 left] w fun e w' => e = .returned (.int .i64 (szR left (bulkS l))) ∧ w = w' := by
  obtain ⟨hl1, hsz, hl⟩ := hl
  unfold maxLen at hl1
  by_cases hlen : left < (l.length : Int)
  · have HR := Lib.hid (show szR left (bulkS l) = -1 by apply szR_no; unfold bulkS; omega)
    go_enter Tryz.func87, Tryz.ntmps87
    go_wp2
    go_ret
    exact ⟨ret_int (by rw [HR.out]), rfl⟩
  · have hle : (l.length : Int) ≤ left := by omega
    clear hlen
    rcases hl with rfl | ⟨ba, oa, rfl, hca⟩
    · go_enter Tryz.func87, Tryz.ntmps87
      go_wp2
      refine wp_loop_rounds 1 ?_
      rw [rounds_succ]
      go_wp2
      go_ret
      exact ⟨ret_int (by rw [szR_yes (by simpa [bulkS, sumSize] using h0)]; simp [bulkS, sumSize]), rfl⟩
    · go_enter Tryz.func87, Tryz.ntmps87
      go_wp2
      go_loop [1, 5] (fun r i => ∃ k : Nat, k ≤ l.length ∧ i = .int .i64 k ∧ r = .int .i64 (left - l.length - sumSize (l.take k)) ∧ (sumSize (l.take k) : Int) ≤ left - l.length) (fun _ i => l.length - (intOf i).toNat)
      case atStart => exact ⟨0, Nat.zero_le _, rfl, by simp [sumSize], by simp [sumSize]; omega⟩
      case round =>
        obtain ⟨k, hk, rfl, rfl, hs⟩ := hrel
        by_cases hlt : k < l.length
        · have c1 := hca k hlt
          have hz : l[k].size ≤ 9223372036854775807 := by have := hsz l[k] (List.getElem_mem _); unfold maxLen at this; omega
          have HS := Lib.hid (sumSize_take l k hlt)
          have hle2 := sumSize_le l (k + 1)
          by_cases hbig : left - l.length - sumSize (l.take k) - l[k].size < 0
          · have HR := Lib.hid (show szR left (bulkS l) = -1 by apply szR_no; rw [HS.out] at hle2; unfold bulkS; omega)
            clear hle2
            go_wp2
            go_ret
            exact ⟨ret_int (by rw [HR.out]), rfl⟩
          · clear hle2
            have hge : 0 ≤ left - l.length - sumSize (l.take k) - l[k].size := by omega
            go_wp2
            go_round
            case rel => exact ⟨k + 1, by omega, by go_num, by rw [HS.out]; go_num, by rw [HS.out]; omega⟩
            case measure => simp [intOf]; omega
        · have HS := Lib.hid (sumSize_full l k (by omega))
          go_wp2
          go_ret
          exact ⟨ret_int (by rw [HS.out] at hs ⊢; rw [szR_yes (by unfold bulkS; omega)]; unfold bulkS; omega), rfl⟩
end Go.Proofs.YtbioljpjpflboaaGreatDoor
