import Derived.Test.YtbioljpjpflboaaGreatDoorIn
import Derived.WalkKit
import Derived.Lib.Hide
/- NameOk of the program and of the specification: both answer whether a text is 1 to 6 bytes from a to z. -/
namespace Go.Proofs.YtbioljpjpflboaaGreatDoor
open Go Go.RowKit


/-- a byte from a to z -/
def low (c : UInt8) : Bool := decide (97 ≤ (c.toNat : Int) ∧ (c.toNat : Int) ≤ 122)

def nameB (l : List UInt8) : Bool := l.all low && decide (1 ≤ l.length ∧ l.length ≤ 6)

theorem all_succ (s : ByteArray) (k : Nat) (h : k < s.size) (h0 : (s.data.toList.take k).all low = true) (h1 : 97 ≤ (s[k].toNat : Int)) (h2 : (s[k].toNat : Int) ≤ 122) :
    (s.data.toList.take (k + 1)).all low = true := by
  rw [List.take_succ_eq_append_getElem (by simpa using h), List.all_append, h0]
  have e : s.data.toList[k]'(by simpa using h) = s[k] := rfl
  simp [e, low, h1, h2]

theorem all_no (s : ByteArray) (k : Nat) (h : k < s.size) (h1 : (s[k].toNat : Int) < 97 ∨ 122 < (s[k].toNat : Int)) : nameB s.data.toList = false := by
  have hm : s[k] ∈ s.data.toList := by
    have : s.data.toList[k]'(by simpa using h) = s[k] := rfl
    rw [← this]; exact List.getElem_mem _
  have : s.data.toList.all low = false := by
    rw [List.all_eq_false]
    exact ⟨_, hm, by simp [low]; omega⟩
  simp [nameB, this]

theorem all_yes (s : ByteArray) (k : Nat) (h : ¬ k < s.size) (h0 : (s.data.toList.take k).all low = true) : nameB s.data.toList = inB s.size 1 6 := by
  rw [List.take_of_length_le (by simp; omega)] at h0
  simp only [nameB, inB, h0, Bool.true_and]
  have : s.data.toList.length = s.size := by simp
  rw [this]
  congr 1
  simp; omega

set_option maxHeartbeats 400000 in
theorem spec_name (s : ByteArray) (w : World) (hs : s.size ≤ maxLen) :
    Calls Tryz.prog 93 #[.string s] w fun e w' => e = .returned (.bool (nameB s.data.toList)) ∧ w = w' := by
  unfold maxLen at hs
  go_enter Tryz.func93, Tryz.ntmps93
  go_wp2
  go_loop [3] (fun i => ∃ k : Nat, k ≤ s.size ∧ i = .int .i64 k ∧ (s.data.toList.take k).all low = true) (fun i => s.size - (intOf i).toNat)
  case atStart => exact ⟨0, Nat.zero_le _, rfl, rfl⟩
  case round =>
    obtain ⟨k, hk, rfl, hl⟩ := hrel
    have HL := Lib.hid hl
    clear hl
    by_cases hlt : k < s.size
    · by_cases h1 : (s[k].toNat : Int) < 97
      · go_wp2
        go_ret
        exact ⟨ret_bool (by rw [all_no s k hlt (.inl h1)]), rfl⟩
      · by_cases h2 : 122 < (s[k].toNat : Int)
        · go_wp2
          go_ret
          exact ⟨ret_bool (by rw [all_no s k hlt (.inr h2)]), rfl⟩
        · go_wp2
          go_round
          case rel => exact ⟨k + 1, by omega, by go_num, all_succ s k hlt HL.out (by omega) (by omega)⟩
          case measure => simp [intOf]; omega
    · go_wp2_with (go_at_call 53; refine (in_any _ _ _ _).mono ?_; rintro e w' ⟨rfl, rfl⟩)
      go_ret
      exact ⟨ret_bool (by rw [all_yes s k hlt HL.out]), rfl⟩

set_option maxHeartbeats 400000 in
theorem impl_name (s : ByteArray) (w : World) (hs : s.size ≤ maxLen) :
    Calls Tryz.prog 85 #[.string s] w fun e w' => e = .returned (.bool (nameB s.data.toList)) ∧ w = w' := by
  unfold maxLen at hs
  have hd : s.toList = s.data.toList := ByteArray.toList_eq s
  have hlen : s.data.toList.length = s.size := by simp
  by_cases he : s.size = 0
  · have h0 : s.data.toList = [] := List.eq_nil_of_length_eq_zero (by omega)
    have h1 : s.toList = [] := by rw [hd, h0]
    have HN := Lib.hid (show nameB s.data.toList = false by rw [h0]; rfl)
    clear hd h0 hlen he
    go_enter Tryz.func85, Tryz.ntmps85
    go_wp2
    go_ret
    exact ⟨ret_bool (by rw [HN.out]), rfl⟩
  · have hp : 0 < s.size := by omega
    have h0 : s.data.toList ≠ [] := fun h => by simp [h] at hlen; omega
    have h1 : ¬ s.toList = [] := by rw [hd]; exact h0
    have h2 : s.toList.isEmpty = false := by simpa using h1
    clear hd h0 he
    by_cases hb : 6 < s.size
    · have hbi : (6 : Int) < (s.size : Int) := by omega
      have HN := Lib.hid (show nameB s.data.toList = false by simp [nameB]; omega)
      clear hlen
      go_enter Tryz.func85, Tryz.ntmps85
      go_wp2
      go_ret
      exact ⟨ret_bool (by rw [HN.out]), rfl⟩
    · have hbi : (s.size : Int) ≤ 6 := by omega
      clear hlen
      go_enter Tryz.func85, Tryz.ntmps85
      go_wp2
      go_loop [13] (fun i => ∃ k : Nat, k ≤ s.size ∧ i = .int .i64 k ∧ (s.data.toList.take k).all low = true) (fun i => s.size - (intOf i).toNat)
      case atStart => exact ⟨0, Nat.zero_le _, rfl, rfl⟩
      case round =>
        obtain ⟨k, hk, rfl, hl⟩ := hrel
        have HL := Lib.hid hl
        clear hl
        by_cases hlt : k < s.size
        · by_cases h1 : (s[k].toNat : Int) < 97
          · go_wp2
            go_ret
            exact ⟨ret_bool (by rw [all_no s k hlt (.inl h1)]), rfl⟩
          · by_cases h2 : 122 < (s[k].toNat : Int)
            · go_wp2
              go_ret
              exact ⟨ret_bool (by rw [all_no s k hlt (.inr h2)]), rfl⟩
            · go_wp2
              go_round
              case rel => exact ⟨k + 1, by omega, by go_num, all_succ s k hlt HL.out (by omega) (by omega)⟩
              case measure => simp [intOf]; omega
        · go_wp2
          go_ret
          exact ⟨ret_bool (by rw [all_yes s k hlt HL.out]; simp [inB]; omega), rfl⟩
end Go.Proofs.YtbioljpjpflboaaGreatDoor
