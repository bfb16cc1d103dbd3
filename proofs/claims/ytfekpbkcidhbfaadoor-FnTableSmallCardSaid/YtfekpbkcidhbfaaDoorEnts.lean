import Derived.Test.YtfekpbkcidhbfaaDoorOrd
import Derived.Test.YtfekpbkcidhbfaaDoorIdx
/- Entries that are in order: EntriesOk of the program and of the specification. -/
namespace Go.Proofs.YtfekpbkcidhbfaaDoor
open Go Go.RowKit


theorem all_next {p : UInt8 → Bool} (s : ByteArray) (k : Nat) (h : k < s.size) (h0 : (s.data.toList.take k).all p = true) (h1 : p s[k] = true) :
    (s.data.toList.take (k + 1)).all p = true := by
  rw [List.take_succ_eq_append_getElem (by simpa using h), List.all_append, h0]
  have e : s.data.toList[k]'(by simpa using h) = s[k] := rfl
  simp [e, h1]
theorem all_not {p : UInt8 → Bool} (s : ByteArray) (k : Nat) (h : k < s.size) (h1 : p s[k] = false) : s.data.toList.all p = false := by
  have hm : s[k] ∈ s.data.toList := by
    have : s.data.toList[k]'(by simpa using h) = s[k] := rfl
    rw [← this]; exact List.getElem_mem _
  rw [List.all_eq_false]
  exact ⟨_, hm, by simp [h1]⟩
theorem all_end {p : UInt8 → Bool} (s : ByteArray) (k : Nat) (h : ¬ k < s.size) (h0 : (s.data.toList.take k).all p = true) : s.data.toList.all p = true := by
  rwa [List.take_of_length_le (by simp; omega)] at h0
theorem key_no (s : ByteArray) (k : Nat) (h : k < s.size) (h1 : keyC s[k] = false) : keyB s = false := by
  unfold keyB; rw [all_not s k h h1]; rfl
theorem key_end (s : ByteArray) (k : Nat) (h : ¬ k < s.size) (h0 : (s.data.toList.take k).all keyC = true) : keyB s = inB s.size 1 24 := by
  unfold keyB; rw [all_end s k h h0]; rfl
theorem val_no (s : ByteArray) (k : Nat) (h : k < s.size) (h1 : valC 32 s[k] = false) : valB s = false := by
  unfold valB; rw [all_not s k h h1]; rfl
theorem val_end (s : ByteArray) (k : Nat) (h : ¬ k < s.size) (h0 : (s.data.toList.take k).all (valC 32) = true) : valB s = decide ((s.size : Int) ≤ 80) := by
  unfold valB inB; rw [all_end s k h h0]; simp

set_option maxHeartbeats 400000 in
theorem specKey_any (s : ByteArray) (w : World) (hs : s.size ≤ maxLen) :
    Calls Tryd.prog 59 #[.string s] w fun e w' => e = .returned (.bool (keyB s)) ∧ w = w' := by
  unfold maxLen at hs
  go_enter Tryd.func59, Tryd.ntmps59
  go_wp2
  go_loop [3] (fun i => ∃ k : Nat, k ≤ s.size ∧ i = .int .i64 k ∧ (s.data.toList.take k).all keyC = true) (fun i => s.size - (intOf i).toNat)
  case atStart => exact ⟨0, Nat.zero_le _, rfl, rfl⟩
  case round =>
    obtain ⟨k, hk, rfl, hl⟩ := hrel
    have HL := Lib.hid hl
    clear hl
    by_cases hlt : k < s.size
    · cases hc : keyC s[k] with
      | false =>
        have HN := Lib.hid (key_no s k hlt hc)
        have hc' : (s[k].toNat : Int) < 46 ∨ 126 < (s[k].toNat : Int) ∨ (s[k].toNat : Int) = 58 := by simp only [keyC, decide_eq_false_iff_not] at hc; omega
        clear hc
        by_cases h1 : (s[k].toNat : Int) < 46
        · go_wp2
          go_ret
          exact ⟨ret_bool (by rw [HN.out]), rfl⟩
        · by_cases h2 : 126 < (s[k].toNat : Int)
          · go_wp2
            go_ret
            exact ⟨ret_bool (by rw [HN.out]), rfl⟩
          · have h3 : (s[k].toNat : Int) = 58 := by omega
            go_wp2
            go_ret
            exact ⟨ret_bool (by rw [HN.out]), rfl⟩
      | true =>
        have HC := Lib.hid hc
        have hc' : ¬ (s[k].toNat : Int) < 46 ∧ ¬ 126 < (s[k].toNat : Int) ∧ ¬ (s[k].toNat : Int) = 58 := by simp only [keyC, decide_eq_true_eq] at hc; omega
        obtain ⟨h1, h2, h3⟩ := hc'
        clear hc
        go_wp2
        go_round
        case rel => exact ⟨k + 1, by omega, by go_num, all_next s k hlt HL.out HC.out⟩
        case measure => simp [intOf]; omega
    · have HN := Lib.hid (key_end s k hlt HL.out)
      go_wp2_with (go_at_call 60; refine (in_any _ _ _ _).mono ?_; rintro e w' ⟨rfl, rfl⟩)
      go_ret
      exact ⟨ret_bool (by rw [HN.out]), rfl⟩

set_option maxHeartbeats 400000 in
theorem specValue_any (s : ByteArray) (w : World) (hs : s.size ≤ maxLen) :
    Calls Tryd.prog 61 #[.string s] w fun e w' => e = .returned (.bool (valB s)) ∧ w = w' := by
  unfold maxLen at hs
  go_enter Tryd.func61, Tryd.ntmps61
  go_wp2
  go_loop [3] (fun i => ∃ k : Nat, k ≤ s.size ∧ i = .int .i64 k ∧ (s.data.toList.take k).all (valC 32) = true) (fun i => s.size - (intOf i).toNat)
  case atStart => exact ⟨0, Nat.zero_le _, rfl, rfl⟩
  case round =>
    obtain ⟨k, hk, rfl, hl⟩ := hrel
    have HL := Lib.hid hl
    clear hl
    by_cases hlt : k < s.size
    · cases hc : valC 32 s[k] with
      | false =>
        have HN := Lib.hid (val_no s k hlt hc)
        have hc' : (s[k].toNat : Int) < 32 ∨ 126 < (s[k].toNat : Int) := by simp only [valC, decide_eq_false_iff_not] at hc; omega
        clear hc
        by_cases h1 : (s[k].toNat : Int) < 32
        · go_wp2
          go_ret
          exact ⟨ret_bool (by rw [HN.out]), rfl⟩
        · have h2 : 126 < (s[k].toNat : Int) := by omega
          go_wp2
          go_ret
          exact ⟨ret_bool (by rw [HN.out]), rfl⟩
      | true =>
        have HC := Lib.hid hc
        have hc' : ¬ (s[k].toNat : Int) < 32 ∧ ¬ 126 < (s[k].toNat : Int) := by simp only [valC, decide_eq_true_eq] at hc; omega
        obtain ⟨h1, h2⟩ := hc'
        clear hc
        go_wp2
        go_round
        case rel => exact ⟨k + 1, by omega, by go_num, all_next s k hlt HL.out HC.out⟩
        case measure => simp [intOf]; omega
    · have HN := Lib.hid (val_end s k hlt HL.out)
      go_wp2
      go_ret
      exact ⟨ret_bool (by rw [HN.out]), rfl⟩

theorem entB_eq (x0 : ByteArray) (x1 : Int) (x2 : Bool) (x3 : ByteArray) : entB (x0, x1, x2, x3) = (keyB x0 && inB x1 1 99999999 && valB x3 && (!x2 || decide (x3.size = 0))) := rfl
theorem toList_nil {s : ByteArray} (h : s.size = 0) : s.toList = [] := by
  rw [ByteArray.toList_eq]
  exact List.eq_nil_of_length_eq_zero (by simpa using h)
theorem toList_ne {s : ByteArray} (h : s.size ≠ 0) : s.toList ≠ [] := by
  rw [ByteArray.toList_eq]
  intro e
  have := congrArg List.length e
  rw [Array.length_toList] at this
  exact h this

set_option maxHeartbeats 400000 in
theorem specOk_any (x0 : ByteArray) (x1 : Int) (x2 : Bool) (x3 : ByteArray) (w : World) (s0 : x0.size ≤ maxLen) (s3 : x3.size ≤ maxLen) :
    Calls Tryd.prog 39 #[.agg #[.string x0, .int .i64 x1, .bool x2, .string x3]] w fun e w' => e = .returned (.bool (entB (x0, x1, x2, x3))) ∧ Below w.heap.size w w' := by
  rw [entB_eq]
  cases h0 : keyB x0 with
  | false =>
    go_enter Tryd.func39, Tryd.ntmps39
    go_wp2_with (go_at_call 59; refine (specKey_any _ _ s0).mono ?_; rintro e w' ⟨rfl, rfl⟩; rw [h0])
    go_ret
    exact ⟨rfl, (by repeat (first | exact Below.refl _ _ | (refine Below.alloc ?_ (by first | (simp; done) | (simp; omega)) _) | (refine Below.setCell ?_ (by first | (simp; done) | (simp; omega)) _) | (refine Below.drew ?_)))⟩
  | true =>
    cases h1 : inB x1 1 99999999 with
    | false =>
      go_enter Tryd.func39, Tryd.ntmps39
      go_wp2_with (first | (go_at_call 59; refine (specKey_any _ _ s0).mono ?_; rintro e w' ⟨rfl, rfl⟩; rw [h0]) | (go_at_call 60; refine (in_any _ _ _ _).mono ?_; rintro e w' ⟨rfl, rfl⟩; rw [h1]))
      go_ret
      exact ⟨rfl, (by repeat (first | exact Below.refl _ _ | (refine Below.alloc ?_ (by first | (simp; done) | (simp; omega)) _) | (refine Below.setCell ?_ (by first | (simp; done) | (simp; omega)) _) | (refine Below.drew ?_)))⟩
    | true =>
      cases h2 : valB x3 with
      | false =>
        go_enter Tryd.func39, Tryd.ntmps39
        go_wp2_with (first | (go_at_call 59; refine (specKey_any _ _ s0).mono ?_; rintro e w' ⟨rfl, rfl⟩; rw [h0]) | (go_at_call 60; refine (in_any _ _ _ _).mono ?_; rintro e w' ⟨rfl, rfl⟩; rw [h1]) | (go_at_call 61; refine (specValue_any _ _ s3).mono ?_; rintro e w' ⟨rfl, rfl⟩; rw [h2]))
        go_ret
        exact ⟨rfl, (by repeat (first | exact Below.refl _ _ | (refine Below.alloc ?_ (by first | (simp; done) | (simp; omega)) _) | (refine Below.setCell ?_ (by first | (simp; done) | (simp; omega)) _) | (refine Below.drew ?_)))⟩
      | true =>
        cases x2 with
        | false =>
          go_enter Tryd.func39, Tryd.ntmps39
          go_wp2_with (first | (go_at_call 59; refine (specKey_any _ _ s0).mono ?_; rintro e w' ⟨rfl, rfl⟩; rw [h0]) | (go_at_call 60; refine (in_any _ _ _ _).mono ?_; rintro e w' ⟨rfl, rfl⟩; rw [h1]) | (go_at_call 61; refine (specValue_any _ _ s3).mono ?_; rintro e w' ⟨rfl, rfl⟩; rw [h2]))
          go_ret
          exact ⟨rfl, (by repeat (first | exact Below.refl _ _ | (refine Below.alloc ?_ (by first | (simp; done) | (simp; omega)) _) | (refine Below.setCell ?_ (by first | (simp; done) | (simp; omega)) _) | (refine Below.drew ?_)))⟩
        | true =>
          by_cases h3 : x3.size = 0
          · have g3 := toList_nil h3
            have HN := Lib.hid (decide_eq_true h3)
            go_enter Tryd.func39, Tryd.ntmps39
            go_wp2_with (first | (go_at_call 59; refine (specKey_any _ _ s0).mono ?_; rintro e w' ⟨rfl, rfl⟩; rw [h0]) | (go_at_call 60; refine (in_any _ _ _ _).mono ?_; rintro e w' ⟨rfl, rfl⟩; rw [h1]) | (go_at_call 61; refine (specValue_any _ _ s3).mono ?_; rintro e w' ⟨rfl, rfl⟩; rw [h2]))
            go_ret
            exact ⟨ret_bool (by rw [HN.out]; simp), (by repeat (first | exact Below.refl _ _ | (refine Below.alloc ?_ (by first | (simp; done) | (simp; omega)) _) | (refine Below.setCell ?_ (by first | (simp; done) | (simp; omega)) _) | (refine Below.drew ?_)))⟩
          · have g3 := toList_ne h3
            have HN := Lib.hid (decide_eq_false h3)
            go_enter Tryd.func39, Tryd.ntmps39
            go_wp2_with (first | (go_at_call 59; refine (specKey_any _ _ s0).mono ?_; rintro e w' ⟨rfl, rfl⟩; rw [h0]) | (go_at_call 60; refine (in_any _ _ _ _).mono ?_; rintro e w' ⟨rfl, rfl⟩; rw [h1]) | (go_at_call 61; refine (specValue_any _ _ s3).mono ?_; rintro e w' ⟨rfl, rfl⟩; rw [h2]))
            go_ret
            exact ⟨ret_bool (by rw [HN.out]; simpa using g3), (by repeat (first | exact Below.refl _ _ | (refine Below.alloc ?_ (by first | (simp; done) | (simp; omega)) _) | (refine Below.setCell ?_ (by first | (simp; done) | (simp; omega)) _) | (refine Below.drew ?_)))⟩
end Go.Proofs.YtfekpbkcidhbfaaDoor
