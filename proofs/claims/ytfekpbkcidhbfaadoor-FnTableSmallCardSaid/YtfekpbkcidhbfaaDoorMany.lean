import Derived.Test.YtfekpbkcidhbfaaDoorPick
import Derived.Handy
/- l1Many: a text so many times. -/
namespace Go.Proofs.YtfekpbkcidhbfaaDoor
open Go Go.RowKit

set_option maxHeartbeats 400000 in
theorem many_any (s : ByteArray) (n : Nat) (w : World) (hs : s.size ≤ 1048576) (hn : n ≤ 1048576) :
    Calls Tryd.prog 58 #[.string s, .int .i64 n] w fun e w' => (∃ t : ByteArray, t.size = s.size * n ∧ e = .returned (.string t)) ∧ w = w' := by
  have hm : s.size * n ≤ 1099511627776 := Nat.le_trans (Nat.mul_le_mul hs hn) (by omega)
  obtain ⟨T, hT⟩ : ∃ T, T = s.size * n := ⟨_, rfl⟩
  rw [← hT] at hm
  have HT := Lib.hid hT
  clear hT
  go_enter Tryd.func58, Tryd.ntmps58
  go_wp2
  go_loop [5, 0, 1] (fun v5 v0 v1 => ∃ (out t : ByteArray) (k : Nat), v5 = .string out ∧ v0 = .string t ∧ v1 = .int .i64 k ∧ out.size + t.size * k = T ∧ k ≤ 1048576 ∧ (k = 0 ∨ t.size ≤ T)) (fun _ _ v1 => (intOf v1).toNat)
  case atStart =>
    refine ⟨⟨#[]⟩, s, n, rfl, rfl, rfl, by rw [HT.out, show (⟨#[]⟩ : ByteArray).size = 0 from rfl]; omega, hn, ?_⟩
    rcases Nat.eq_zero_or_pos n with h | h
    · exact .inl h
    · exact .inr (by rw [HT.out]; exact Nat.le_mul_of_pos_right _ h)
  case round =>
    obtain ⟨out, t, k, rfl, rfl, rfl, hsum, hk, hle⟩ := hrel
    by_cases h0 : k = 0
    · subst h0
      go_wp2
      go_ret
      exact ⟨⟨out, by rw [← HT.out]; simpa using hsum, rfl⟩, rfl⟩
    · have hle' : t.size ≤ T := hle.resolve_left h0
      have hso : out.size ≤ T := by omega
      have hpos : (0 : Int) < (k : Int) := by omega
      have hdiv : t.size * 2 * (k / 2) + t.size * (k % 2) = t.size * k := by rw [Nat.mul_assoc, ← Nat.mul_add, Nat.div_add_mod]
      have HV := Lib.hid hdiv
      have HS := Lib.hid hsum
      have HM := Lib.hid hle'
      clear hdiv hsum hle
      by_cases hodd : k % 2 = 1
      · have ho : ((k : Int) % 2 == 1) = true := by rw [beq_iff_eq]; omega
        have HO := Lib.hid hodd
        clear hodd h0
        go_wp2
        refine ⟨⟨out ++ t, t ++ t, k / 2, rfl, rfl, by go_num, ?_, by omega, ?_⟩, by simp [intOf]; omega⟩
        · have h1 := HV.out
          have h2 := HS.out
          rw [HO.out] at h1
          simp only [ByteArray.size_append]
          rw [← Nat.mul_two] at *
          omega
        · rcases Nat.eq_zero_or_pos (k / 2) with h | h
          · exact .inl h
          · refine .inr ?_
            have h1 := HV.out
            have h2 := HS.out
            have h3 : t.size * 2 ≤ t.size * 2 * (k / 2) := Nat.le_mul_of_pos_right _ h
            simp only [ByteArray.size_append]
            omega
      · have ho : ((k : Int) % 2 == 1) = false := by rw [beq_eq_false_iff_ne]; omega
        have HO := Lib.hid (show k % 2 = 0 by omega)
        clear hodd h0
        go_wp2
        refine ⟨⟨out, t ++ t, k / 2, rfl, rfl, by go_num, ?_, by omega, ?_⟩, by simp [intOf]; omega⟩
        · have h1 := HV.out
          have h2 := HS.out
          rw [HO.out] at h1
          simp only [ByteArray.size_append]
          rw [← Nat.mul_two] at *
          omega
        · rcases Nat.eq_zero_or_pos (k / 2) with h | h
          · exact .inl h
          · refine .inr ?_
            have h1 := HV.out
            have h2 := HS.out
            have h3 : t.size * 2 ≤ t.size * 2 * (k / 2) := Nat.le_mul_of_pos_right _ h
            simp only [ByteArray.size_append]
            omega
end Go.Proofs.YtfekpbkcidhbfaaDoor
