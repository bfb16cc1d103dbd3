import Derived.Test.YthbhgeifknkolaaDoorSpRdP
/- What is written of a space is read as it was, in plain words. -/
namespace Go.Proofs.YthbhgeifknkolaaDoor
open Go Go.RowKit

theorem decL_num (n : Nat) : numV (decL n) = n := by
  induction n using Nat.strongRecOn with
  | ind n ih =>
    by_cases h : n < 10
    · rw [decL_small h]
      have := digit_toNat h
      show 0 * 10 + ((UInt8.ofNat (48 + n)).toNat - 48) = n
      omega
    · rw [decL_next h, numV_snoc, ih (n / 10) (by omega), digit_toNat (show n % 10 < 10 by omega)]
      omega
theorem decL_inj {m n : Nat} (h : decL m = decL n) : m = n := by rw [← decL_num m, h, decL_num]
theorem decL_pos (n : Nat) : 0 < (decL n).length := by
  by_cases h : n < 10
  · rw [decL_small h]; simp
  · rw [decL_next h]; simp
theorem decL_len (k : Nat) : ∀ n, n < 10 ^ (k + 1) → (decL n).length ≤ k + 1 := by
  induction k with
  | zero => intro n h; rw [decL_small (by simpa using h)]; simp
  | succ k ih =>
    intro n h
    by_cases h9 : n < 10
    · rw [decL_small h9]; simp
    · rw [decL_next h9, List.length_append]
      have := ih (n / 10) (by rw [Nat.pow_succ] at h; omega)
      simp only [List.length_cons, List.length_nil]
      omega
theorem decL_lead (n : Nat) (h : 1 < (decL n).length) : (decL n)[0]? ≠ some 48 := by
  induction n using Nat.strongRecOn with
  | ind n ih =>
    by_cases h9 : n < 10
    · rw [decL_small h9] at h; simp at h
    · rw [decL_next h9, List.getElem?_append_left (decL_pos _)]
      by_cases h10 : n / 10 < 10
      · rw [decL_small h10]
        intro e
        simp only [List.getElem?_cons_zero, Option.some.injEq] at e
        have := congrArg UInt8.toNat e
        rw [digit_toNat h10] at this
        have h48 : (48 : UInt8).toNat = 48 := rfl
        omega
      · refine ih (n / 10) (by omega) ?_
        rw [decL_next h10, List.length_append]
        have := decL_pos (n / 10 / 10)
        simp only [List.length_cons, List.length_nil]
        omega
theorem decL_ok {n : Nat} (h : n < 100000000) : numOk (decL n) = true := by
  have h1 := decL_len 7 n (by omega)
  have h2 := decL_pos n
  have h3 := decL_dig n
  have h4 := decL_lead n
  unfold numOk
  simp only [Bool.and_eq_true, decide_eq_true_eq, Bool.not_eq_true', decide_eq_false_iff_not]
  exact ⟨⟨⟨by omega, by omega⟩, fun ⟨a, b⟩ => h4 a b⟩, h3⟩
theorem nameB_sizes0 {x : ByteArray} (h : nameB x.data.toList = true) : 1 ≤ x.size := by
  unfold nameB at h
  rw [Bool.and_eq_true] at h
  have h2 := of_decide_eq_true h.2
  have h3 := h2.1
  simpa using h3
theorem nameB_noSp {s : ByteArray} (h : nameB s.data.toList = true) : NoSp s := by
  unfold nameB at h
  rw [Bool.and_eq_true, List.all_eq_true] at h
  intro d hd e
  have := h.1 d hd
  rw [e] at this
  exact absurd this (by decide)
theorem nameB_ne {s : ByteArray} (h : nameB s.data.toList = true) : s ≠ ⟨#[45]⟩ := by
  intro e
  rw [e] at h
  exact absurd h (by decide)
theorem spOk_name {x : SpaceD} (h : spOk x = true) : x.2.1 = ⟨#[]⟩ ∨ nameB x.2.1.data.toList = true := by
  unfold spOk at h
  simp only [Bool.and_eq_true, Bool.or_eq_true, decide_eq_true_eq] at h
  exact h.1.1.1.1.2
theorem wordR_wordB {s : ByteArray} (h : s = ⟨#[]⟩ ∨ nameB s.data.toList = true) : wordR (wordB s) = s := by
  unfold wordR wordB
  rcases h with rfl | h
  · simp
  · have h1 := nameB_sizes0 h
    have h2 : s ≠ ⟨#[]⟩ := fun e => by rw [e] at h1; exact absurd h1 (by decide)
    rw [if_neg h2, if_neg (nameB_ne h)]
theorem goB_flagB (g : Bool) : goB (flagB g) = g := by
  unfold goB
  cases g <;> decide
theorem decI_data {n : Int} (h : 0 ≤ n) : (decI n).data.toList = decL n.toNat := by
  rw [decI_nat h]
  unfold decB
  simp
theorem numP_decI {n : Int} (h : 0 ≤ n) (h2 : n ≤ 99999) : numP (decI n).data.toList = n := by
  rw [decI_data h]
  have h3 := decL_ok (n := n.toNat) (by omega)
  rw [numP_yes h3, decL_num]
  omega
theorem limP_decI {n : Int} (h : -1 ≤ n) (h2 : n ≤ 99999) : limP (decI n) = n := by
  by_cases h0 : 0 ≤ n
  · unfold limP
    rw [if_neg (fun e => ?_)]
    · exact numP_decI h0 h2
    · have h3 : (decI n).data.toList = [45, 49] := by rw [e]
      rw [decI_data h0] at h3
      have h4 := decL_dig n.toNat
      rw [h3] at h4
      exact absurd h4 (by decide)
  · obtain rfl : n = -1 := by omega
    rw [decI_neg1]
    exact limP_yes
theorem pre_app (n : ByteArray) : preB (⟨#[115, 46]⟩ ++ n) = true ∧ (⟨#[115, 46]⟩ ++ n : ByteArray).extract 2 (⟨#[115, 46]⟩ ++ n : ByteArray).size = n := by
  have hz : (⟨#[115, 46]⟩ ++ n : ByteArray).size = 2 + n.size := by rw [ByteArray.size_append]; rfl
  have hd : (⟨#[115, 46]⟩ ++ n : ByteArray).data.toList = 115 :: 46 :: n.data.toList := by simp [ByteArray.data_append]
  refine ⟨?_, ?_⟩
  · unfold preB
    rw [Bool.and_eq_true, decide_eq_true_eq, decide_eq_true_eq]
    refine ⟨by omega, bytes_ext ?_⟩
    rw [Lib.extract_data, hd]
    simp
  · apply bytes_ext
    rw [Lib.extract_data, hd, hz]
    show (n.data.toList).take (2 + n.size - 2) = n.data.toList
    rw [List.take_of_length_le]
    simp
/-- what is written is read -/
theorem rdS_write {x : SpaceD} (h : spOk x = true) : rdS (⟨#[115, 46]⟩ ++ x.1) (swB x) = (x, true) := by
  obtain ⟨⟨l0, l1⟩, r0, r1⟩ := spOk_nums h
  have hn := spOk_name h
  have hno : NoSp x.2.1 := by
    rcases hn with e | e
    · rw [e]; unfold NoSp; decide
    · exact nameB_noSp e
  have hs : swB x = swL x := by unfold swB; rw [if_pos h]
  have hc := cuts_swL hno
  have hx : mkSp (⟨#[115, 46]⟩ ++ x.1) (wordB x.2.1) (decI x.2.2.1) (flagB x.2.2.2.1) (decI x.2.2.2.2) = x := by
    unfold mkSp
    rw [(pre_app x.1).2, wordR_wordB hn, limP_decI l0 l1, goB_flagB, numP_decI r0 r1]
  rw [hs]
  rw [rdS_yes hc (pre_app x.1).1 (by rw [hx, hs]), hx]
theorem rdS_not {x : SpaceD} (h : spOk x = false) : swB x = ⟨#[]⟩ ∧ rdS (⟨#[115, 46]⟩ ++ x.1) (swB x) = (zeroSp, false) := by
  have hs : swB x = ⟨#[]⟩ := by unfold swB; rw [if_neg (by rw [h]; simp)]
  exact ⟨hs, by rw [hs]; exact rdS_len (by rw [cuts_empty]; simp)⟩
/-- what was read is what is written -/
theorem rdS_back {key text : ByteArray} {x : SpaceD} (h : rdS key text = (x, true)) : swB x = text := by
  unfold rdS at h
  split at h
  · split at h
    · rename_i h1
      simp only [Prod.mk.injEq, and_true] at h
      rw [← h]
      exact h1.2
    · simp at h
  · simp at h
end Go.Proofs.YthbhgeifknkolaaDoor
