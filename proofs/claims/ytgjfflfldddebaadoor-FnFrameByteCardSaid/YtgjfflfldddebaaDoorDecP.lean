import Derived.Test.YtgjfflfldddebaaDoorDec
import Derived.Test.YtgjfflfldddebaaDoorNum
import Derived.Test.YtgjfflfldddebaaDoorCut
/- Decimals: of figures alone, without noughts ahead; two numbers have two. -/
namespace Go.Proofs.YtgjfflfldddebaaDoor
open Go Go.RowKit

abbrev decL (n : Nat) : List UInt8 := Lib.decDigits n
theorem decL_small {n : Nat} (h : n < 10) : decL n = [UInt8.ofNat (48 + n)] := Lib.decDigits_one h
theorem decL_next {n : Nat} (h : ¬ n < 10) : decL n = decL (n / 10) ++ [UInt8.ofNat (48 + n % 10)] := by
  conv => lhs; unfold decL; rw [Lib.decDigits, dif_neg h]
theorem digit_toNat {n : Nat} (h : n < 10) : (UInt8.ofNat (48 + n)).toNat = 48 + n := by simp; omega
theorem digB_of {n : Nat} (h : n < 10) : digB (UInt8.ofNat (48 + n)) = true := by
  unfold digB
  rw [digit_toNat h]
  exact decide_eq_true ⟨by omega, by omega⟩
theorem decL_dig (n : Nat) : (decL n).all digB = true := by
  induction n using Nat.strongRecOn with
  | ind n ih =>
    by_cases h : n < 10
    · rw [decL_small h, List.all_cons, digB_of h]; rfl
    · rw [decL_next h, List.all_append, ih (n / 10) (by omega), List.all_cons, digB_of (show n % 10 < 10 by omega)]; rfl
theorem decL_num (n : Nat) : numV (decL n) = n := by
  induction n using Nat.strongRecOn with
  | ind n ih =>
    by_cases h : n < 10
    · rw [decL_small h]
      have := digit_toNat h
      show 0 * 10 + ((UInt8.ofNat (48 + n)).toNat - 48) = n
      omega
    · rw [decL_next h, numV_snoc, ih (n / 10) (by omega), digit_toNat (show n % 10 < 10 by omega)]
      omega
theorem decL_inj {m n : Nat} (h : decL m = decL n) : m = n := by rw [← decL_num m, h, decL_num]
theorem decL_pos (n : Nat) : 0 < (decL n).length := by
  by_cases h : n < 10
  · rw [decL_small h]; simp
  · rw [decL_next h]; simp
theorem decL_len (k : Nat) : ∀ n, n < 10 ^ (k + 1) → (decL n).length ≤ k + 1 := by
  induction k with
  | zero => intro n h; rw [decL_small (by simpa using h)]; simp
  | succ k ih =>
    intro n h
    by_cases h9 : n < 10
    · rw [decL_small h9]; simp
    · rw [decL_next h9, List.length_append]
      have := ih (n / 10) (by rw [Nat.pow_succ] at h; omega)
      simp only [List.length_cons, List.length_nil]
      omega
theorem decL_lead (n : Nat) (h : 1 < (decL n).length) : (decL n)[0]? ≠ some 48 := by
  induction n using Nat.strongRecOn with
  | ind n ih =>
    by_cases h9 : n < 10
    · rw [decL_small h9] at h; simp at h
    · rw [decL_next h9, List.getElem?_append_left (decL_pos _)]
      by_cases h10 : n / 10 < 10
      · rw [decL_small h10]
        intro e
        simp only [List.getElem?_cons_zero, Option.some.injEq] at e
        have := congrArg UInt8.toNat e
        rw [digit_toNat h10] at this
        have h48 : (48 : UInt8).toNat = 48 := rfl
        omega
      · refine ih (n / 10) (by omega) ?_
        rw [decL_next h10, List.length_append]
        have := decL_pos (n / 10 / 10)
        simp only [List.length_cons, List.length_nil]
        omega
theorem decL_ok {n : Nat} (h : n < 100000000) : numOk (decL n) = true := by
  have h1 := decL_len 7 n (by omega)
  have h2 := decL_pos n
  have h3 := decL_dig n
  have h4 := decL_lead n
  unfold numOk
  simp only [Bool.and_eq_true, decide_eq_true_eq, Bool.not_eq_true', decide_eq_false_iff_not]
  exact ⟨⟨⟨by omega, by omega⟩, fun ⟨a, b⟩ => h4 a b⟩, h3⟩
theorem dig_ne {c d : UInt8} (h : digB c = true) (hd : digB d = false) : c ≠ d := by intro e; subst e; rw [h] at hd; cases hd
/-- what stands ahead of the first byte that is no figure -/
theorem dig_split {a b x y : List UInt8} {d : UInt8} (hd : digB d = false) (ha : a.all digB = true) (hb : b.all digB = true) (h : a ++ d :: x = b ++ d :: y) : a = b ∧ x = y := by
  induction a generalizing b with
  | nil =>
    cases b with
    | nil => simp at h; exact ⟨rfl, h⟩
    | cons c b =>
      rw [List.all_cons, Bool.and_eq_true] at hb
      simp only [List.nil_append, List.cons_append, List.cons.injEq] at h
      exact absurd h.1.symm (dig_ne hb.1 hd)
  | cons c a ih =>
    rw [List.all_cons, Bool.and_eq_true] at ha
    cases b with
    | nil =>
      simp only [List.nil_append, List.cons_append, List.cons.injEq] at h
      exact absurd h.1 (dig_ne ha.1 hd)
    | cons c' b =>
      rw [List.all_cons, Bool.and_eq_true] at hb
      simp only [List.cons_append, List.cons.injEq] at h
      obtain ⟨e1, e2⟩ := ih ha.2 hb.2 h.2
      exact ⟨by rw [h.1, e1], e2⟩
theorem colon_dig {a x : List UInt8} (ha : a.all digB = true) : colon (a ++ 58 :: x) = a.length := by
  induction a with
  | nil => simp [colon]
  | cons c a ih =>
    rw [List.all_cons, Bool.and_eq_true] at ha
    have : c ≠ 58 := dig_ne ha.1 (by decide)
    simp [colon, this, ih ha.2]
end Go.Proofs.YtgjfflfldddebaaDoor
