import Derived.Test.YtfekpbkcidhbfaaDoorProg
import Derived.Test.YtfekpbkcidhbfaaDoorBase
import Derived.WalkLawsBesides
/- markText writes a number behind the letter m. -/
namespace Go.Proofs.YtfekpbkcidhbfaaDoor
open Go Go.RowKit

def digW (k : Nat) (acc : List UInt8) : List UInt8 := if k = 0 then acc else digW (k / 10) (UInt8.ofNat (48 + k % 10) :: acc)
termination_by k
decreasing_by omega

theorem digW_zero (acc : List UInt8) : digW 0 acc = acc := by rw [digW]; simp
theorem digW_pos {k : Nat} (h : k ≠ 0) (acc : List UInt8) : digW k acc = digW (k / 10) (UInt8.ofNat (48 + k % 10) :: acc) := by rw [digW, if_neg h]
theorem digW_len : ∀ (k : Nat) (acc : List UInt8), (digW k acc).length ≤ acc.length + k := by
  intro k
  induction k using Nat.strongRecOn with
  | ind k ih =>
    intro acc
    by_cases h : k = 0
    · subst h; rw [digW_zero]; omega
    · rw [digW_pos h]
      have := ih (k / 10) (by omega) (UInt8.ofNat (48 + k % 10) :: acc)
      simp only [List.length_cons] at this
      omega

def markB (k : Int) : ByteArray := if k ≤ 0 then ⟨#[109, 48]⟩ else ⟨(109 :: digW k.toNat []).toArray⟩

theorem markB_size (k : Int) (h : k ≤ 4611686018427387904) : (markB k).size ≤ maxLen := by
  unfold markB maxLen
  split
  · simp [ByteArray.size]
  · have := digW_len k.toNat []
    simp [ByteArray.size] at this ⊢
    omega

end Go.Proofs.YtfekpbkcidhbfaaDoor
