import Derived.Test.YtbioljpjpflboaaGreatDoorProg
import Derived.Test.YtbioljpjpflboaaGreatDoorBase
import Derived.WalkLawsBesides
/- markText writes a number behind the letter m. -/
namespace Go.Proofs.YtbioljpjpflboaaGreatDoor
open Go Go.RowKit

def digW (k : Nat) (acc : List UInt8) : List UInt8 := if k = 0 then acc else digW (k / 10) (UInt8.ofNat (48 + k % 10) :: acc)
termination_by k
decreasing_by omega

theorem digW_zero (acc : List UInt8) : digW 0 acc = acc := by rw [digW]; simp
theorem digW_pos {k : Nat} (h : k ≠ 0) (acc : List UInt8) : digW k acc = digW (k / 10) (UInt8.ofNat (48 + k % 10) :: acc) := by rw [digW, if_neg h]
theorem digW_len : ∀ (k : Nat) (acc : List UInt8), (digW k acc).length ≤ acc.length + k := by
  intro k
  induction k using Nat.strongRecOn with
  | ind k ih =>
    intro acc
    by_cases h : k = 0
    · subst h; rw [digW_zero]; omega
    · rw [digW_pos h]
      have := ih (k / 10) (by omega) (UInt8.ofNat (48 + k % 10) :: acc)
      simp only [List.length_cons] at this
      omega

def markB (k : Int) : ByteArray := if k ≤ 0 then ⟨#[109, 48]⟩ else ⟨(109 :: digW k.toNat []).toArray⟩

theorem markB_size (k : Int) (h : k ≤ 4611686018427387904) : (markB k).size ≤ maxLen := by
  unfold markB maxLen
  split
  · simp [ByteArray.size]
  · have := digW_len k.toNat []
    simp [ByteArray.size] at this ⊢
    omega

set_option maxRecDepth 100000 in
set_option maxHeartbeats 400000 in
theorem mark_any (k : Int) (w : World) (hk : k ≤ 4611686018427387904) :
    Calls Tryz.prog 48 #[.int .i64 k] w fun e w' => e = .returned (.string (markB k)) ∧ Below w.heap.size w w' := by
  by_cases h0 : k ≤ 0
  · have HM := Lib.hid (show markB k = ⟨#[109, 48]⟩ by simp [markB, h0])
    go_enter Tryz.func48, Tryz.ntmps48
    go_wp2
    go_ret
    exact ⟨by rw [HM.out]; rfl, Below.refl _ _⟩
  · obtain ⟨n, rfl⟩ := Int.eq_ofNat_of_zero_le (show 0 ≤ k by omega)
    have HM := Lib.hid (show markB n = ⟨(109 :: digW n []).toArray⟩ by simp [markB]; omega)
    have hn : (0 : Int) < (n : Int) := by omega
    clear h0
    go_enter Tryz.func48, Tryz.ntmps48
    go_wp2
    go_loopw [0, 3] (fun i s wr => ∃ (m : Nat) (o : List UInt8), i = .int .i64 m ∧ s = .string ⟨o.toArray⟩ ∧ digW m o = digW n [] ∧ o.length + m ≤ n ∧ Below w.heap.size w wr) (fun i _ _ => (intOf i).toNat)
    case atStart => exact ⟨n, [], rfl, rfl, rfl, by simp, Below.refl _ _⟩
    case round =>
      obtain ⟨m, o, rfl, rfl, hd, hlen, hbel⟩ := hrel
      have HD := Lib.hid hd
      clear hd
      by_cases hm : m = 0
      · subst hm
        have HO := Lib.hid (show o = digW n [] by rw [← HD.out, digW_zero])
        go_wp2
        go_ret
        exact ⟨ret_str (by rw [HM.out, ← HO.out]; apply bytes_ext; simp), hbel⟩
      · have hp : (0 : Int) < (m : Int) := by omega
        have hcv := conv_one (P := Tryz.prog) wr 64 9 5 (48 + (m : Int) % 10) Tryz.underlying64 Tryz.underlying5 Tryz.underlying9
        go_wp2
        go_roundw
        case rel =>
          refine ⟨m / 10, UInt8.ofNat (48 + m % 10) :: o, by go_num, ?_, by rw [← HD.out, digW_pos hm], by simp; omega, hbel.alloc hbel.size _⟩
          rw [cat_one]
          simp
        case measure => simp [intOf]; omega
end Go.Proofs.YtbioljpjpflboaaGreatDoor
