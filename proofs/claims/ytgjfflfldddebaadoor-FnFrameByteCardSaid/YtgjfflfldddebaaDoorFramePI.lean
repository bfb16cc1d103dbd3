import Derived.Test.YtgjfflfldddebaaDoorFramePutS
/- How great the blocks are. -/
namespace Go.Proofs.YtgjfflfldddebaaDoor
open Go Go.RowKit

theorem putI_small (t n : Int) (x : ByteArray) : (putI t n x).length ≤ 15 ∧ ∀ y ∈ putI t n x, y.size ≤ 200 := by
  cases h : frameOkB t n x with
  | false => rw [putI_no h]; simp
  | true =>
    rw [putI_yes h]
    simp only [frameOkB, inB, Bool.and_eq_true, decide_eq_true_eq] at h
    obtain ⟨⟨⟨h1, h2⟩, h3, h4⟩, h5⟩ := h
    have hp := parts_le h5
    refine ⟨by rw [putB_len]; exact hp, fun y hy => ?_⟩
    obtain ⟨i, hi, rfl⟩ := List.getElem_of_mem hy
    rw [putB_get]
    rw [putB_len] at hi
    have := blockB_size (show t.toNat < 100000000 by omega) (show n.toNat < 100000000 by omega) (show i < 100 by omega) (show partsN x.size < 100 by omega) (pieceB x i) x
    have : (pieceB x i).size ≤ 140 := by unfold pieceB; rw [ByteArray.size_extract]; omega
    omega
theorem putI_none {t n : Int} {x : ByteArray} (h : frameOkB t n x = true) : 1 ≤ (putI t n x).length := by
  rw [putI_yes h, putB_len]
  exact parts_pos _
end Go.Proofs.YtgjfflfldddebaaDoor
