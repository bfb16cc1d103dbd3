import Derived.Test.YtfekpbkcidhbfaaDoorDec
import Derived.Test.YtfekpbkcidhbfaaDoorShelf
import Derived.Test.YtfekpbkcidhbfaaDoorItoa
import Derived.Lib.ItoaLen
import Derived.Lib.ItoaMem
/- Numbers and words as the texts of spaces, things and requests have them. -/
namespace Go.Proofs.YtfekpbkcidhbfaaDoor
open Go Go.RowKit

def decI (n : Int) : ByteArray := ⟨(Lib.itoa n).toArray⟩
theorem decI_nat {n : Int} (h : 0 ≤ n) : decI n = decB n.toNat := by
  unfold decI decB Lib.itoa
  rw [if_neg (by omega)]
theorem decI_neg1 : decI (-1) = ⟨#[45, 49]⟩ := by
  apply bytes_ext
  have h : Lib.itoa (-1) = [45, 49] := by
    unfold Lib.itoa
    rw [if_pos (by omega), show (-1 : Int).natAbs = 1 from rfl, Lib.decDigits_one (by omega)]
    rfl
  unfold decI
  rw [h]
theorem decI_size {n : Int} (h0 : -9223372036854775808 ≤ n) (h1 : n ≤ 9223372036854775807) : (decI n).size ≤ 21 := by
  have := Lib.itoa_length_le n h0 h1
  show (Lib.itoa n).toArray.size ≤ 21
  rw [List.size_toArray]
  exact this
def flagB (g : Bool) : ByteArray := if g then ⟨#[103, 111, 105, 110, 103]⟩ else ⟨#[104, 101, 114, 101]⟩
theorem flagB_size (g : Bool) : (flagB g).size ≤ 5 := by cases g <;> decide
/-- a word, a stroke for none -/
def wordB (s : ByteArray) : ByteArray := if s = ⟨#[]⟩ then ⟨#[45]⟩ else s
theorem wordB_size (s : ByteArray) : (wordB s).size ≤ s.size + 1 := by
  unfold wordB
  split
  · show 1 ≤ _; omega
  · omega
theorem decS_any {n : Int} (h0 : -1 ≤ n) (h1 : n ≤ 9223372036854775807) (w : World) : Calls Tryd.prog 26 #[.int .i64 n] w fun e w' => e = .returned (.string (decI n)) ∧ Below w.heap.size w w' := by
  by_cases h : 0 ≤ n
  · rw [decI_nat h]
    have h2 : n = ((n.toNat : Nat) : Int) := by omega
    conv => arg 3; rw [h2]
    exact dec_any n.toNat w (by omega)
  obtain rfl : n = -1 := by omega
  rw [decI_neg1]
  have HD := Lib.hid (show (⟨#[45]⟩ : ByteArray) ++ decB 1 = ⟨#[45, 49]⟩ by rw [decB_small (by omega)]; rfl)
  have hsz : ¬ 9223372036854775807 < 1 + (decB 1).size := by have := decB_size 1; omega
  go_enter Tryd.func26, Tryd.ntmps26
  go_wp2_with (go_at_call 26; refine (dec_any 1 _ (by omega)).mono ?_; rintro e w1 ⟨rfl, b1⟩)
  go_ret
  exact ⟨ret_str HD.out, b1⟩
theorem itoaI_any {n : Int} (h0 : -9223372036854775808 ≤ n) (h1 : n ≤ 9223372036854775807) (w : World) (htab : Lib.TabIs Tryd.prog w "internal/strconv.uint64pow10" .u64 Lib.pow10Tab) : Calls Tryd.prog 19 #[.int .i64 n] w fun e w' => e = .returned (.string (decI n)) ∧ Below w.heap.size w w' := by
  refine (Tryd.strconv_Itoa n h0 h1 w htab).mono ?_
  rintro e w' ⟨rfl, k, os, rfl⟩
  exact ⟨rfl, below_grow w k os⟩
end Go.Proofs.YtfekpbkcidhbfaaDoor
