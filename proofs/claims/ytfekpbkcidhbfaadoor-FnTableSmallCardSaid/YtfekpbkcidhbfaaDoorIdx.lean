import Derived.Test.YtfekpbkcidhbfaaDoorProg
import Derived.Test.YtfekpbkcidhbfaaDoorBase
import Derived.Lib.Strings
import Derived.Lib.Bytealg
import Derived.WalkSpells
import Derived.WalkLawsBesides
import Derived.Deep.QuietTactic
import Derived.BigQuiet
/- Where a colon stands in a text. -/
namespace Go.Proofs.YtfekpbkcidhbfaaDoor
open Go Go.RowKit

/-- how many bytes stand ahead of the first colon -/
def colon : List UInt8 → Nat
  | [] => 0
  | c :: l => if c = 58 then 0 else colon l + 1
theorem colon_le : ∀ l, colon l ≤ l.length
  | [] => by simp [colon]
  | c :: l => by
    have := colon_le l
    unfold colon
    split <;> simp <;> omega
theorem indexByte_colon : ∀ l : List UInt8, Lib.indexByte l 58 = if colon l < l.length then (colon l : Int) else -1
  | [] => by simp [Lib.indexByte, colon]
  | c :: l => by
    have h := indexByte_colon l
    have hle := colon_le l
    by_cases hc : c = 58
    · subst hc; simp [Lib.indexByte, colon]
    · have hcb : (c == 58) = false := by simpa using hc
      simp only [Lib.indexByte, hcb, colon, if_neg hc, Bool.false_eq_true, if_false]
      rw [h]
      by_cases hl : colon l < l.length
      · rw [if_pos hl]
        have h1 : ((colon l : Int) == -1) = false := by rw [beq_eq_false_iff_ne]; omega
        rw [h1]
        simp
        omega
      · rw [if_neg hl]
        simp
        omega

set_option maxRecDepth 100000 in
set_option maxHeartbeats 800000 in
theorem idxByte_any (s : ByteArray) (c : Int) (w : World) :
    Calls Tryd.prog 70 #[.string s, .int .u8 c] w fun e w' => e = .returned (.int .i64 (Lib.indexByte s.data.toList c.toNat.toUInt8)) ∧ w = w' := by
  go_enter Tryd.func70, Tryd.ntmps70
  go_wp2
  rw [run_callFunc_extern Tryd.func82 (by kernel_rfl) (by kernel_rfl) (by kernel_rfl) (e := Extern.BytealgIndexByte.indexByte) (by kernel_rfl), Lib.run_indexByteString]
  simp only [Result.andThen]
  rw [Oper.upon_value]
  go_wp2
  go_ret
  exact ⟨rfl, rfl⟩

def colonI (s : ByteArray) : Int := Lib.indexByte s.data.toList 58

set_option maxRecDepth 100000 in
set_option maxHeartbeats 800000 in
theorem idxColon_any (s : ByteArray) (w : World) :
    Calls Tryd.prog 78 #[.string s, .string ⟨#[58]⟩] w fun e w' => e = .returned (.int .i64 (colonI s)) ∧ w = w' := by
  have hd : s.toList = s.data.toList := ByteArray.toList_eq s
  by_cases h1 : s.data.toList = [58]
  · have e1 : (([58] : List UInt8) == s.toList) = true := by rw [hd, h1]; rfl
    have HC := Lib.hid (show colonI s = 0 by unfold colonI; rw [h1]; rfl)
    clear hd h1
    go_enter Tryd.func78, Tryd.ntmps78
    go_wp2
    go_ret
    exact ⟨ret_int (by rw [HC.out]), rfl⟩
  · have e1 : (([58] : List UInt8) == s.toList) = false := by rw [hd]; simpa using fun h => h1 h.symm
    clear hd h1
    go_enter Tryd.func78, Tryd.ntmps78
    go_wp2_with (go_at_call 70; refine (idxByte_any _ _ _).mono ?_; rintro e w1 ⟨rfl, rfl⟩)
    go_ret
    exact ⟨rfl, rfl⟩

end Go.Proofs.YtfekpbkcidhbfaaDoor
