import Derived.Test.YtgjfflfldddebaaDoorProg
import Derived.Test.YtgjfflfldddebaaDoorBase
import Derived.Lib.Strings
import Derived.Lib.Bytealg
import Derived.WalkSpells
import Derived.WalkLawsBesides
import Derived.Deep.QuietTactic
import Derived.BigQuiet
/- strings.Cut at a colon. -/
namespace Go.Proofs.YtgjfflfldddebaaDoor
open Go Go.RowKit

/-- how many bytes stand ahead of the first colon -/
def colon : List UInt8 → Nat
  | [] => 0
  | c :: l => if c = 58 then 0 else colon l + 1
theorem colon_le : ∀ l, colon l ≤ l.length
  | [] => by simp [colon]
  | c :: l => by
    have := colon_le l
    unfold colon
    split <;> simp <;> omega
theorem indexByte_colon : ∀ l : List UInt8, Lib.indexByte l 58 = if colon l < l.length then (colon l : Int) else -1
  | [] => by simp [Lib.indexByte, colon]
  | c :: l => by
    have h := indexByte_colon l
    have hle := colon_le l
    by_cases hc : c = 58
    · subst hc; simp [Lib.indexByte, colon]
    · have hcb : (c == 58) = false := by simpa using hc
      simp only [Lib.indexByte, hcb, colon, if_neg hc, Bool.false_eq_true, if_false]
      rw [h]
      by_cases hl : colon l < l.length
      · rw [if_pos hl]
        have h1 : ((colon l : Int) == -1) = false := by rw [beq_eq_false_iff_ne]; omega
        rw [h1]
        simp
        omega
      · rw [if_neg hl]
        simp
        omega

def cutA (s : ByteArray) : ByteArray := ⟨(s.data.toList.take (colon s.data.toList)).toArray⟩
def cutB (s : ByteArray) : ByteArray := ⟨(s.data.toList.drop (colon s.data.toList + 1)).toArray⟩
def cutF (s : ByteArray) : Bool := decide (colon s.data.toList < s.size)

set_option maxRecDepth 100000 in
set_option maxHeartbeats 800000 in
theorem idxByte_any (s : ByteArray) (c : Int) (w : World) :
    Calls Tryd.prog 80 #[.string s, .int .u8 c] w fun e w' => e = .returned (.int .i64 (Lib.indexByte s.data.toList c.toNat.toUInt8)) ∧ w = w' := by
  go_enter Tryd.func80, Tryd.ntmps80
  go_wp2
  rw [run_callFunc_extern Tryd.func89 (by kernel_rfl) (by kernel_rfl) (by kernel_rfl) (e := Extern.BytealgIndexByte.indexByte) (by kernel_rfl), Lib.run_indexByteString]
  simp only [Result.andThen]
  rw [Oper.upon_value]
  go_wp2
  go_ret
  exact ⟨rfl, rfl⟩

def colonI (s : ByteArray) : Int := Lib.indexByte s.data.toList 58

set_option maxRecDepth 100000 in
set_option maxHeartbeats 800000 in
theorem idxColon_any (s : ByteArray) (w : World) :
    Calls Tryd.prog 87 #[.string s, .string ⟨#[58]⟩] w fun e w' => e = .returned (.int .i64 (colonI s)) ∧ w = w' := by
  have hd : s.toList = s.data.toList := ByteArray.toList_eq s
  by_cases h1 : s.data.toList = [58]
  · have e1 : (([58] : List UInt8) == s.toList) = true := by rw [hd, h1]; rfl
    have HC := Lib.hid (show colonI s = 0 by unfold colonI; rw [h1]; rfl)
    clear hd h1
    go_enter Tryd.func87, Tryd.ntmps87
    go_wp2
    go_ret
    exact ⟨ret_int (by rw [HC.out]), rfl⟩
  · have e1 : (([58] : List UInt8) == s.toList) = false := by rw [hd]; simpa using fun h => h1 h.symm
    clear hd h1
    go_enter Tryd.func87, Tryd.ntmps87
    go_wp2_with (go_at_call 80; refine (idxByte_any _ _ _).mono ?_; rintro e w1 ⟨rfl, rfl⟩)
    go_ret
    exact ⟨rfl, rfl⟩

theorem cutA_extract (s : ByteArray) (k : Nat) (h : colon s.data.toList = k) : s.extract 0 k = cutA s := by
  subst h
  apply bytes_ext
  rw [Lib.extract_data]
  simp [cutA]
theorem cutB_extract (s : ByteArray) (k : Nat) (h : colon s.data.toList = k) : s.extract (k + 1) s.size = cutB s := by
  subst h
  apply bytes_ext
  rw [Lib.extract_data]
  simp only [cutB]
  rw [List.take_of_length_le (by simp)]
theorem cutA_all (s : ByteArray) (h : ¬ colon s.data.toList < s.size) : cutA s = s := by
  apply bytes_ext
  simp only [cutA]
  rw [List.take_of_length_le (by simp; omega)]
theorem cutB_none (s : ByteArray) (h : ¬ colon s.data.toList < s.size) : cutB s = ⟨#[]⟩ := by
  apply bytes_ext
  simp only [cutB]
  rw [List.drop_eq_nil_of_le (by simp; omega)]

theorem ret_three {a b c d : ByteArray} {x y : Bool} (h : a = b) (k : c = d) (l : x = y) : Ending.returned (.tuple #[.string a, .string c, .bool x]) = .returned (.tuple #[.string b, .string d, .bool y]) := by rw [h, k, l]

set_option maxRecDepth 100000 in
set_option maxHeartbeats 800000 in
theorem cut1_any (s : ByteArray) (w : World) (hs : s.size ≤ maxLen) :
    Calls Tryd.prog 75 #[.string s, .string ⟨#[58]⟩] w fun e w' => e = .returned (.tuple #[.string (cutA s), .string (cutB s), .bool (cutF s)]) ∧ ∃ n, w' = w.drewN n := by
  unfold maxLen at hs
  have hi := indexByte_colon s.data.toList
  have hlen : s.data.toList.length = s.size := by simp
  rw [hlen] at hi
  by_cases h : colon s.data.toList < s.size
  · rw [if_pos h] at hi
    obtain ⟨k, hk⟩ : ∃ k, colon s.data.toList = k := ⟨_, rfl⟩
    have HI := Lib.hid (show colonI s = (k : Int) by unfold colonI; rw [hi, hk])
    have HA := Lib.hid (cutA_extract s k hk)
    have HB := Lib.hid (cutB_extract s k hk)
    have HF := Lib.hid (show cutF s = true by unfold cutF; exact decide_eq_true h)
    have hks : k < s.size := by omega
    have hks1 : (k : Int) + 1 ≤ (s.size : Int) := by omega
    clear hi hlen h hk
    go_enter Tryd.func75, Tryd.ntmps75
    go_wp2_with (go_at_call 87; refine (idxColon_any _ _).mono ?_; rintro e w1 ⟨rfl, rfl⟩; rw [HI.out])
    go_quiet (fail)
    go_wp2
    go_ret3
    exact ⟨ret_three (by rw [← HA.out]) (by rw [← HB.out]) (by rw [HF.out]), _, rfl⟩
  · rw [if_neg h] at hi
    have HI := Lib.hid (show colonI s = -1 from hi)
    have HA := Lib.hid (cutA_all s h)
    have HB := Lib.hid (cutB_none s h)
    have HF := Lib.hid (show cutF s = false by unfold cutF; exact decide_eq_false h)
    clear hi hlen h
    go_enter Tryd.func75, Tryd.ntmps75
    go_wp2_with (go_at_call 87; refine (idxColon_any _ _).mono ?_; rintro e w1 ⟨rfl, rfl⟩; rw [HI.out])
    go_ret3
    exact ⟨ret_three (by rw [HA.out]) (by rw [HB.out]) (by rw [HF.out]), 0, rfl⟩

set_option maxRecDepth 100000 in
theorem cut_any (s : ByteArray) (w : World) (hs : s.size ≤ maxLen) :
    Calls Tryd.prog 56 #[.string s, .string ⟨#[58]⟩] w fun e w' => e = .returned (.tuple #[.string (cutA s), .string (cutB s), .bool (cutF s)]) ∧ ∃ n, w' = w.drewN n := by
  go_enter Tryd.func56, Tryd.ntmps56
  go_wp2_with fail
  refine (cut1_any s _ hs).mono ?_
  rintro e w1 ⟨rfl, n, rfl⟩
  go_wp2
  go_ret3
  exact ⟨rfl, n, rfl⟩
end Go.Proofs.YtgjfflfldddebaaDoor
