import Derived.Test.YtjbkhamfingoiaaPick
import Derived.Test.YtjbkhamfingoiaaName
import Derived.Lib.Strings
import Derived.WalkSpells
/- The walk of FnNameOk: the drawn text is one of seven; the law itself holds of any text. -/
namespace Go.Proofs.Ytjbkhamfingoiaa
open Go Go.RowKit

def drawn7 : List ByteArray := [⟨#[]⟩, ⟨#[97]⟩, ⟨#[97, 98, 99, 100, 101, 102]⟩, ⟨#[97, 98, 99, 100, 101, 102, 103]⟩, ⟨#[65]⟩, ⟨#[97, 49]⟩, ⟨#[97, 108, 108]⟩]

def DrawPost (w : World) (e : Ending) (w' : World) : Prop := ∃ s : ByteArray, s.size ≤ 7 ∧ e = .returned (.string s) ∧ Below w.heap.size w w'

theorem drawn7_size : ∀ s ∈ drawn7, s.size ≤ 7 := by
  intro s hs
  simp only [drawn7, List.mem_cons, List.not_mem_nil, or_false] at hs
  rcases hs with rfl | rfl | rfl | rfl | rfl | rfl | rfl <;> simp [ByteArray.size]

set_option maxRecDepth 100000 in
set_option maxHeartbeats 800000 in
theorem drawName_any (a : Option Addr) (c : Nat) (l : List UInt8) (w : World) (hl : l.length ≤ c) (hc : c ≤ maxLen) (h : BytesS w a l) :
    Calls Try.prog 31 #[.slice a l.length c] w (DrawPost w) := by
  go_enter Try.func31, Try.ntmps31
  go_wp2_with fail
  refine (open_any a c l _ hl hc h).mono ?_
  rintro e w1 ⟨c1, l1, rfl, hrd, hb1⟩
  have hlt := hrd.lt
  have HR := Lib.hid hrd
  clear hrd
  go_wp2_with fail
  refine (of_any _ w.heap.size a c1 l1 0 (by omega) (HR.out.below (below_alloc _ _)) w1.heap.size 0 _ drawn7 (by decide) (by decide) (by omega) (fun j hj => lit_cells w1 drawn7 _ j hj)).mono ?_
  rintro e w2 ⟨s, hs, rfl, _, hk⟩
  have hz := drawn7_size s hs
  have G : Below w.heap.size w w2 := hk.below (hb1.trans ((below_alloc _ _).mono hb1.size)) (by simp; omega) (fun k hk => by omega)
  go_wp2
  go_ret
  exact ⟨s, hz, rfl, G⟩

theorem wmIn_any (n a b : Int) (w : World) :
    Calls Try.prog 22 #[.int .i64 n, .int .i64 a, .int .i64 b] w fun e w' => e = .returned (.bool (inB n a b)) ∧ w = w' := by
  by_cases h1 : a ≤ n
  · go_enter Try.func22, Try.ntmps22
    go_wp2
    all_goals
      go_ret
      exact ⟨ret_bool (by simp [inB, h1]), rfl⟩
  · go_enter Try.func22, Try.ntmps22
    go_wp2
    go_ret
    exact ⟨ret_bool (by simp [inB]; omega), rfl⟩

def upB (s : ByteArray) (k : Nat) : Bool := inB s.size 1 6 && (s.data.toList.take k).all low
theorem upB_zero (s : ByteArray) : upB s 0 = inB s.size 1 6 := by simp [upB]
theorem extract_one (s : ByteArray) (k : Nat) (h : k < s.size) : (s.extract k (k + 1)).data.toList = [s[k]] := by
  have e : s.data.toList[k]'(by simpa using h) = s[k] := rfl
  rw [Lib.extract_data]
  rw [← e]
  apply List.ext_getElem?
  intro i
  match i with
  | 0 => simp [h]
  | i + 1 => simp; omega
theorem nameB_one (c : UInt8) : nameB [c] = low c := by simp [nameB]
theorem upB_succ (s : ByteArray) (k : Nat) (h : k < s.size) : upB s (k + 1) = (upB s k && nameB (s.extract k (k + 1)).data.toList) := by
  rw [extract_one s k h, nameB_one]
  unfold upB
  rw [List.take_succ_eq_append_getElem (by simpa using h), List.all_append]
  have e : s.data.toList[k]'(by simpa using h) = s[k] := rfl
  rw [e]
  simp [Bool.and_assoc]
theorem upB_full (s : ByteArray) (k : Nat) (h : ¬ k < s.size) : upB s k = nameB s.data.toList := by
  unfold upB
  by_cases ha : (s.data.toList.take k).all low = true
  · rw [all_yes s k h ha, ha]; simp
  · have : (s.data.toList.take k).all low = false := by simpa using ha
    rw [this]
    rw [List.take_of_length_le (by simp; omega)] at this
    simp [nameB, this]

set_option maxRecDepth 100000 in
set_option maxHeartbeats 1000000 in
theorem fnNameOkWalk (a : Option Addr) (c : Nat) (l : List UInt8) {w : World} (hl : l.length ≤ c) (hc : c ≤ maxLen) (h : BytesS w a l) :
    Calls Try.prog 7 #[.slice a l.length c] w fun e w' => e = .returned (.bool true) ∧ Below w.heap.size w w' := by
  have hcl := hc
  unfold maxLen at hcl
  by_cases hb : (1048576 : Int) < (l.length : Int)
  · go_enter Try.func7, Try.ntmps7
    go_wp2
    go_ret
    exact ⟨rfl, Below.refl _ _⟩
  · have hb' : (l.length : Int) ≤ 1048576 := by omega
    clear hb
    go_enter Try.func7, Try.ntmps7
    go_wp2_with fail
    refine (drawName_any a c l _ hl hc h).mono ?_
    rintro e w1 ⟨s, hs, rfl, hb1⟩
    have hsm : s.size ≤ maxLen := by unfold maxLen; omega
    go_wp2_with (first | (go_at_call 32; refine (impl_name _ _ hsm).mono ?_; rintro e w2 ⟨rfl, rfl⟩) | (go_at_call 22; refine (wmIn_any _ _ _ _).mono ?_; rintro e w2 ⟨rfl, rfl⟩))
    go_loop [5, 6] (fun b i => ∃ k : Nat, k ≤ s.size ∧ i = .int .i64 k ∧ b = .bool (upB s k)) (fun _ i => s.size - (intOf i).toNat)
    case atStart => exact ⟨0, Nat.zero_le _, rfl, by rw [upB_zero]⟩
    case round =>
      obtain ⟨k, hk, rfl, rfl⟩ := hrel
      by_cases hlt : k < s.size
      · have HS := Lib.hid (upB_succ s k hlt)
        have hlt1 : (k : Int) + 1 ≤ (s.size : Int) := by omega
        have hz : (s.extract k (k + 1)).size ≤ maxLen := by rw [ByteArray.size_extract]; unfold maxLen; omega
        by_cases hu : upB s k = true
        · go_wp2_with (go_at_call 32; refine (impl_name _ _ hz).mono ?_; rintro e w2 ⟨rfl, rfl⟩)
          go_round
          case rel => exact ⟨k + 1, by omega, by go_num, by rw [HS.out]; simp [hu]⟩
          case measure => simp [intOf]; omega
        · have hu' : upB s k = false := by simpa using hu
          clear hu
          go_wp2
          go_round
          case rel => exact ⟨k + 1, by omega, by go_num, by rw [HS.out]; simp [hu']⟩
          case measure => simp [intOf]; omega
      · have HF := Lib.hid (upB_full s k hlt)
        rw [HF.out]
        go_wp2_with (go_at_call 33; refine (spec_name _ _ hsm).mono ?_; rintro e w2 ⟨rfl, rfl⟩)
        go_ret
        exact ⟨rfl, hb1⟩
end Go.Proofs.Ytjbkhamfingoiaa
