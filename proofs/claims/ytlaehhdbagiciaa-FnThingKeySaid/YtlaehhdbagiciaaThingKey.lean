import Derived.Test.YtlaehhdbagiciaaName
/- ThingKey of the model and of the program. -/
namespace Go.Proofs.Ytlaehhdbagiciaa
open Go Go.RowKit

/-- the key of a thing -/
def keyB (a b : ByteArray) : ByteArray := if nameB a.data.toList && nameB b.data.toList then ⟨#[116, 46]⟩ ++ a ++ ⟨#[46]⟩ ++ b else ⟨#[]⟩
theorem keyB_yes {a b : ByteArray} (h : nameB a.data.toList = true) (k : nameB b.data.toList = true) : keyB a b = ⟨#[116, 46]⟩ ++ a ++ ⟨#[46]⟩ ++ b := by simp [keyB, h, k]
theorem keyB_no1 {a b : ByteArray} (h : nameB a.data.toList = false) : keyB a b = ⟨#[]⟩ := by simp [keyB, h]
theorem keyB_no2 {a b : ByteArray} (k : nameB b.data.toList = false) : keyB a b = ⟨#[]⟩ := by simp [keyB, k]
theorem name_size {a : ByteArray} (h : nameB a.data.toList = true) : 1 ≤ a.size ∧ a.size ≤ 6 := by
  have : a.data.toList.length = a.size := by simp
  unfold nameB at h
  simp only [Bool.and_eq_true, decide_eq_true_eq] at h
  omega

set_option maxHeartbeats 800000 in
theorem specThingKey_any (a b : ByteArray) (ha : a.size ≤ maxLen) (hb : b.size ≤ maxLen) (w : World) :
    Calls Try.prog 19 #[.string a, .string b] w fun e w' => e = .returned (.string (keyB a b)) ∧ w = w' := by
  cases h : nameB a.data.toList with
  | false =>
    have HK := Lib.hid (keyB_no1 (b := b) h)
    have H := Lib.hid h
    clear h
    go_enter Try.func19, Try.ntmps19
    go_wp2_with fail
    refine (spec_name a _ ha).mono ?_
    rintro e w1 ⟨rfl, rfl⟩
    rw [H.out]
    go_wp2
    go_ret
    exact ⟨ret_str HK.out.symm, rfl⟩
  | true =>
    have H := Lib.hid h
    have hs1 := name_size h
    cases k : nameB b.data.toList with
    | false =>
      have HK := Lib.hid (keyB_no2 (a := a) k)
      have K := Lib.hid k
      clear h k
      go_enter Try.func19, Try.ntmps19
      go_wp2_with fail
      refine (spec_name a _ ha).mono ?_
      rintro e w1 ⟨rfl, rfl⟩
      rw [H.out]
      go_wp2_with fail
      refine (spec_name b _ hb).mono ?_
      rintro e w1 ⟨rfl, rfl⟩
      rw [K.out]
      go_wp2
      go_ret
      exact ⟨ret_str HK.out.symm, rfl⟩
    | true =>
      have HK := Lib.hid (keyB_yes h k)
      have K := Lib.hid k
      have hs2 := name_size k
      have o1 : ¬ 9223372036854775807 < 2 + a.size := by omega
      have o2 : ¬ 9223372036854775807 < 2 + a.size + 1 := by omega
      have o3 : ¬ 9223372036854775807 < 2 + a.size + 1 + b.size := by omega
      clear h k
      go_enter Try.func19, Try.ntmps19
      go_wp2_with fail
      refine (spec_name a _ ha).mono ?_
      rintro e w1 ⟨rfl, rfl⟩
      rw [H.out]
      go_wp2_with fail
      refine (spec_name b _ hb).mono ?_
      rintro e w1 ⟨rfl, rfl⟩
      rw [K.out]
      go_wp2
      go_ret
      exact ⟨ret_str HK.out.symm, rfl⟩
set_option maxHeartbeats 800000 in
theorem implThingKey_any (a b : ByteArray) (ha : a.size ≤ maxLen) (hb : b.size ≤ maxLen) (w : World) :
    Calls Try.prog 20 #[.string a, .string b] w fun e w' => e = .returned (.string (keyB a b)) ∧ w = w' := by
  cases h : nameB a.data.toList with
  | false =>
    have HK := Lib.hid (keyB_no1 (b := b) h)
    have H := Lib.hid h
    clear h
    go_enter Try.func20, Try.ntmps20
    go_wp2_with fail
    refine (impl_name a _ ha).mono ?_
    rintro e w1 ⟨rfl, rfl⟩
    rw [H.out]
    go_wp2
    go_ret
    exact ⟨ret_str HK.out.symm, rfl⟩
  | true =>
    have H := Lib.hid h
    have hs1 := name_size h
    cases k : nameB b.data.toList with
    | false =>
      have HK := Lib.hid (keyB_no2 (a := a) k)
      have K := Lib.hid k
      clear h k
      go_enter Try.func20, Try.ntmps20
      go_wp2_with fail
      refine (impl_name a _ ha).mono ?_
      rintro e w1 ⟨rfl, rfl⟩
      rw [H.out]
      go_wp2_with fail
      refine (impl_name b _ hb).mono ?_
      rintro e w1 ⟨rfl, rfl⟩
      rw [K.out]
      go_wp2
      go_ret
      exact ⟨ret_str HK.out.symm, rfl⟩
    | true =>
      have HK := Lib.hid (keyB_yes h k)
      have K := Lib.hid k
      have hs2 := name_size k
      have o1 : ¬ 9223372036854775807 < 2 + a.size := by omega
      have o2 : ¬ 9223372036854775807 < 2 + a.size + 1 := by omega
      have o3 : ¬ 9223372036854775807 < 2 + a.size + 1 + b.size := by omega
      clear h k
      go_enter Try.func20, Try.ntmps20
      go_wp2_with fail
      refine (impl_name a _ ha).mono ?_
      rintro e w1 ⟨rfl, rfl⟩
      rw [H.out]
      go_wp2_with fail
      refine (impl_name b _ hb).mono ?_
      rintro e w1 ⟨rfl, rfl⟩
      rw [K.out]
      go_wp2
      go_ret
      exact ⟨ret_str HK.out.symm, rfl⟩
set_option maxHeartbeats 800000 in
theorem fnExactThingKeyWalk (a : ByteArray) (ha : a.size ≤ maxLen) (b : ByteArray) (hb : b.size ≤ maxLen) {w : World} :
    Calls Try.prog 5 #[.string a, .string b] w fun e w' => e = .returned (.bool true) ∧ Below w.heap.size w w' := by
  have ha' := ha
  have hb' := hb
  unfold maxLen at ha' hb'
  by_cases h1 : (1048576 : Int) < (a.size : Int)
  · go_enter Try.func5, Try.ntmps5
    go_wp2
    go_ret
    exact ⟨rfl, Below.refl _ _⟩
  have h1' : (a.size : Int) ≤ 1048576 := by omega
  clear h1
  by_cases h2 : (1048576 : Int) < (b.size : Int)
  · go_enter Try.func5, Try.ntmps5
    go_wp2
    go_ret
    exact ⟨rfl, Below.refl _ _⟩
  have h2' : (b.size : Int) ≤ 1048576 := by omega
  clear h2
  go_enter Try.func5, Try.ntmps5
  go_wp2_with fail
  refine (specThingKey_any a b ha hb _).mono ?_
  rintro e w1 ⟨rfl, rfl⟩
  go_wp2_with fail
  refine (implThingKey_any a b ha hb _).mono ?_
  rintro e w1 ⟨rfl, rfl⟩
  generalize keyB a b = R
  have q : (!R.toList == R.toList) = false := by simp
  go_wp2
  go_ret
  exact ⟨rfl, Below.refl _ _⟩
end Go.Proofs.Ytlaehhdbagiciaa
