import Derived.Test.YtakcmjnfkcoilaaDoorCut
import Derived.Test.YtakcmjnfkcoilaaDoorNum
/- wireWord reads the first word of a text. -/
namespace Go.Proofs.YtakcmjnfkcoilaaDoor
open Go Go.RowKit

def wordN (s : ByteArray) : Nat := numV (cutA s).data.toList
def wordOk (s : ByteArray) : Bool := numOk (cutA s).data.toList && (decide (wordN s < (cutB s).size) && ((cutB s).data.toList[wordN s]? == some 44))
def wordW (s : ByteArray) : ByteArray := ⟨((cutB s).data.toList.take (wordN s)).toArray⟩
def wordR (s : ByteArray) : ByteArray := ⟨((cutB s).data.toList.drop (wordN s + 1)).toArray⟩
def wordO (s : ByteArray) : ByteArray × ByteArray × Bool := if wordOk s then (wordW s, wordR s, true) else (⟨#[]⟩, ⟨#[]⟩, false)
theorem wordO_no {s : ByteArray} (h : wordOk s = false) : wordO s = (⟨#[]⟩, ⟨#[]⟩, false) := by simp [wordO, h]
theorem wordO_yes {s : ByteArray} (h : wordOk s = true) : wordO s = (wordW s, wordR s, true) := by simp [wordO, h]
theorem cutA_size (s : ByteArray) : (cutA s).size ≤ s.size := by
  show (List.toArray _).size ≤ _
  simp
  omega
theorem cutB_size (s : ByteArray) : (cutB s).size ≤ s.size := by
  show (List.toArray _).size ≤ _
  simp
theorem get44 (b : ByteArray) (n : Nat) (h : n < b.size) : (b.data.toList[n]? == some 44) = ((b[n].toNat : Int) == 44) := by
  rw [List.getElem?_eq_getElem (by simpa using h)]
  have e : b.data.toList[n]'(by simpa using h) = b[n] := rfl
  rw [e, Bool.eq_iff_iff, beq_iff_eq, beq_iff_eq]
  constructor
  · intro h; simp at h; rw [h]; rfl
  · intro h; simp; exact UInt8.toNat_inj.1 (by simpa using (by omega : b[n].toNat = 44))

set_option maxRecDepth 100000 in
set_option maxHeartbeats 800000 in
theorem word_any (s : ByteArray) (w : World) (hs : s.size ≤ maxLen) :
    Calls Tryd.prog 37 #[.string s] w fun e w' => e = .returned (.tuple #[.string (wordO s).1, .string (wordO s).2.1, .bool (wordO s).2.2]) ∧ ∃ n, w' = w.drewN n := by
  have hA : (cutA s).size ≤ maxLen := Nat.le_trans (cutA_size s) hs
  have hB : (cutB s).size ≤ maxLen := Nat.le_trans (cutB_size s) hs
  unfold maxLen at hB
  by_cases h1 : numOk (cutA s).data.toList = true
  · have HP := Lib.hid (numP_yes h1)
    have H1 := Lib.hid h1
    by_cases h2 : wordN s < (cutB s).size
    · have hN := Lib.hid (show numV (cutA s).data.toList = wordN s from rfl)
      by_cases h3 : (((cutB s)[wordN s].toNat : Int) == 44) = true
      · have HO := Lib.hid (wordO_yes (show wordOk s = true by unfold wordOk; rw [h1, decide_eq_true h2, get44 _ _ h2, h3]; rfl))
        have h3' : (((cutB s)[wordN s].toNat : Int) != 44) = false := by simpa using h3
        have hx1 : (cutB s).extract 0 (wordN s) = wordW s := by apply bytes_ext; rw [Lib.extract_data]; simp [wordW]
        have hx2 : (cutB s).extract (wordN s + 1) (cutB s).size = wordR s := by
          apply bytes_ext; rw [Lib.extract_data]; simp only [wordR]; rw [List.take_of_length_le (by simp)]
        have HX1 := Lib.hid hx1
        have HX2 := Lib.hid hx2
        have h2' : (wordN s : Int) + 1 ≤ ((cutB s).size : Int) := by omega
        clear h1 h3 hx1 hx2
        go_enter Tryd.func37, Tryd.ntmps37
        go_wp2_with (first | (go_at_call 53; refine (cut_any _ _ hs).mono ?_; rintro e w1 ⟨rfl, q, rfl⟩) | (go_at_call 54; refine (implNum_any _ _ hA).mono ?_; rintro e w1 ⟨rfl, rfl⟩; rw [HP.out, H1.out, hN.out]))
        go_quiet (fail)
        go_wp2
        go_ret3
        exact ⟨ret_three (by rw [HO.out]; exact HX1.out) (by rw [HO.out]; exact HX2.out) (by rw [HO.out]), q + nq, by simp⟩
      · have h3' : (((cutB s)[wordN s].toNat : Int) == 44) = false := by simpa using h3
        have HO := Lib.hid (wordO_no (show wordOk s = false by unfold wordOk; rw [h1, decide_eq_true h2, get44 _ _ h2, h3']; rfl))
        have h3'' : (((cutB s)[wordN s].toNat : Int) != 44) = true := by simpa using h3
        clear h1 h3 h3'
        go_enter Tryd.func37, Tryd.ntmps37
        go_wp2_with (first | (go_at_call 53; refine (cut_any _ _ hs).mono ?_; rintro e w1 ⟨rfl, q, rfl⟩) | (go_at_call 54; refine (implNum_any _ _ hA).mono ?_; rintro e w1 ⟨rfl, rfl⟩; rw [HP.out, H1.out, hN.out]))
        go_ret3
        exact ⟨ret_three (by rw [HO.out]) (by rw [HO.out]) (by rw [HO.out]), _, rfl⟩
    · have hN := Lib.hid (show numV (cutA s).data.toList = wordN s from rfl)
      have HO := Lib.hid (wordO_no (show wordOk s = false by unfold wordOk; rw [decide_eq_false h2]; simp))
      have h2' : ((cutB s).size : Int) ≤ (wordN s : Int) := by omega
      clear h1 h2
      go_enter Tryd.func37, Tryd.ntmps37
      go_wp2_with (first | (go_at_call 53; refine (cut_any _ _ hs).mono ?_; rintro e w1 ⟨rfl, q, rfl⟩) | (go_at_call 54; refine (implNum_any _ _ hA).mono ?_; rintro e w1 ⟨rfl, rfl⟩; rw [HP.out, H1.out, hN.out]))
      go_ret3
      exact ⟨ret_three (by rw [HO.out]) (by rw [HO.out]) (by rw [HO.out]), _, rfl⟩
  · have h1' : numOk (cutA s).data.toList = false := by simpa using h1
    have HP := Lib.hid (numP_no h1')
    have H1 := Lib.hid h1'
    have HO := Lib.hid (wordO_no (show wordOk s = false by unfold wordOk; rw [h1']; rfl))
    clear h1 h1'
    go_enter Tryd.func37, Tryd.ntmps37
    go_wp2_with (first | (go_at_call 53; refine (cut_any _ _ hs).mono ?_; rintro e w1 ⟨rfl, q, rfl⟩) | (go_at_call 54; refine (implNum_any _ _ hA).mono ?_; rintro e w1 ⟨rfl, rfl⟩; rw [HP.out, H1.out]))
    go_ret3
    exact ⟨ret_three (by rw [HO.out]) (by rw [HO.out]) (by rw [HO.out]), _, rfl⟩
end Go.Proofs.YtakcmjnfkcoilaaDoor
