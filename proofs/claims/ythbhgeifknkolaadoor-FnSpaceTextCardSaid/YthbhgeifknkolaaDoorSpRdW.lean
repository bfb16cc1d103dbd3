import Derived.Test.YthbhgeifknkolaaDoorSpRdP
import Derived.Deep.RegionHeld3
/- What reads a space's text calls. -/
namespace Go.Proofs.YthbhgeifknkolaaDoor
open Go Go.RowKit

theorem eqW {a : ByteArray} (l : List UInt8) (h : a = ⟨l.toArray⟩) : (a.toList == l) = true := by
  rw [h, ByteArray.toList_eq]
  simp
theorem neqW {a : ByteArray} (l : List UInt8) (h : a ≠ ⟨l.toArray⟩) : (a.toList == l) = false := by
  rw [beq_eq_false_iff_ne]
  intro e
  exact h (tlW_inj (e.trans (by rw [ByteArray.toList_eq])))
set_option maxHeartbeats 1000000 in
theorem l4St_any (key : ByteArray) (hk : key.size ≤ 1073741824) (w : World) : Calls Tryd.prog 19 #[.string key, .string ⟨#[115, 46]⟩] w fun e w' => e = .returned (.bool (preB key)) ∧ Below w.heap.size w w' := by
  by_cases h : 2 ≤ key.size
  · have h0 : (2 : Int) ≤ (key.size : Int) := by omega
    by_cases e : key.extract 0 2 = ⟨#[115, 46]⟩
    · have HP := Lib.hid (show preB key = true by simp [preB, h, e])
      have q1 := eqW [115, 46] e
      clear e
      go_enter Tryd.func19, Tryd.ntmps19
      go_wp2
      go_ret
      exact ⟨ret_bool HP.out.symm, (by repeat (first | exact Below.refl _ _ | (refine Below.alloc ?_ (by first | (simp; done) | (simp; omega)) _) | (refine Below.setCell ?_ (by first | (simp; done) | (simp; omega)) _) | (refine Below.drew ?_)))⟩
    · have HP := Lib.hid (show preB key = false by simp [preB, e])
      have q1 := neqW [115, 46] e
      clear e
      go_enter Tryd.func19, Tryd.ntmps19
      go_wp2
      go_ret
      exact ⟨ret_bool HP.out.symm, (by repeat (first | exact Below.refl _ _ | (refine Below.alloc ?_ (by first | (simp; done) | (simp; omega)) _) | (refine Below.setCell ?_ (by first | (simp; done) | (simp; omega)) _) | (refine Below.drew ?_)))⟩
  · have HP := Lib.hid (show preB key = false by simp [preB, h])
    have h0 : (key.size : Int) < 2 := by omega
    go_enter Tryd.func19, Tryd.ntmps19
    go_wp2
    go_ret
    exact ⟨ret_bool HP.out.symm, (by repeat (first | exact Below.refl _ _ | (refine Below.alloc ?_ (by first | (simp; done) | (simp; omega)) _) | (refine Below.setCell ?_ (by first | (simp; done) | (simp; omega)) _) | (refine Below.drew ?_)))⟩
theorem wordR_any (s : ByteArray) (w : World) : Calls Tryd.prog 16 #[.string s] w fun e w' => e = .returned (.string (wordR s)) ∧ Below w.heap.size w w' := by
  by_cases h : s = ⟨#[45]⟩
  · have H := Lib.hid (show wordR s = ⟨#[]⟩ by simp [wordR, h])
    have q1 := eqW [45] h
    clear h
    go_enter Tryd.func16, Tryd.ntmps16
    go_wp2
    go_ret
    exact ⟨ret_str H.out.symm, (by repeat (first | exact Below.refl _ _ | (refine Below.alloc ?_ (by first | (simp; done) | (simp; omega)) _) | (refine Below.setCell ?_ (by first | (simp; done) | (simp; omega)) _) | (refine Below.drew ?_)))⟩
  · have H := Lib.hid (show wordR s = s by simp [wordR, h])
    have q1 := neqW [45] h
    clear h
    go_enter Tryd.func16, Tryd.ntmps16
    go_wp2
    go_ret
    exact ⟨ret_str H.out.symm, (by repeat (first | exact Below.refl _ _ | (refine Below.alloc ?_ (by first | (simp; done) | (simp; omega)) _) | (refine Below.setCell ?_ (by first | (simp; done) | (simp; omega)) _) | (refine Below.drew ?_)))⟩
theorem limR_any (s : ByteArray) (hs : s.size ≤ maxLen) (w : World) (htab : Lib.TabIs Tryd.prog w "internal/strconv.uint64pow10" .u64 Lib.pow10Tab) : Calls Tryd.prog 17 #[.string s] w fun e w' => e = .returned (.int .i64 (limP s)) ∧ Below w.heap.size w w' := by
  have HT := Lib.hid htab
  clear htab
  have HI := Lib.hid (show ∀ w, Lib.TabIs Tryd.prog w "internal/strconv.uint64pow10" .u64 Lib.pow10Tab → Calls Tryd.prog 23 #[.int .i64 (-1)] w fun e w' => e = .returned (.string ⟨#[45, 49]⟩) ∧ Below w.heap.size w w' from fun w h => by
    have := itoaI_any (n := -1) (by omega) (by omega) w h
    rwa [decI_neg1] at this)
  by_cases h : s = ⟨#[45, 49]⟩
  · have H := Lib.hid (show limP s = -1 by simp [limP, h])
    have q1 := eqW [45, 49] h
    clear h
    go_enter Tryd.func17, Tryd.ntmps17
    go_wp2_with fail
    refine (HI.out _ HT.out).mono ?_
    rintro e w1 ⟨rfl, b1⟩
    go_wp2
    go_ret
    exact ⟨ret_int H.out.symm, b1⟩
  · have H := Lib.hid (show limP s = numP s.data.toList by simp [limP, h])
    have q1 := neqW [45, 49] h
    clear h
    go_enter Tryd.func17, Tryd.ntmps17
    go_wp2_with fail
    refine (HI.out _ HT.out).mono ?_
    rintro e w1 ⟨rfl, b1⟩
    go_wp2_with fail
    refine (implNum_any s _ hs).mono ?_
    rintro e w2 ⟨rfl, rfl⟩
    go_wp2
    go_ret
    exact ⟨ret_int H.out.symm, b1⟩
end Go.Proofs.YthbhgeifknkolaaDoor
