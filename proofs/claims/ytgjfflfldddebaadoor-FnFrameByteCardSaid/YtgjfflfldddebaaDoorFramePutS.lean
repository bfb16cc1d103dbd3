import Derived.Test.YtgjfflfldddebaaDoorFrameS
import Derived.Test.YtgjfflfldddebaaDoorIn
/- FramePut of the model. -/
namespace Go.Proofs.YtgjfflfldddebaaDoor
open Go Go.RowKit

def frameOkB (t n : Int) (x : ByteArray) : Bool := inB t 0 99999999 && inB n 0 99999999 && decide (x.size ≤ 2000)
/-- the blocks of a text, of whatever turn and number -/
def putI (t n : Int) (x : ByteArray) : List ByteArray := if frameOkB t n x then putB t.toNat n.toNat x else []
theorem putI_yes {t n : Int} {x : ByteArray} (h : frameOkB t n x = true) : putI t n x = putB t.toNat n.toNat x := by simp [putI, h]
theorem putI_no {t n : Int} {x : ByteArray} (h : frameOkB t n x = false) : putI t n x = [] := by simp [putI, h]

set_option maxHeartbeats 800000 in
theorem fits_any (t n : Int) (w : World) : Calls Tryd.prog 30 #[.int .i64 t, .int .i64 n] w fun e w' => e = .returned (.bool (inB t 0 99999999 && inB n 0 99999999)) ∧ w = w' := by
  cases h1 : inB t 0 99999999 with
  | false =>
    have H1 := Lib.hid h1
    clear h1
    go_enter Tryd.func30, Tryd.ntmps30
    go_wp2_with fail
    refine (in_any _ _ _ _).mono ?_
    rintro e w1 ⟨rfl, rfl⟩
    rw [H1.out]
    go_wp2
    go_ret
    exact ⟨rfl, rfl⟩
  | true =>
    have H1 := Lib.hid h1
    clear h1
    go_enter Tryd.func30, Tryd.ntmps30
    go_wp2_with fail
    refine (in_any _ _ _ _).mono ?_
    rintro e w1 ⟨rfl, rfl⟩
    rw [H1.out]
    go_wp2_with fail
    refine (in_any _ _ _ _).mono ?_
    rintro e w1 ⟨rfl, rfl⟩
    go_wp2
    go_ret
    exact ⟨rfl, rfl⟩

set_option maxRecDepth 100000 in
set_option maxHeartbeats 1000000 in
theorem specFramePut_any (t n : Int) (x : ByteArray) (hx : x.size ≤ maxLen) (w : World) :
    Calls Tryd.prog 10 #[.int .i64 t, .int .i64 n, .string x] w (OutS w (putI t n x)) := by
  unfold maxLen at hx
  have HM := Lib.hid (World.ownsRow_made (e := 9) (size := 1) w #[] 0 (Nat.le_refl _) (by unfold maxLen; omega) rfl)
  cases h : frameOkB t n x with
  | true =>
    rw [putI_yes h]
    simp only [frameOkB, inB, Bool.and_eq_true, decide_eq_true_eq] at h
    obtain ⟨⟨⟨h1, h2⟩, h3, h4⟩, h5⟩ := h
    obtain ⟨a, rfl⟩ := Int.eq_ofNat_of_zero_le h1
    obtain ⟨b, rfl⟩ := Int.eq_ofNat_of_zero_le h3
    have HF := Lib.hid (show (inB (a : Int) 0 99999999 && inB (b : Int) 0 99999999) = true by simp [inB]; omega)
    have h5i : (x.size : Int) ≤ 2000 := by omega
    go_enter Tryd.func10, Tryd.ntmps10
    go_wp2_with fail
    refine (fits_any _ _ _).mono ?_
    rintro e w1 ⟨rfl, rfl⟩
    rw [HF.out]
    go_wp2_with fail
    refine (l3Put_any a b (by omega) (by omega) x (by omega) _).mono ?_
    rintro e w1 ⟨v, rfl, o1, b1⟩
    have O1 := Lib.hid o1
    have B1 := Lib.hid b1
    clear o1 b1
    go_wp2
    go_ret
    exact ⟨_, rfl, O1.out, B1.out⟩
  | false =>
    rw [putI_no h]
    cases hf : (inB t 0 99999999 && inB n 0 99999999) with
    | false =>
      have HF := Lib.hid hf
      clear hf h
      go_enter Tryd.func10, Tryd.ntmps10
      go_wp2_with fail
      refine (fits_any _ _ _).mono ?_
      rintro e w1 ⟨rfl, rfl⟩
      rw [HF.out]
      go_wp2
      go_ret
      exact ⟨_, rfl, HM.out, below_alloc _ _⟩
    | true =>
      have HF := Lib.hid hf
      have h5 : (2000 : Int) < (x.size : Int) := by
        unfold frameOkB at h
        rw [hf] at h
        simp at h
        omega
      clear hf h
      go_enter Tryd.func10, Tryd.ntmps10
      go_wp2_with fail
      refine (fits_any _ _ _).mono ?_
      rintro e w1 ⟨rfl, rfl⟩
      rw [HF.out]
      go_wp2
      go_ret
      exact ⟨_, rfl, HM.out, below_alloc _ _⟩
end Go.Proofs.YtgjfflfldddebaaDoor
