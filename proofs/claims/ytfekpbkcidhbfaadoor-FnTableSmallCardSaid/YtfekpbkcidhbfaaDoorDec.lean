import Derived.Test.YtfekpbkcidhbfaaDoorProg
import Derived.Test.YtfekpbkcidhbfaaDoorBase
import Derived.Lib.ItoaNum
import Derived.Handy
import Derived.Deep.AppendLies
import Derived.Deep.RegionLaw
/- l1Dec of the model: a number in decimals. -/
namespace Go.Proofs.YtfekpbkcidhbfaaDoor
open Go Go.RowKit

def decB (n : Nat) : ByteArray := ⟨(Lib.decDigits n).toArray⟩
theorem decB_small {n : Nat} (h : n < 10) : decB n = ⟨#[UInt8.ofNat (48 + n)]⟩ := by unfold decB; rw [Lib.decDigits_one h]
theorem decB_next {n : Nat} (h : ¬ n < 10) : decB n = decB (n / 10) ++ ⟨#[UInt8.ofNat (48 + n % 10)]⟩ := by
  apply bytes_ext
  unfold decB
  conv => lhs; rw [Lib.decDigits, dif_neg h]
  simp

theorem decB_size : ∀ n : Nat, (decB n).size ≤ n + 1 := by
  intro n
  induction n using Nat.strongRecOn with
  | ind n ih =>
    by_cases h : n < 10
    · rw [decB_small h]; show 1 ≤ n + 1; omega
    · rw [decB_next h, ByteArray.size_append]
      have := ih (n / 10) (by omega)
      show (decB (n / 10)).size + 1 ≤ n + 1
      omega
theorem dec_digit (n : Nat) : UInt8.ofNat (IntKind.u8.wrap (IntKind.i64.wrap (48 + (n : Int).tmod 10))).toNat = UInt8.ofNat (48 + n % 10) := by
  have h : (n : Int).tmod 10 = ((n % 10 : Nat) : Int) := by rw [Int.tmod_eq_emod_of_nonneg (by omega)]; simp
  have h1 : IntKind.i64.wrap (48 + (n : Int).tmod 10) = ((48 + n % 10 : Nat) : Int) := by rw [h]; simp [IntKind.wrap, IntKind.bits, IntKind.signed]; omega
  have h2 : IntKind.u8.wrap ((48 + n % 10 : Nat) : Int) = ((48 + n % 10 : Nat) : Int) := by simp [IntKind.wrap, IntKind.bits, IntKind.signed]; omega
  rw [h1, h2, Int.toNat_natCast]
theorem conv_kept {P : Program} {w w1 : World} {x : Int} {e : TypeId} (hb : Below (w.alloc (.cells #[.int .u8 x] e)).drew.heap.size (w.alloc (.cells #[.int .u8 x] e)).drew w1) (src dst e' : TypeId) (hs : P.underlying src = some (.slice e')) (he : P.underlying e' = some (.int .u8)) (hd : P.underlying dst = some .string) :
    (convert src dst (.slice (some ⟨w.heap.size, 0, none⟩) 1 1)).run P w1 = .ok (.string ⟨#[UInt8.ofNat x.toNat]⟩) w1 := by
  have h := run_convert_bytes_arg (P := P) w1 src e' hs he w.heap.size 0 1 1 [x] rfl (by
    intro i hi
    obtain rfl : i = 0 := by omega
    rw [hb.cell (by simp)]
    show (w.alloc _).cell? _ = _
    simp [go_sem]) dst hd
  rw [h]
  simp [strOfNums]

set_option maxRecDepth 100000 in
set_option maxHeartbeats 400000 in
theorem dec_any : ∀ (n : Nat) (w : World), n ≤ 9223372036854775807 → Calls Tryd.prog 26 #[.int .i64 n] w fun e w' => e = .returned (.string (decB n)) ∧ Below w.heap.size w w' := by
  intro n
  induction n using Nat.strongRecOn with
  | ind n ih =>
    intro w hn
    by_cases h : n < 10
    · have hn0 : (0 : Int) ≤ (n : Int) := by omega
      have hn1 : (n : Int) < 10 := by omega
      have HD := Lib.hid (decB_small h)
      clear ih h
      have hcv := conv_one (P := Tryd.prog) w 29 9 5 (48 + (n : Int)) Tryd.underlying29 Tryd.underlying5 Tryd.underlying9
      go_enter Tryd.func26, Tryd.ntmps26
      go_wp2
      go_ret
      refine ⟨ret_str ?_, (by repeat (first | exact Below.refl _ _ | (refine Below.alloc ?_ (by first | (simp; done) | (simp; omega)) _) | (refine Below.setCell ?_ (by first | (simp; done) | (simp; omega)) _) | (refine Below.drew ?_)))⟩
      rw [HD.out]
    · have hn0 : (0 : Int) ≤ (n : Int) := by omega
      have hn1 : (10 : Int) ≤ (n : Int) := by omega
      have HD := Lib.hid (decB_next h)
      have HI := Lib.hid (show ∀ w : World, Calls Tryd.prog 26 #[.int .i64 ((n : Int) / 10)] w fun e w' => e = .returned (.string (decB (n / 10))) ∧ Below w.heap.size w w' from fun w => by
        have := ih (n / 10) (by omega) w (by omega)
        rwa [show ((n / 10 : Nat) : Int) = (n : Int) / 10 by simp] at this)
      have HW := Lib.hid (show IntKind.i64.wrap ((n : Int) / 10) = (n : Int) / 10 by simp [IntKind.wrap, IntKind.bits, IntKind.signed]; omega)
      clear ih
      have hcA : ∀ W : World, (convert 29 9 (.slice (some ⟨W.heap.size, 0, none⟩) 1 1)).run Tryd.prog (W.alloc (.cells #[.int .u8 (IntKind.u8.wrap (IntKind.i64.wrap (48 + (n : Int).tmod 10)))] 5)) = .ok (.string ⟨#[UInt8.ofNat (IntKind.u8.wrap (IntKind.i64.wrap (48 + (n : Int).tmod 10))).toNat]⟩) (W.alloc (.cells #[.int .u8 (IntKind.u8.wrap (IntKind.i64.wrap (48 + (n : Int).tmod 10)))] 5)) := fun W => conv_one (P := Tryd.prog) W 29 9 5 (IntKind.u8.wrap (IntKind.i64.wrap (48 + (n : Int).tmod 10))) Tryd.underlying29 Tryd.underlying5 Tryd.underlying9
      have hcE : (convert 29 9 (.slice (some ⟨w.heap.size, 0, none⟩) 1 1)).run Tryd.prog (w.alloc (.cells #[.int .u8 (IntKind.u8.wrap (IntKind.i64.wrap (48 + (n : Int).tmod 10)))] 5)).drew = .ok (.string ⟨#[UInt8.ofNat (IntKind.u8.wrap (IntKind.i64.wrap (48 + (n : Int).tmod 10))).toNat]⟩) (w.alloc (.cells #[.int .u8 (IntKind.u8.wrap (IntKind.i64.wrap (48 + (n : Int).tmod 10)))] 5)).drew := conv_kept (Below.refl _ _) 29 9 5 Tryd.underlying29 Tryd.underlying5 Tryd.underlying9
      have HR := Lib.hid (show UInt8.ofNat (IntKind.u8.wrap (IntKind.i64.wrap (48 + (n : Int).tmod 10))).toNat = UInt8.ofNat (48 + n % 10) from dec_digit n)
      have hsz : ¬ 9223372036854775807 < (decB (n / 10)).size + 1 := by have := decB_size (n / 10); omega
      go_enter Tryd.func26, Tryd.ntmps26
      go_wp2_with fail
      go_region_law (go_simp; go_at_call 26; rw [HW.out]; refine (HI.out _).mono ?_; rintro e w1 ⟨rfl, b1⟩; (first | (have hcB : (convert 29 9 (.slice (some ⟨w.heap.size, 0, none⟩) 1 1)).run Tryd.prog w1 = .ok (.string ⟨#[UInt8.ofNat (IntKind.u8.wrap (IntKind.i64.wrap (48 + (n : Int).tmod 10))).toNat]⟩) w1 := conv_kept b1 29 9 5 Tryd.underlying29 Tryd.underlying5 Tryd.underlying9) | skip); have B1 : Below w.heap.size w w1 := Below.trans (by repeat (first | exact Below.refl _ _ | (refine Below.alloc ?_ (by first | omega | (simp; done) | (simp; omega)) _) | (refine Below.drew ?_))) (b1.mono (by first | omega | (simp; done) | (simp; omega))))
      all_goals
        go_wp2
        go_ret
        have z1 := B1.size
        refine ⟨ret_str ?_, by repeat (first | exact B1 | exact Below.refl _ _ | (refine Below.alloc ?_ (by first | omega | (simp; done) | (simp; omega)) _) | (refine Below.drew ?_))⟩
        rw [HD.out, HR.out]
end Go.Proofs.YtfekpbkcidhbfaaDoor
