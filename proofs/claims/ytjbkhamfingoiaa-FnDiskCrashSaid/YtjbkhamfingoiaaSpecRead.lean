import Derived.Test.YtjbkhamfingoiaaDriveTop
/- l2Read, l2Bit, DiskRead of the model. -/
namespace Go.Proofs.Ytjbkhamfingoiaa
open Go Go.RowKit

set_option maxRecDepth 100000 in
set_option maxHeartbeats 400000 in
theorem l2Read_any (v : Value) (d : DiskD) (n : Nat) (w : World) (hv : DiskR w v d) (hn : n < d.1.length) :
    Calls Try.prog 68 #[v, .int .i64 n] w fun e w' => e = .returned (.string (rdTo d.2.1 n d.1[n] d.2.1.length)) ∧ Below w.heap.size w w' := by
  obtain ⟨a, ca, b, cb, rfl, hs, hw, hok⟩ := hv
  obtain ⟨ds, dw, dl⟩ := d
  simp only at hs hw hok hn
  dsimp only
  have hl1 := hs.1
  have hl2 := hw.1
  unfold maxLen at hl1 hl2
  obtain ⟨ba, oa, rfl, hca⟩ := hs.2.2.resolve_left (by rintro rfl; simp at hn)
  have c0 : (w.alloc (Obj.cells #[Value.slice (some ⟨ba, oa, none⟩) ds.length ca, Value.slice b dw.length cb, Value.int .i64 dl] 26)).cell? ⟨ba, oa + n, none⟩ = some (.string ds[n]) := by
    rw [(Below.refl w.heap.size w).alloc (Nat.le_refl _) _ |>.cell (by have := World.block_lt_of_cell? w _ (hca n hn); simpa using this)]; exact hca n hn
  have hni : (n : Int) < (ds.length : Int) := by omega
  have hn0 : (0 : Int) ≤ (n : Int) := by omega
  go_enter Try.func68, Try.ntmps68
  go_wp2
  go_loop [5, 6] (fun v5 v6 => ∃ j : Nat, j ≤ dw.length ∧ v6 = .int .i64 j ∧ v5 = .string (rdTo dw n ds[n] j)) (fun _ v6 => dw.length - (intOf v6).toNat)
  case atStart => exact ⟨0, Nat.zero_le _, rfl, rfl⟩
  case round =>
    obtain ⟨j, hj, rfl, rfl⟩ := hrel
    by_cases hlt : j < dw.length
    · obtain ⟨bb, ob, rfl, hcb⟩ := hw.2.resolve_left (by intro e; subst e; simp at hlt)
      obtain ⟨x0, x1⟩ := cellsWait ((Below.refl w.heap.size w).alloc (Nat.le_refl _) (Obj.cells #[Value.slice (some ⟨ba, oa, none⟩) ds.length ca, Value.slice (some ⟨bb, ob, none⟩) dw.length cb, Value.int .i64 dl] 26)) hcb j hlt
      by_cases he : dw[j].1 = (n : Int)
      · have HE := Lib.hid (rdTo_yes (s := ds[n]) hlt he)
        have hq : (dw[j].1 == (n : Int)) = true := by simp [he]
        clear he
        go_wp2
        go_round
        case rel => exact ⟨j + 1, by omega, by go_num, by rw [HE.out]⟩
        case measure => simp [intOf]; omega
      · have HE := Lib.hid (rdTo_no (s := ds[n]) hlt he)
        have hq : (dw[j].1 == (n : Int)) = false := by simp [he]
        clear he
        go_wp2
        go_round
        case rel => exact ⟨j + 1, by omega, by go_num, by rw [HE.out]⟩
        case measure => simp [intOf]; omega
    · have e : j = dw.length := by omega
      subst e
      go_wp2
      go_ret
      exact ⟨rfl, (by repeat (first | exact Below.refl _ _ | (refine Below.alloc ?_ (by first | (simp; done) | (simp; omega)) _) | (refine Below.setCell ?_ (by first | (simp; done) | (simp; omega)) _) | (refine Below.drew ?_)))⟩

set_option maxHeartbeats 400000 in
theorem l2Bit_any (m j : Nat) (w : World) (hm : m ≤ 9223372036854775807) (hj : j ≤ maxLen) :
    Calls Try.prog 75 #[.int .i64 m, .int .i64 j] w fun e w' => e = .returned (.bool (bitB m j)) ∧ w = w' := by
  unfold maxLen at hj
  have hp : ((j : Int) % 60) = ((j % 60 : Nat) : Int) := by simp
  have hr : j % 60 < 60 := Nat.mod_lt _ (by omega)
  obtain ⟨r, hr2⟩ : ∃ r, r = j % 60 := ⟨_, rfl⟩
  rw [← hr2] at hp hr
  have HB := Lib.hid (show bitB m j = decide (m / 2 ^ r % 2 = 1) by unfold bitB; rw [← hr2, Nat.testBit_eq_decide_div_mod_eq])
  clear hr2
  go_enter Try.func75, Try.ntmps75
  go_wp2
  go_loop [0, 5] (fun v0 v5 => ∃ k : Nat, k ≤ r ∧ v5 = .int .i64 k ∧ v0 = .int .i64 ((m / 2 ^ k : Nat) : Int)) (fun _ v5 => r - (intOf v5).toNat)
  case atStart => exact ⟨0, Nat.zero_le _, rfl, by simp⟩
  case round =>
    obtain ⟨k, hk, rfl, rfl⟩ := hrel
    obtain ⟨q, hq⟩ : ∃ q, q = m / 2 ^ k := ⟨_, rfl⟩
    have hqm : q ≤ m := by rw [hq]; exact Nat.div_le_self _ _
    have HQ := Lib.hid (show m / 2 ^ (k + 1) = q / 2 by rw [hq, Nat.pow_succ, Nat.div_div_eq_div_mul])
    have HQ0 := Lib.hid hq
    rw [← hq]
    clear hq
    by_cases hlt : k < r
    · go_wp2
      go_round
      case rel => exact ⟨k + 1, by omega, by go_num, by rw [HQ.out]; go_num⟩
      case measure => simp [intOf]; omega
    · have e : k = r := by omega
      subst e
      go_wp2
      go_ret
      refine ⟨ret_bool ?_, rfl⟩
      rw [HB.out, ← HQ0.out]
      rw [Bool.eq_iff_iff, beq_iff_eq, decide_eq_true_eq]
      omega

set_option maxRecDepth 100000 in
set_option maxHeartbeats 400000 in
theorem specRead_any (v : Value) (d : DiskD) (n : Int) (w : World) (hv : DiskR w v d) :
    Calls Try.prog 41 #[v, .int .i64 n] w fun e w' => e = .returned (.string (readTop d n)) ∧ Below w.heap.size w w' := by
  obtain ⟨a, ca, b, cb, hvv, _⟩ := id hv
  have HV := Lib.hid hv
  clear hv
  subst hvv
  cases hok : diskOk d
  · have HO := Lib.hid hok
    have HR := Lib.hid (show readTop d n = ⟨#[]⟩ by simp [readTop, hok])
    clear hok
    go_enter Try.func41, Try.ntmps41
    go_wp2_with fail
    refine (specDiskOk_any _ d _ (HV.out.below (by repeat (first | exact Below.refl _ _ | (refine Below.alloc ?_ (by first | (simp; done) | (simp; omega)) _) | (refine Below.setCell ?_ (by first | (simp; done) | (simp; omega)) _) | (refine Below.drew ?_))))).mono ?_
    rintro e w1 ⟨rfl, b1⟩
    rw [HO.out]
    go_wp2
    go_ret
    exact ⟨ret_str HR.out.symm, Below.trans (by repeat (first | exact Below.refl _ _ | (refine Below.alloc ?_ (by first | (simp; done) | (simp; omega)) _) | (refine Below.setCell ?_ (by first | (simp; done) | (simp; omega)) _) | (refine Below.drew ?_))) (b1.mono (by simp))⟩
  · have HO := Lib.hid hok
    obtain ⟨p1, p2, p3⟩ := diskOk_parts hok
    have P1 := Lib.hid p1
    clear hok p1 p2 p3
    cases hin : inB n 0 139
    · have HI := Lib.hid hin
      have HR := Lib.hid (show readTop d n = ⟨#[]⟩ by simp [readTop, hin])
      clear hin
      go_enter Try.func41, Try.ntmps41
      go_wp2_with fail
      refine (specDiskOk_any _ d _ (HV.out.below (by repeat (first | exact Below.refl _ _ | (refine Below.alloc ?_ (by first | (simp; done) | (simp; omega)) _) | (refine Below.setCell ?_ (by first | (simp; done) | (simp; omega)) _) | (refine Below.drew ?_))))).mono ?_
      rintro e w1 ⟨rfl, b1⟩
      rw [HO.out]
      go_wp2_with fail
      refine (in_any _ _ _ _).mono ?_
      rintro e w2 ⟨rfl, rfl⟩
      rw [HI.out]
      go_wp2
      go_ret
      exact ⟨ret_str HR.out.symm, Below.trans (by repeat (first | exact Below.refl _ _ | (refine Below.alloc ?_ (by first | (simp; done) | (simp; omega)) _) | (refine Below.setCell ?_ (by first | (simp; done) | (simp; omega)) _) | (refine Below.drew ?_))) (b1.mono (by simp))⟩
    · have HI := Lib.hid hin
      simp only [inB, decide_eq_true_eq] at hin
      obtain ⟨m, rfl⟩ := Int.eq_ofNat_of_zero_le hin.1
      have hm : m < d.1.length := by rw [P1.out]; omega
      have HR := Lib.hid (show readTop d m = rdTo d.2.1 m d.1[m] d.2.1.length by unfold readTop; rw [HO.out, HI.out]; simp [List.getElem?_eq_getElem hm])
      clear hin
      go_enter Try.func41, Try.ntmps41
      go_wp2_with fail
      refine (specDiskOk_any _ d _ (HV.out.below (by repeat (first | exact Below.refl _ _ | (refine Below.alloc ?_ (by first | (simp; done) | (simp; omega)) _) | (refine Below.setCell ?_ (by first | (simp; done) | (simp; omega)) _) | (refine Below.drew ?_))))).mono ?_
      rintro e w1 ⟨rfl, b1⟩
      rw [HO.out]
      have BX := (Box.alloc w #[.slice a d.1.length ca, .slice b d.2.1.length cb, .int .i64 d.2.2] 26).below b1
      have X0 := (BX 0 _ rfl).1
      have X1 := (BX 1 _ rfl).1
      have X2 := (BX 2 _ rfl).1
      have B1 : Below w.heap.size w w1 := Below.trans (by repeat (first | exact Below.refl _ _ | (refine Below.alloc ?_ (by first | (simp; done) | (simp; omega)) _) | (refine Below.setCell ?_ (by first | (simp; done) | (simp; omega)) _) | (refine Below.drew ?_))) (b1.mono (by simp))
      go_wp2_with fail
      refine (in_any _ _ _ _).mono ?_
      rintro e w2 ⟨rfl, rfl⟩
      rw [HI.out]
      go_wp2_with fail
      refine (l2Read_any _ d m _ (HV.out.below B1) hm).mono ?_
      rintro e w3 ⟨rfl, b3⟩
      have B3 : Below w.heap.size w w3 := B1.trans (b3.mono B1.size)
      go_wp2
      go_ret
      exact ⟨ret_str HR.out.symm, B3⟩
end Go.Proofs.Ytjbkhamfingoiaa
