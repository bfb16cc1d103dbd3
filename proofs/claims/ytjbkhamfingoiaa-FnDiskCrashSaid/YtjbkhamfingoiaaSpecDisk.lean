import Derived.Test.YtjbkhamfingoiaaSpecCrash
/- DiskWrite, DiskFlush, DiskCrash of the model. -/
namespace Go.Proofs.Ytjbkhamfingoiaa
open Go Go.RowKit

set_option maxRecDepth 100000 in
set_option maxHeartbeats 800000 in
theorem specWrite_any (v : Value) (d : DiskD) (n : Int) (s : ByteArray) (w : World) (hv : DiskR w v d) (hs : s.size ≤ maxLen) (hhi : d.2.2 ≤ 9223372036854775807) (hlw : d.2.1.length ≤ 1048576) :
    Calls Try.prog 19 #[v, .int .i64 n, .string s] w (TopPost w (writeTop d n s)) := by
  obtain ⟨a, ca, b, cb, hvv, _⟩ := id hv
  have HV := Lib.hid hv
  have HHI := Lib.hid hhi
  have HLW := Lib.hid hlw
  clear hv hhi hlw
  subst hvv
  cases hok : diskOk d
  · have HO := Lib.hid hok
    have HR := Lib.hid (show writeTop d n s = zeroDisk by simp [writeTop, hok])
    clear hok
    go_enter Try.func19, Try.ntmps19
    go_wp2_with fail
    refine (specDiskOk_any _ d _ (HV.out.below (by repeat (first | exact Below.refl _ _ | (refine Below.alloc ?_ (by first | (simp; done) | (simp; omega)) _) | (refine Below.setCell ?_ (by first | (simp; done) | (simp; omega)) _) | (refine Below.drew ?_))))).mono ?_
    rintro e w1 ⟨rfl, b1⟩
    rw [HO.out]
    obtain ⟨BX, BZ, B1, S1⟩ := two_box b1
    have X0 := (BX 0 _ rfl).1
    have X1 := (BX 1 _ rfl).1
    have X2 := (BX 2 _ rfl).1
    obtain ⟨Z0, F0⟩ := BZ 0 _ rfl
    obtain ⟨Z1, F1⟩ := BZ 1 _ rfl
    obtain ⟨Z2, F2⟩ := BZ 2 _ rfl
    go_wp2
    have D := put_disk (b := w.heap.size + 1) (zeroDisk_own w1 w1.heap.size) S1 (.slice none 0 0) (.slice none 0 0) (.int .i64 0)
    have B := put_below B1 (show w.heap.size ≤ w.heap.size + 1 by omega) (.slice none 0 0) (.slice none 0 0) (.int .i64 0)
    exact bodyPost_ret (v := .agg #[.slice none 0 0, .slice none 0 0, .int .i64 0]) (by simp [results, Try.results19, go_sem, Z0, Z1, Z2]) rfl ⟨_, rfl, by rw [HR.out]; exact D.mono B1.size, B⟩
  · have h0 := hok
    have HO := Lib.hid hok
    obtain ⟨p1, p2, p3⟩ := diskOk_parts hok
    have P1 := Lib.hid p1
    have P2 := Lib.hid p2
    have P3 := Lib.hid p3
    clear hok p1 p2 p3
    cases hin : inB n 0 139
    · have HI := Lib.hid hin
      have HR := Lib.hid (show writeTop d n s = d by unfold writeTop; rw [h0, show takesB n s = false by simp only [inB, decide_eq_false_iff_not] at hin; simp only [takesB, decide_eq_false_iff_not]; omega]; rfl)
      clear hin h0
      go_enter Try.func19, Try.ntmps19
      go_wp2_with fail
      refine (specDiskOk_any _ d _ (HV.out.below (by repeat (first | exact Below.refl _ _ | (refine Below.alloc ?_ (by first | (simp; done) | (simp; omega)) _) | (refine Below.setCell ?_ (by first | (simp; done) | (simp; omega)) _) | (refine Below.drew ?_))))).mono ?_
      rintro e w1 ⟨rfl, b1⟩
      rw [HO.out]
      obtain ⟨BX, BZ, B1, S1⟩ := two_box b1
      have X0 := (BX 0 _ rfl).1
      have X1 := (BX 1 _ rfl).1
      have X2 := (BX 2 _ rfl).1
      obtain ⟨Z0, F0⟩ := BZ 0 _ rfl
      obtain ⟨Z1, F1⟩ := BZ 1 _ rfl
      obtain ⟨Z2, F2⟩ := BZ 2 _ rfl
      go_wp2_with fail
      refine (in_any _ _ _ _).mono ?_
      rintro e w2 ⟨rfl, rfl⟩
      rw [HI.out]
      go_wp2_with fail
      refine (copy_any _ d _ (HV.out.below B1) (by have := P1.out; omega) (by have := HLW.out; omega)).mono ?_
      rintro e w9 ⟨u, rfl, o9, b9⟩
      obtain ⟨a9, ca9, e9, ce9, rfl, _⟩ := id o9
      have BZ9 := (BZ.below (Below.refl _ _)).below b9
      clear Z0 F0 Z1 F1 Z2 F2
      obtain ⟨Z0, F0⟩ := BZ9 0 _ rfl
      obtain ⟨Z1, F1⟩ := BZ9 1 _ rfl
      obtain ⟨Z2, F2⟩ := BZ9 2 _ rfl
      have S9 : w.heap.size + 1 < w1.heap.size := Nat.lt_of_lt_of_le S1 (Nat.le_refl _)
      have B9 : Below w.heap.size w w9 := B1.trans (b9.mono B1.size)
      have HX := Lib.hid o9
      clear o9
      go_wp2
      have D := put_disk (b := w.heap.size + 1) HX.out S9 (.slice a9 (d).1.length ca9) (.slice e9 (d).2.1.length ce9) (.int .i64 (d).2.2)
      have B := put_below B9 (show w.heap.size ≤ w.heap.size + 1 by omega) (.slice a9 (d).1.length ca9) (.slice e9 (d).2.1.length ce9) (.int .i64 (d).2.2)
      exact bodyPost_ret (v := .agg #[.slice a9 (d).1.length ca9, .slice e9 (d).2.1.length ce9, .int .i64 (d).2.2]) (by simp [results, Try.results19, go_sem, Z0, Z1, Z2]) rfl ⟨_, rfl, by rw [HR.out]; exact D.mono B1.size, B⟩
    · have HI := Lib.hid hin
      simp only [inB, decide_eq_true_eq] at hin
      have hsz : (s.size : Int) ≤ 9223372036854775807 := by unfold maxLen at hs; omega
      by_cases hbig : 200 < (s.size : Int)
      · have HR := Lib.hid (show writeTop d n s = d by unfold writeTop; rw [h0, show takesB n s = false by simp only [takesB, decide_eq_false_iff_not]; omega]; rfl)
        clear hin h0
        go_enter Try.func19, Try.ntmps19
        go_wp2_with fail
        refine (specDiskOk_any _ d _ (HV.out.below (by repeat (first | exact Below.refl _ _ | (refine Below.alloc ?_ (by first | (simp; done) | (simp; omega)) _) | (refine Below.setCell ?_ (by first | (simp; done) | (simp; omega)) _) | (refine Below.drew ?_))))).mono ?_
        rintro e w1 ⟨rfl, b1⟩
        rw [HO.out]
        obtain ⟨BX, BZ, B1, S1⟩ := two_box b1
        have X0 := (BX 0 _ rfl).1
        have X1 := (BX 1 _ rfl).1
        have X2 := (BX 2 _ rfl).1
        obtain ⟨Z0, F0⟩ := BZ 0 _ rfl
        obtain ⟨Z1, F1⟩ := BZ 1 _ rfl
        obtain ⟨Z2, F2⟩ := BZ 2 _ rfl
        go_wp2_with fail
        refine (in_any _ _ _ _).mono ?_
        rintro e w2 ⟨rfl, rfl⟩
        rw [HI.out]
        go_wp2_with fail
        refine (copy_any _ d _ (HV.out.below B1) (by have := P1.out; omega) (by have := HLW.out; omega)).mono ?_
        rintro e w9 ⟨u, rfl, o9, b9⟩
        obtain ⟨a9, ca9, e9, ce9, rfl, _⟩ := id o9
        have BZ9 := (BZ.below (Below.refl _ _)).below b9
        clear Z0 F0 Z1 F1 Z2 F2
        obtain ⟨Z0, F0⟩ := BZ9 0 _ rfl
        obtain ⟨Z1, F1⟩ := BZ9 1 _ rfl
        obtain ⟨Z2, F2⟩ := BZ9 2 _ rfl
        have S9 : w.heap.size + 1 < w1.heap.size := Nat.lt_of_lt_of_le S1 (Nat.le_refl _)
        have B9 : Below w.heap.size w w9 := B1.trans (b9.mono B1.size)
        have HX := Lib.hid o9
        clear o9
        go_wp2
        have D := put_disk (b := w.heap.size + 1) HX.out S9 (.slice a9 (d).1.length ca9) (.slice e9 (d).2.1.length ce9) (.int .i64 (d).2.2)
        have B := put_below B9 (show w.heap.size ≤ w.heap.size + 1 by omega) (.slice a9 (d).1.length ca9) (.slice e9 (d).2.1.length ce9) (.int .i64 (d).2.2)
        exact bodyPost_ret (v := .agg #[.slice a9 (d).1.length ca9, .slice e9 (d).2.1.length ce9, .int .i64 (d).2.2]) (by simp [results, Try.results19, go_sem, Z0, Z1, Z2]) rfl ⟨_, rfl, by rw [HR.out]; exact D.mono B1.size, B⟩
      · have HR := Lib.hid (show writeTop d n s = dWrite d n s by unfold writeTop; rw [h0, show takesB n s = true by simp only [takesB, decide_eq_true_eq]; omega]; rfl)
        have hle : (s.size : Int) ≤ 200 := by omega
        have hd1 : (dWrite d n s).1.length ≤ 1048576 := by rw [show (dWrite d n s).1 = d.1 by unfold dWrite; split <;> rfl]; have := P1.out; omega
        have hd2 := dWrite_len (n := n) (s := s) HLW.out
        clear hin h0 hbig
        go_enter Try.func19, Try.ntmps19
        go_wp2_with fail
        refine (specDiskOk_any _ d _ (HV.out.below (by repeat (first | exact Below.refl _ _ | (refine Below.alloc ?_ (by first | (simp; done) | (simp; omega)) _) | (refine Below.setCell ?_ (by first | (simp; done) | (simp; omega)) _) | (refine Below.drew ?_))))).mono ?_
        rintro e w1 ⟨rfl, b1⟩
        rw [HO.out]
        obtain ⟨BX, BZ, B1, S1⟩ := two_box b1
        have X0 := (BX 0 _ rfl).1
        have X1 := (BX 1 _ rfl).1
        have X2 := (BX 2 _ rfl).1
        obtain ⟨Z0, F0⟩ := BZ 0 _ rfl
        obtain ⟨Z1, F1⟩ := BZ 1 _ rfl
        obtain ⟨Z2, F2⟩ := BZ 2 _ rfl
        go_wp2_with fail
        refine (in_any _ _ _ _).mono ?_
        rintro e w2 ⟨rfl, rfl⟩
        rw [HI.out]
        go_wp2_with fail
        refine (l2Write_any _ d n s _ (HV.out.below B1) hs P2.out HHI.out HLW.out).mono ?_
        rintro e w4 ⟨u4, rfl, r4, -, b4⟩
        have B4 : Below w.heap.size w w4 := B1.trans (b4.mono B1.size)
        have R4 := Lib.hid r4
        clear r4
        go_wp2_with fail
        refine (copy_any _ (dWrite d n s) _ R4.out hd1 hd2).mono ?_
        rintro e w9 ⟨u, rfl, o9, b9⟩
        obtain ⟨a9, ca9, e9, ce9, rfl, _⟩ := id o9
        have BZ9 := (BZ.below b4).below b9
        clear Z0 F0 Z1 F1 Z2 F2
        obtain ⟨Z0, F0⟩ := BZ9 0 _ rfl
        obtain ⟨Z1, F1⟩ := BZ9 1 _ rfl
        obtain ⟨Z2, F2⟩ := BZ9 2 _ rfl
        have S9 : w.heap.size + 1 < w4.heap.size := Nat.lt_of_lt_of_le S1 b4.size
        have B9 : Below w.heap.size w w9 := B4.trans (b9.mono B4.size)
        have HX := Lib.hid o9
        clear o9
        go_wp2
        have D := put_disk (b := w.heap.size + 1) HX.out S9 (.slice a9 (dWrite d n s).1.length ca9) (.slice e9 (dWrite d n s).2.1.length ce9) (.int .i64 (dWrite d n s).2.2)
        have B := put_below B9 (show w.heap.size ≤ w.heap.size + 1 by omega) (.slice a9 (dWrite d n s).1.length ca9) (.slice e9 (dWrite d n s).2.1.length ce9) (.int .i64 (dWrite d n s).2.2)
        exact bodyPost_ret (v := .agg #[.slice a9 (dWrite d n s).1.length ca9, .slice e9 (dWrite d n s).2.1.length ce9, .int .i64 (dWrite d n s).2.2]) (by simp [results, Try.results19, go_sem, Z0, Z1, Z2]) rfl ⟨_, rfl, by rw [HR.out]; exact D.mono B4.size, B⟩

set_option maxRecDepth 100000 in
set_option maxHeartbeats 800000 in
theorem specFlush_any (v : Value) (d : DiskD) (w : World) (hv : DiskR w v d) (hhi : d.2.2 ≤ 9223372036854775807) (hlw : d.2.1.length ≤ 1048576) :
    Calls Try.prog 26 #[v] w (TopPost w (flushTop d)) := by
  obtain ⟨a, ca, b, cb, hvv, _⟩ := id hv
  have HV := Lib.hid hv
  have HHI := Lib.hid hhi
  have HLW := Lib.hid hlw
  clear hv hhi hlw
  subst hvv
  cases hok : diskOk d
  · have HO := Lib.hid hok
    have HR := Lib.hid (show flushTop d = zeroDisk by simp [flushTop, hok])
    clear hok
    go_enter Try.func26, Try.ntmps26
    go_wp2_with fail
    refine (specDiskOk_any _ d _ (HV.out.below (by repeat (first | exact Below.refl _ _ | (refine Below.alloc ?_ (by first | (simp; done) | (simp; omega)) _) | (refine Below.setCell ?_ (by first | (simp; done) | (simp; omega)) _) | (refine Below.drew ?_))))).mono ?_
    rintro e w1 ⟨rfl, b1⟩
    rw [HO.out]
    obtain ⟨BX, BZ, B1, S1⟩ := two_box b1
    have X0 := (BX 0 _ rfl).1
    have X1 := (BX 1 _ rfl).1
    have X2 := (BX 2 _ rfl).1
    obtain ⟨Z0, F0⟩ := BZ 0 _ rfl
    obtain ⟨Z1, F1⟩ := BZ 1 _ rfl
    obtain ⟨Z2, F2⟩ := BZ 2 _ rfl
    go_wp2
    have D := put_disk (b := w.heap.size + 1) (zeroDisk_own w1 w1.heap.size) S1 (.slice none 0 0) (.slice none 0 0) (.int .i64 0)
    have B := put_below B1 (show w.heap.size ≤ w.heap.size + 1 by omega) (.slice none 0 0) (.slice none 0 0) (.int .i64 0)
    exact bodyPost_ret (v := .agg #[.slice none 0 0, .slice none 0 0, .int .i64 0]) (by simp [results, Try.results26, go_sem, Z0, Z1, Z2]) rfl ⟨_, rfl, by rw [HR.out]; exact D.mono B1.size, B⟩
  · have h0 := hok
    have HO := Lib.hid hok
    obtain ⟨p1, p2, p3⟩ := diskOk_parts hok
    have P1 := Lib.hid p1
    have P2 := Lib.hid p2
    have P3 := Lib.hid p3
    have HR := Lib.hid (show flushTop d = dFlush d by unfold flushTop; rw [h0]; rfl)
    have hd1 : (dFlush d).1.length ≤ 1048576 := by rw [show (dFlush d).1.length = d.1.length by unfold dFlush; split; rfl; exact upTo_len _ _ _ _, p1]; omega
    have hd2 := dFlush_len HLW.out
    clear hok p1 p2 p3 h0
    go_enter Try.func26, Try.ntmps26
    go_wp2_with fail
    refine (specDiskOk_any _ d _ (HV.out.below (by repeat (first | exact Below.refl _ _ | (refine Below.alloc ?_ (by first | (simp; done) | (simp; omega)) _) | (refine Below.setCell ?_ (by first | (simp; done) | (simp; omega)) _) | (refine Below.drew ?_))))).mono ?_
    rintro e w1 ⟨rfl, b1⟩
    rw [HO.out]
    obtain ⟨BX, BZ, B1, S1⟩ := two_box b1
    have X0 := (BX 0 _ rfl).1
    have X1 := (BX 1 _ rfl).1
    have X2 := (BX 2 _ rfl).1
    obtain ⟨Z0, F0⟩ := BZ 0 _ rfl
    obtain ⟨Z1, F1⟩ := BZ 1 _ rfl
    obtain ⟨Z2, F2⟩ := BZ 2 _ rfl
    go_wp2_with fail
    refine (l2Flush_any _ d _ (HV.out.below B1) P2.out HHI.out P1.out P3.out).mono ?_
    rintro e w4 ⟨u4, rfl, r4, -, b4⟩
    have B4 : Below w.heap.size w w4 := B1.trans (b4.mono B1.size)
    have R4 := Lib.hid r4
    clear r4
    go_wp2_with fail
    refine (copy_any _ (dFlush d) _ R4.out hd1 hd2).mono ?_
    rintro e w9 ⟨u, rfl, o9, b9⟩
    obtain ⟨a9, ca9, e9, ce9, rfl, _⟩ := id o9
    have BZ9 := (BZ.below b4).below b9
    clear Z0 F0 Z1 F1 Z2 F2
    obtain ⟨Z0, F0⟩ := BZ9 0 _ rfl
    obtain ⟨Z1, F1⟩ := BZ9 1 _ rfl
    obtain ⟨Z2, F2⟩ := BZ9 2 _ rfl
    have S9 : w.heap.size + 1 < w4.heap.size := Nat.lt_of_lt_of_le S1 b4.size
    have B9 : Below w.heap.size w w9 := B4.trans (b9.mono B4.size)
    have HX := Lib.hid o9
    clear o9
    go_wp2
    have D := put_disk (b := w.heap.size + 1) HX.out S9 (.slice a9 (dFlush d).1.length ca9) (.slice e9 (dFlush d).2.1.length ce9) (.int .i64 (dFlush d).2.2)
    have B := put_below B9 (show w.heap.size ≤ w.heap.size + 1 by omega) (.slice a9 (dFlush d).1.length ca9) (.slice e9 (dFlush d).2.1.length ce9) (.int .i64 (dFlush d).2.2)
    exact bodyPost_ret (v := .agg #[.slice a9 (dFlush d).1.length ca9, .slice e9 (dFlush d).2.1.length ce9, .int .i64 (dFlush d).2.2]) (by simp [results, Try.results26, go_sem, Z0, Z1, Z2]) rfl ⟨_, rfl, by rw [HR.out]; exact D.mono B4.size, B⟩

set_option maxRecDepth 100000 in
set_option maxHeartbeats 800000 in
theorem specCrash_any (v : Value) (d : DiskD) (n : Int) (w : World) (hv : DiskR w v d) (hn : n ≤ 9223372036854775807) (hhi : d.2.2 ≤ 9223372036854775807) (hlw : d.2.1.length ≤ 1048576) :
    Calls Try.prog 30 #[v, .int .i64 n] w (TopPost w (crashTop d n)) := by
  obtain ⟨a, ca, b, cb, hvv, _⟩ := id hv
  have HV := Lib.hid hv
  have HHI := Lib.hid hhi
  have HLW := Lib.hid hlw
  clear hv hhi hlw
  subst hvv
  cases hok : diskOk d
  · have HO := Lib.hid hok
    have HR := Lib.hid (show crashTop d n = zeroDisk by simp [crashTop, hok])
    clear hok
    go_enter Try.func30, Try.ntmps30
    go_wp2_with fail
    refine (specDiskOk_any _ d _ (HV.out.below (by repeat (first | exact Below.refl _ _ | (refine Below.alloc ?_ (by first | (simp; done) | (simp; omega)) _) | (refine Below.setCell ?_ (by first | (simp; done) | (simp; omega)) _) | (refine Below.drew ?_))))).mono ?_
    rintro e w1 ⟨rfl, b1⟩
    rw [HO.out]
    obtain ⟨BX, BZ, B1, S1⟩ := two_box b1
    have X0 := (BX 0 _ rfl).1
    have X1 := (BX 1 _ rfl).1
    have X2 := (BX 2 _ rfl).1
    obtain ⟨Z0, F0⟩ := BZ 0 _ rfl
    obtain ⟨Z1, F1⟩ := BZ 1 _ rfl
    obtain ⟨Z2, F2⟩ := BZ 2 _ rfl
    go_wp2
    have D := put_disk (b := w.heap.size + 1) (zeroDisk_own w1 w1.heap.size) S1 (.slice none 0 0) (.slice none 0 0) (.int .i64 0)
    have B := put_below B1 (show w.heap.size ≤ w.heap.size + 1 by omega) (.slice none 0 0) (.slice none 0 0) (.int .i64 0)
    exact bodyPost_ret (v := .agg #[.slice none 0 0, .slice none 0 0, .int .i64 0]) (by simp [results, Try.results30, go_sem, Z0, Z1, Z2]) rfl ⟨_, rfl, by rw [HR.out]; exact D.mono B1.size, B⟩
  · have h0 := hok
    have HO := Lib.hid hok
    obtain ⟨p1, p2, p3⟩ := diskOk_parts hok
    have P1 := Lib.hid p1
    have P2 := Lib.hid p2
    have P3 := Lib.hid p3
    by_cases hn0 : 0 ≤ n
    · obtain ⟨m, rfl⟩ := Int.eq_ofNat_of_zero_le hn0
      have HR := Lib.hid (show crashTop d m = dCrash m d by unfold crashTop; rw [h0]; simp)
      have hm : m ≤ 9223372036854775807 := by omega
      clear hok p1 p2 p3 hn hn0 h0
      go_enter Try.func30, Try.ntmps30
      go_wp2_with fail
      refine (specDiskOk_any _ d _ (HV.out.below (by repeat (first | exact Below.refl _ _ | (refine Below.alloc ?_ (by first | (simp; done) | (simp; omega)) _) | (refine Below.setCell ?_ (by first | (simp; done) | (simp; omega)) _) | (refine Below.drew ?_))))).mono ?_
      rintro e w1 ⟨rfl, b1⟩
      rw [HO.out]
      obtain ⟨BX, BZ, B1, S1⟩ := two_box b1
      have X0 := (BX 0 _ rfl).1
      have X1 := (BX 1 _ rfl).1
      have X2 := (BX 2 _ rfl).1
      obtain ⟨Z0, F0⟩ := BZ 0 _ rfl
      obtain ⟨Z1, F1⟩ := BZ 1 _ rfl
      obtain ⟨Z2, F2⟩ := BZ 2 _ rfl
      go_wp2_with fail
      refine (l2Crash_any _ d m _ hm (HV.out.below B1) P1.out P3.out).mono ?_
      rintro e w9 ⟨u, rfl, o9, b9⟩
      obtain ⟨a9, ca9, e9, ce9, rfl, _⟩ := id o9
      have BZ9 := (BZ.below (Below.refl _ _)).below b9
      clear Z0 F0 Z1 F1 Z2 F2
      obtain ⟨Z0, F0⟩ := BZ9 0 _ rfl
      obtain ⟨Z1, F1⟩ := BZ9 1 _ rfl
      obtain ⟨Z2, F2⟩ := BZ9 2 _ rfl
      have S9 : w.heap.size + 1 < w1.heap.size := Nat.lt_of_lt_of_le S1 (Nat.le_refl _)
      have B9 : Below w.heap.size w w9 := B1.trans (b9.mono B1.size)
      have HX := Lib.hid o9
      clear o9
      go_wp2
      have D := put_disk (b := w.heap.size + 1) HX.out S9 (.slice a9 (dCrash m d).1.length ca9) (.slice e9 (dCrash m d).2.1.length ce9) (.int .i64 (dCrash m d).2.2)
      have B := put_below B9 (show w.heap.size ≤ w.heap.size + 1 by omega) (.slice a9 (dCrash m d).1.length ca9) (.slice e9 (dCrash m d).2.1.length ce9) (.int .i64 (dCrash m d).2.2)
      exact bodyPost_ret (v := .agg #[.slice a9 (dCrash m d).1.length ca9, .slice e9 (dCrash m d).2.1.length ce9, .int .i64 (dCrash m d).2.2]) (by simp [results, Try.results30, go_sem, Z0, Z1, Z2]) rfl ⟨_, rfl, by rw [HR.out]; exact D.mono B1.size, B⟩
    · have HR := Lib.hid (show crashTop d n = zeroDisk by unfold crashTop; rw [decide_eq_false hn0]; simp)
      have hn1 : n < 0 := by omega
      clear hok p1 p2 p3 hn0 h0
      go_enter Try.func30, Try.ntmps30
      go_wp2_with fail
      refine (specDiskOk_any _ d _ (HV.out.below (by repeat (first | exact Below.refl _ _ | (refine Below.alloc ?_ (by first | (simp; done) | (simp; omega)) _) | (refine Below.setCell ?_ (by first | (simp; done) | (simp; omega)) _) | (refine Below.drew ?_))))).mono ?_
      rintro e w1 ⟨rfl, b1⟩
      rw [HO.out]
      obtain ⟨BX, BZ, B1, S1⟩ := two_box b1
      have X0 := (BX 0 _ rfl).1
      have X1 := (BX 1 _ rfl).1
      have X2 := (BX 2 _ rfl).1
      obtain ⟨Z0, F0⟩ := BZ 0 _ rfl
      obtain ⟨Z1, F1⟩ := BZ 1 _ rfl
      obtain ⟨Z2, F2⟩ := BZ 2 _ rfl
      go_wp2
      have D := put_disk (b := w.heap.size + 1) (zeroDisk_own w1 w1.heap.size) S1 (.slice none 0 0) (.slice none 0 0) (.int .i64 0)
      have B := put_below B1 (show w.heap.size ≤ w.heap.size + 1 by omega) (.slice none 0 0) (.slice none 0 0) (.int .i64 0)
      exact bodyPost_ret (v := .agg #[.slice none 0 0, .slice none 0 0, .int .i64 0]) (by simp [results, Try.results30, go_sem, Z0, Z1, Z2]) rfl ⟨_, rfl, by rw [HR.out]; exact D.mono B1.size, B⟩
end Go.Proofs.Ytjbkhamfingoiaa
