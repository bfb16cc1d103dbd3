import Derived.Test.YtjbkhamfingoiaaDriveTell
/- DiskRead, DiskWrite, DiskFlush, DiskCrash of the program. -/
namespace Go.Proofs.Ytjbkhamfingoiaa
open Go Go.RowKit

def zeroDisk : DiskD := ([], [], 0)
def readTop (d : DiskD) (n : Int) : ByteArray := if diskOk d && inB n 0 139 then rdTo d.2.1 n (d.1.getD n.toNat ⟨#[]⟩) d.2.1.length else ⟨#[]⟩
def writeTop (d : DiskD) (n : Int) (s : ByteArray) : DiskD := if diskOk d then (if takesB n s then dWrite d n s else d) else zeroDisk
def flushTop (d : DiskD) : DiskD := if diskOk d then dFlush d else zeroDisk
def crashTop (d : DiskD) (n : Int) : DiskD := if diskOk d && decide (0 ≤ n) then dCrash n.toNat d else zeroDisk

theorem diskOk_parts {d : DiskD} (h : diskOk d = true) : d.1.length = 140 ∧ -1 ≤ d.2.2 ∧ (∀ x ∈ d.2.1, 0 ≤ x.1 ∧ x.1 ≤ 139) := by
  simp only [diskOk, Bool.and_eq_true, decide_eq_true_eq, List.all_eq_true] at h
  refine ⟨h.2.1, h.2.2, fun x hx => ?_⟩
  have := h.1.2 x hx
  simp only [waitOk, decide_eq_true_eq] at this
  omega

set_option maxRecDepth 100000 in
set_option maxHeartbeats 800000 in
theorem implRead_any (v : Value) (d : DiskD) (n : Int) (w : World) (hv : DiskR w v d) :
    Calls Try.prog 23 #[v, .int .i64 n] w fun e w' => e = .returned (.string (readTop d n)) ∧ Below w.heap.size w w' := by
  obtain ⟨a, ca, b, cb, hvv, _⟩ := id hv
  have HV := Lib.hid hv
  clear hv
  subst hvv
  cases hok : diskOk d
  · have HO := Lib.hid hok
    have HR := Lib.hid (show readTop d n = ⟨#[]⟩ by simp [readTop, hok])
    clear hok
    go_enter Try.func23, Try.ntmps23
    go_wp2_with fail
    refine (implDiskOk_any _ d _ (HV.out.below (by repeat (first | exact Below.refl _ _ | (refine Below.alloc ?_ (by first | (simp; done) | (simp; omega)) _) | (refine Below.setCell ?_ (by first | (simp; done) | (simp; omega)) _) | (refine Below.drew ?_))))).mono ?_
    rintro e w1 ⟨rfl, b1⟩
    rw [HO.out]
    go_wp2
    go_ret
    exact ⟨ret_str HR.out.symm, Below.trans (by repeat (first | exact Below.refl _ _ | (refine Below.alloc ?_ (by first | (simp; done) | (simp; omega)) _) | (refine Below.setCell ?_ (by first | (simp; done) | (simp; omega)) _) | (refine Below.drew ?_))) (b1.mono (by simp))⟩
  · have HO := Lib.hid hok
    obtain ⟨p1, p2, p3⟩ := diskOk_parts hok
    have P1 := Lib.hid p1
    have P2 := Lib.hid p2
    have P3 := Lib.hid p3
    clear hok p1 p2 p3
    cases hin : inB n 0 139
    · have HI := Lib.hid hin
      have HR := Lib.hid (show readTop d n = ⟨#[]⟩ by simp [readTop, hin])
      clear hin
      go_enter Try.func23, Try.ntmps23
      go_wp2_with fail
      refine (implDiskOk_any _ d _ (HV.out.below (by repeat (first | exact Below.refl _ _ | (refine Below.alloc ?_ (by first | (simp; done) | (simp; omega)) _) | (refine Below.setCell ?_ (by first | (simp; done) | (simp; omega)) _) | (refine Below.drew ?_))))).mono ?_
      rintro e w1 ⟨rfl, b1⟩
      rw [HO.out]
      go_wp2_with fail
      refine (has_any _ _).mono ?_
      rintro e w2 ⟨rfl, rfl⟩
      rw [HI.out]
      go_wp2
      go_ret
      exact ⟨ret_str HR.out.symm, Below.trans (by repeat (first | exact Below.refl _ _ | (refine Below.alloc ?_ (by first | (simp; done) | (simp; omega)) _) | (refine Below.setCell ?_ (by first | (simp; done) | (simp; omega)) _) | (refine Below.drew ?_))) (b1.mono (by simp))⟩
    · have HI := Lib.hid hin
      simp only [inB, decide_eq_true_eq] at hin
      obtain ⟨m, rfl⟩ := Int.eq_ofNat_of_zero_le hin.1
      have hm : m < d.1.length := by rw [P1.out]; omega
      have HR := Lib.hid (show readTop d m = rdTo d.2.1 m d.1[m] d.2.1.length by unfold readTop; rw [HO.out, HI.out]; simp [List.getElem?_eq_getElem hm])
      clear hin
      go_enter Try.func23, Try.ntmps23
      go_wp2_with fail
      refine (implDiskOk_any _ d _ (HV.out.below (by repeat (first | exact Below.refl _ _ | (refine Below.alloc ?_ (by first | (simp; done) | (simp; omega)) _) | (refine Below.setCell ?_ (by first | (simp; done) | (simp; omega)) _) | (refine Below.drew ?_))))).mono ?_
      rintro e w1 ⟨rfl, b1⟩
      rw [HO.out]
      have BX := (Box.alloc w #[.slice a d.1.length ca, .slice b d.2.1.length cb, .int .i64 d.2.2] 26).below b1
      have X0 := (BX 0 _ rfl).1
      have X1 := (BX 1 _ rfl).1
      have X2 := (BX 2 _ rfl).1
      have B1 : Below w.heap.size w w1 := Below.trans (by repeat (first | exact Below.refl _ _ | (refine Below.alloc ?_ (by first | (simp; done) | (simp; omega)) _) | (refine Below.setCell ?_ (by first | (simp; done) | (simp; omega)) _) | (refine Below.drew ?_))) (b1.mono (by simp))
      go_wp2_with fail
      refine (has_any _ _).mono ?_
      rintro e w2 ⟨rfl, rfl⟩
      rw [HI.out]
      go_wp2_with fail
      refine (start_any _ d _ (HV.out.below B1) P1.out).mono ?_
      rintro e w3 ⟨P, nb, rfl, dr, b3⟩
      have B3 : Below w.heap.size w w3 := B1.trans (b3.mono B1.size)
      go_wp2_with fail
      refine (read_any _ P nb d m _ dr hm).mono ?_
      rintro e w4 ⟨rfl, b4⟩
      go_wp2
      go_ret
      exact ⟨ret_str HR.out.symm, B3.trans (b4.mono B3.size)⟩

theorem zeroDisk_own (w : World) (base : Nat) : DiskO w base (.agg #[.slice none 0 0, .slice none 0 0, .int .i64 0]) zeroDisk :=
  ⟨none, 0, none, 0, rfl, World.ownsRow_nil _ _ _ _, World.ownsRow_nil _ _ _ _, fun x y hx => by simp [Value.ownBlock] at hx⟩

def TopPost (w : World) (x : DiskD) (e : Ending) (w' : World) : Prop := ∃ u, e = .returned u ∧ DiskO w' w.heap.size u x ∧ Below w.heap.size w w'

theorem dWrite_len {d : DiskD} {n : Int} {s : ByteArray} (h : d.2.1.length ≤ 1048576) : (dWrite d n s).2.1.length ≤ 1048577 := by
  unfold dWrite
  split
  · omega
  · simp; omega
theorem dFlush_len {d : DiskD} (h : d.2.1.length ≤ 1048576) : (dFlush d).2.1.length ≤ 1048577 := by
  unfold dFlush
  split
  · omega
  · simp
theorem two_box {w w1 : World} {xs ys : Array Value} {t1 t2 : TypeId} (h : Below ((w.alloc (.cells xs t1)).alloc (.cells ys t2)).heap.size ((w.alloc (.cells xs t1)).alloc (.cells ys t2)) w1) :
    Box w1 w.heap.size xs.toList ∧ Box w1 (w.heap.size + 1) ys.toList ∧ Below w.heap.size w w1 ∧ w.heap.size + 1 < w1.heap.size := by
  refine ⟨((Box.alloc w xs t1).below (below_alloc _ _)).below h, ?_, ?_, ?_⟩
  · have h1 := Box.alloc (w.alloc (.cells xs t1)) ys t2
    rw [World.size_alloc] at h1
    exact h1.below h
  · exact ((below_alloc w _).trans ((below_alloc _ _).mono (by simp))).trans (h.mono (by simp; omega))
  · have := h.size
    simp at this
    omega
theorem put_disk {w : World} {base b : Nat} {v : Value} {x : DiskD} (h : DiskO w base v x) (hb : b < base) (y0 y1 y2 : Value) : DiskO (((w.setCell ⟨b, 0, none⟩ y0).setCell ⟨b, 1, none⟩ y1).setCell ⟨b, 2, none⟩ y2) base v x :=
  h.kept ((((KeptOut.refl (fun k => k = b) w).setCell (p := ⟨b, 0, none⟩) rfl y0).setCell (p := ⟨b, 1, none⟩) rfl y1).setCell (p := ⟨b, 2, none⟩) rfl y2) (fun k hk e => by have := (h.lt hk).1; omega)
theorem put_below {w0 w : World} {B b : Nat} (h : Below B w0 w) (hb : B ≤ b) (y0 y1 y2 : Value) : Below B w0 (((w.setCell ⟨b, 0, none⟩ y0).setCell ⟨b, 1, none⟩ y1).setCell ⟨b, 2, none⟩ y2) :=
  ((h.setCell (p := ⟨b, 0, none⟩) hb y0).setCell (p := ⟨b, 1, none⟩) hb y1).setCell (p := ⟨b, 2, none⟩) hb y2

set_option maxRecDepth 100000 in
set_option maxHeartbeats 800000 in
theorem implWrite_any (v : Value) (d : DiskD) (n : Int) (s : ByteArray) (w : World) (hv : DiskR w v d) (hs : s.size ≤ maxLen) (hhi : d.2.2 ≤ 9223372036854775807) (hlw : d.2.1.length ≤ 1048576) :
    Calls Try.prog 17 #[v, .int .i64 n, .string s] w (TopPost w (writeTop d n s)) := by
  obtain ⟨a, ca, b, cb, hvv, _⟩ := id hv
  have HV := Lib.hid hv
  have HHI := Lib.hid hhi
  have HLW := Lib.hid hlw
  clear hv hhi hlw
  subst hvv
  cases hok : diskOk d
  · have HO := Lib.hid hok
    have HR := Lib.hid (show writeTop d n s = zeroDisk by simp [writeTop, hok])
    clear hok
    go_enter Try.func17, Try.ntmps17
    go_wp2_with fail
    refine (implDiskOk_any _ d _ (HV.out.below (by repeat (first | exact Below.refl _ _ | (refine Below.alloc ?_ (by first | (simp; done) | (simp; omega)) _) | (refine Below.setCell ?_ (by first | (simp; done) | (simp; omega)) _) | (refine Below.drew ?_))))).mono ?_
    rintro e w1 ⟨rfl, b1⟩
    rw [HO.out]
    obtain ⟨BX, BZ, B1, S1⟩ := two_box b1
    have X0 := (BX 0 _ rfl).1
    have X1 := (BX 1 _ rfl).1
    have X2 := (BX 2 _ rfl).1
    obtain ⟨Z0, F0⟩ := BZ 0 _ rfl
    obtain ⟨Z1, F1⟩ := BZ 1 _ rfl
    obtain ⟨Z2, F2⟩ := BZ 2 _ rfl
    go_wp2
    have D := put_disk (b := w.heap.size + 1) (zeroDisk_own w1 w1.heap.size) S1 (.slice none 0 0) (.slice none 0 0) (.int .i64 0)
    have B := put_below B1 (show w.heap.size ≤ w.heap.size + 1 by omega) (.slice none 0 0) (.slice none 0 0) (.int .i64 0)
    exact bodyPost_ret (v := .agg #[.slice none 0 0, .slice none 0 0, .int .i64 0]) (by simp [results, Try.results17, go_sem, Z0, Z1, Z2]) rfl ⟨_, rfl, by rw [HR.out]; exact D.mono B1.size, B⟩
  · have HO := Lib.hid hok
    obtain ⟨p1, p2, p3⟩ := diskOk_parts hok
    have P1 := Lib.hid p1
    have P2 := Lib.hid p2
    clear hok p1 p2 p3
    cases hin : takesB n s
    · have HI := Lib.hid hin
      have HR := Lib.hid (show writeTop d n s = d by unfold writeTop; rw [HO.out, hin]; rfl)
      clear hin
      go_enter Try.func17, Try.ntmps17
      go_wp2_with fail
      refine (implDiskOk_any _ d _ (HV.out.below (by repeat (first | exact Below.refl _ _ | (refine Below.alloc ?_ (by first | (simp; done) | (simp; omega)) _) | (refine Below.setCell ?_ (by first | (simp; done) | (simp; omega)) _) | (refine Below.drew ?_))))).mono ?_
      rintro e w1 ⟨rfl, b1⟩
      rw [HO.out]
      obtain ⟨BX, BZ, B1, S1⟩ := two_box b1
      have X0 := (BX 0 _ rfl).1
      have X1 := (BX 1 _ rfl).1
      have X2 := (BX 2 _ rfl).1
      obtain ⟨Z0, F0⟩ := BZ 0 _ rfl
      obtain ⟨Z1, F1⟩ := BZ 1 _ rfl
      obtain ⟨Z2, F2⟩ := BZ 2 _ rfl
      go_wp2_with fail
      refine (start_any _ d _ (HV.out.below B1) P1.out).mono ?_
      rintro e w2 ⟨P, nb, rfl, dr2, b2⟩
      have B2 : Below w.heap.size w w2 := B1.trans (b2.mono B1.size)
      have BZ2 := BZ.below b2
      have S2 := b2.size
      go_wp2_with fail
      refine (takes_any _ _ _ hs).mono ?_
      rintro e w3 ⟨rfl, rfl⟩
      rw [HI.out]
      go_wp2_with fail
      refine (disk_any _ P nb _ _ dr2 (Nat.le_succ_of_le HLW.out)).mono ?_
      rintro e w9 ⟨u, rfl, o9, b9⟩
      have BZ9 := (BZ2).below b9
      obtain ⟨a9, ca9, e9, ce9, rfl, _⟩ := id o9
      clear Z0 F0 Z1 F1 Z2 F2
      obtain ⟨Z0, F0⟩ := BZ9 0 _ rfl
      obtain ⟨Z1, F1⟩ := BZ9 1 _ rfl
      obtain ⟨Z2, F2⟩ := BZ9 2 _ rfl
      have B9 : Below w.heap.size w w9 := (B2).trans (b9.mono (B2).size)
      have HX := Lib.hid o9
      clear o9
      go_wp2
      have D := put_disk (b := w.heap.size + 1) HX.out (by omega) (.slice a9 d.1.length ca9) (.slice e9 d.2.1.length ce9) (.int .i64 d.2.2)
      have B := put_below B9 (show w.heap.size ≤ w.heap.size + 1 by omega) (.slice a9 d.1.length ca9) (.slice e9 d.2.1.length ce9) (.int .i64 d.2.2)
      refine bodyPost_ret (v := .agg #[.slice a9 d.1.length ca9, .slice e9 d.2.1.length ce9, .int .i64 d.2.2]) (by simp [results, Try.results17, go_sem, Z0, Z1, Z2]) rfl ⟨_, rfl, by rw [HR.out]; exact D.mono (B2).size, B⟩
    · have HI := Lib.hid hin
      have HR := Lib.hid (show writeTop d n s = dWrite d n s by unfold writeTop; rw [HO.out, hin]; rfl)
      clear hin
      go_enter Try.func17, Try.ntmps17
      go_wp2_with fail
      refine (implDiskOk_any _ d _ (HV.out.below (by repeat (first | exact Below.refl _ _ | (refine Below.alloc ?_ (by first | (simp; done) | (simp; omega)) _) | (refine Below.setCell ?_ (by first | (simp; done) | (simp; omega)) _) | (refine Below.drew ?_))))).mono ?_
      rintro e w1 ⟨rfl, b1⟩
      rw [HO.out]
      obtain ⟨BX, BZ, B1, S1⟩ := two_box b1
      have X0 := (BX 0 _ rfl).1
      have X1 := (BX 1 _ rfl).1
      have X2 := (BX 2 _ rfl).1
      obtain ⟨Z0, F0⟩ := BZ 0 _ rfl
      obtain ⟨Z1, F1⟩ := BZ 1 _ rfl
      obtain ⟨Z2, F2⟩ := BZ 2 _ rfl
      go_wp2_with fail
      refine (start_any _ d _ (HV.out.below B1) P1.out).mono ?_
      rintro e w2 ⟨P, nb, rfl, dr2, b2⟩
      have B2 : Below w.heap.size w w2 := B1.trans (b2.mono B1.size)
      have BZ2 := BZ.below b2
      have S2 := b2.size
      go_wp2_with fail
      refine (takes_any _ _ _ hs).mono ?_
      rintro e w3 ⟨rfl, rfl⟩
      rw [HI.out]
      go_wp2_with fail
      refine (write_any _ P nb d n s _ dr2 P2.out HHI.out).mono ?_
      rintro e w4 ⟨rfl, ⟨nb4, dr4⟩, k4⟩
      have B4 : Below w.heap.size w w4 := k4.below B2 B2.size (fun k hk => Nat.le_trans B1.size (dr2.own k hk))
      have BZ4 := BZ2.kept k4 (fun h => by have := dr2.own _ h; omega)
      have S4 := k4.size
      go_wp2_with fail
      refine (disk_any _ P nb4 _ _ dr4 (dWrite_len HLW.out)).mono ?_
      rintro e w9 ⟨u, rfl, o9, b9⟩
      have BZ9 := (BZ4).below b9
      obtain ⟨a9, ca9, e9, ce9, rfl, _⟩ := id o9
      clear Z0 F0 Z1 F1 Z2 F2
      obtain ⟨Z0, F0⟩ := BZ9 0 _ rfl
      obtain ⟨Z1, F1⟩ := BZ9 1 _ rfl
      obtain ⟨Z2, F2⟩ := BZ9 2 _ rfl
      have B9 : Below w.heap.size w w9 := (B4).trans (b9.mono (B4).size)
      have HX := Lib.hid o9
      clear o9
      go_wp2
      have D := put_disk (b := w.heap.size + 1) HX.out (by omega) (.slice a9 (dWrite d n s).1.length ca9) (.slice e9 (dWrite d n s).2.1.length ce9) (.int .i64 (dWrite d n s).2.2)
      have B := put_below B9 (show w.heap.size ≤ w.heap.size + 1 by omega) (.slice a9 (dWrite d n s).1.length ca9) (.slice e9 (dWrite d n s).2.1.length ce9) (.int .i64 (dWrite d n s).2.2)
      refine bodyPost_ret (v := .agg #[.slice a9 (dWrite d n s).1.length ca9, .slice e9 (dWrite d n s).2.1.length ce9, .int .i64 (dWrite d n s).2.2]) (by simp [results, Try.results17, go_sem, Z0, Z1, Z2]) rfl ⟨_, rfl, by rw [HR.out]; exact D.mono (B4).size, B⟩

set_option maxRecDepth 100000 in
set_option maxHeartbeats 800000 in
theorem implFlush_any (v : Value) (d : DiskD) (w : World) (hv : DiskR w v d) (hhi : d.2.2 ≤ 9223372036854775807) (hlw : d.2.1.length ≤ 1048576) :
    Calls Try.prog 25 #[v] w (TopPost w (flushTop d)) := by
  obtain ⟨a, ca, b, cb, hvv, _⟩ := id hv
  have HV := Lib.hid hv
  have HHI := Lib.hid hhi
  have HLW := Lib.hid hlw
  clear hv hhi hlw
  subst hvv
  cases hok : diskOk d
  · have HO := Lib.hid hok
    have HR := Lib.hid (show flushTop d = zeroDisk by simp [flushTop, hok])
    clear hok
    go_enter Try.func25, Try.ntmps25
    go_wp2_with fail
    refine (implDiskOk_any _ d _ (HV.out.below (by repeat (first | exact Below.refl _ _ | (refine Below.alloc ?_ (by first | (simp; done) | (simp; omega)) _) | (refine Below.setCell ?_ (by first | (simp; done) | (simp; omega)) _) | (refine Below.drew ?_))))).mono ?_
    rintro e w1 ⟨rfl, b1⟩
    rw [HO.out]
    obtain ⟨BX, BZ, B1, S1⟩ := two_box b1
    have X0 := (BX 0 _ rfl).1
    have X1 := (BX 1 _ rfl).1
    have X2 := (BX 2 _ rfl).1
    obtain ⟨Z0, F0⟩ := BZ 0 _ rfl
    obtain ⟨Z1, F1⟩ := BZ 1 _ rfl
    obtain ⟨Z2, F2⟩ := BZ 2 _ rfl
    go_wp2
    have D := put_disk (b := w.heap.size + 1) (zeroDisk_own w1 w1.heap.size) S1 (.slice none 0 0) (.slice none 0 0) (.int .i64 0)
    have B := put_below B1 (show w.heap.size ≤ w.heap.size + 1 by omega) (.slice none 0 0) (.slice none 0 0) (.int .i64 0)
    exact bodyPost_ret (v := .agg #[.slice none 0 0, .slice none 0 0, .int .i64 0]) (by simp [results, Try.results25, go_sem, Z0, Z1, Z2]) rfl ⟨_, rfl, by rw [HR.out]; exact D.mono B1.size, B⟩
  · have HO := Lib.hid hok
    obtain ⟨p1, p2, p3⟩ := diskOk_parts hok
    have P1 := Lib.hid p1
    have P2 := Lib.hid p2
    have P3 := Lib.hid p3
    have HR := Lib.hid (show flushTop d = dFlush d by unfold flushTop; rw [hok]; rfl)
    clear hok p1 p2 p3
    go_enter Try.func25, Try.ntmps25
    go_wp2_with fail
    refine (implDiskOk_any _ d _ (HV.out.below (by repeat (first | exact Below.refl _ _ | (refine Below.alloc ?_ (by first | (simp; done) | (simp; omega)) _) | (refine Below.setCell ?_ (by first | (simp; done) | (simp; omega)) _) | (refine Below.drew ?_))))).mono ?_
    rintro e w1 ⟨rfl, b1⟩
    rw [HO.out]
    obtain ⟨BX, BZ, B1, S1⟩ := two_box b1
    have X0 := (BX 0 _ rfl).1
    have X1 := (BX 1 _ rfl).1
    have X2 := (BX 2 _ rfl).1
    obtain ⟨Z0, F0⟩ := BZ 0 _ rfl
    obtain ⟨Z1, F1⟩ := BZ 1 _ rfl
    obtain ⟨Z2, F2⟩ := BZ 2 _ rfl
    go_wp2_with fail
    refine (start_any _ d _ (HV.out.below B1) P1.out).mono ?_
    rintro e w2 ⟨P, nb, rfl, dr2, b2⟩
    have B2 : Below w.heap.size w w2 := B1.trans (b2.mono B1.size)
    have BZ2 := BZ.below b2
    have S2 := b2.size
    go_wp2_with fail
    refine (flush_any _ P nb d _ dr2 P2.out HHI.out P3.out).mono ?_
    rintro e w4 ⟨rfl, ⟨nb4, dr4⟩, k4⟩
    have B4 : Below w.heap.size w w4 := k4.below B2 B2.size (fun k hk => Nat.le_trans B1.size (dr2.own k hk))
    have BZ4 := BZ2.kept k4 (fun h => by have := dr2.own _ h; omega)
    have S4 := k4.size
    go_wp2_with fail
    refine (disk_any _ P nb4 _ _ dr4 (dFlush_len HLW.out)).mono ?_
    rintro e w9 ⟨u, rfl, o9, b9⟩
    have BZ9 := (BZ4).below b9
    obtain ⟨a9, ca9, e9, ce9, rfl, _⟩ := id o9
    clear Z0 F0 Z1 F1 Z2 F2
    obtain ⟨Z0, F0⟩ := BZ9 0 _ rfl
    obtain ⟨Z1, F1⟩ := BZ9 1 _ rfl
    obtain ⟨Z2, F2⟩ := BZ9 2 _ rfl
    have B9 : Below w.heap.size w w9 := (B4).trans (b9.mono (B4).size)
    have HX := Lib.hid o9
    clear o9
    go_wp2
    have D := put_disk (b := w.heap.size + 1) HX.out (by omega) (.slice a9 (dFlush d).1.length ca9) (.slice e9 (dFlush d).2.1.length ce9) (.int .i64 (dFlush d).2.2)
    have B := put_below B9 (show w.heap.size ≤ w.heap.size + 1 by omega) (.slice a9 (dFlush d).1.length ca9) (.slice e9 (dFlush d).2.1.length ce9) (.int .i64 (dFlush d).2.2)
    refine bodyPost_ret (v := .agg #[.slice a9 (dFlush d).1.length ca9, .slice e9 (dFlush d).2.1.length ce9, .int .i64 (dFlush d).2.2]) (by simp [results, Try.results25, go_sem, Z0, Z1, Z2]) rfl ⟨_, rfl, by rw [HR.out]; exact D.mono (B4).size, B⟩

set_option maxRecDepth 100000 in
set_option maxHeartbeats 800000 in
theorem implCrash_any (v : Value) (d : DiskD) (n : Int) (w : World) (hv : DiskR w v d) (hn : n ≤ 9223372036854775807) (hhi : d.2.2 ≤ 9223372036854775807) (hlw : d.2.1.length ≤ 1048576) :
    Calls Try.prog 27 #[v, .int .i64 n] w (TopPost w (crashTop d n)) := by
  obtain ⟨a, ca, b, cb, hvv, _⟩ := id hv
  have HV := Lib.hid hv
  have HHI := Lib.hid hhi
  have HLW := Lib.hid hlw
  clear hv hhi hlw
  subst hvv
  cases hok : diskOk d
  · have HO := Lib.hid hok
    have HR := Lib.hid (show crashTop d n = zeroDisk by simp [crashTop, hok])
    clear hok
    go_enter Try.func27, Try.ntmps27
    go_wp2_with fail
    refine (implDiskOk_any _ d _ (HV.out.below (by repeat (first | exact Below.refl _ _ | (refine Below.alloc ?_ (by first | (simp; done) | (simp; omega)) _) | (refine Below.setCell ?_ (by first | (simp; done) | (simp; omega)) _) | (refine Below.drew ?_))))).mono ?_
    rintro e w1 ⟨rfl, b1⟩
    rw [HO.out]
    obtain ⟨BX, BZ, B1, S1⟩ := two_box b1
    have X0 := (BX 0 _ rfl).1
    have X1 := (BX 1 _ rfl).1
    have X2 := (BX 2 _ rfl).1
    obtain ⟨Z0, F0⟩ := BZ 0 _ rfl
    obtain ⟨Z1, F1⟩ := BZ 1 _ rfl
    obtain ⟨Z2, F2⟩ := BZ 2 _ rfl
    go_wp2
    have D := put_disk (b := w.heap.size + 1) (zeroDisk_own w1 w1.heap.size) S1 (.slice none 0 0) (.slice none 0 0) (.int .i64 0)
    have B := put_below B1 (show w.heap.size ≤ w.heap.size + 1 by omega) (.slice none 0 0) (.slice none 0 0) (.int .i64 0)
    exact bodyPost_ret (v := .agg #[.slice none 0 0, .slice none 0 0, .int .i64 0]) (by simp [results, Try.results27, go_sem, Z0, Z1, Z2]) rfl ⟨_, rfl, by rw [HR.out]; exact D.mono B1.size, B⟩
  · have HO := Lib.hid hok
    obtain ⟨p1, p2, p3⟩ := diskOk_parts hok
    have P1 := Lib.hid p1
    have P2 := Lib.hid p2
    have P3 := Lib.hid p3
    by_cases hn0 : 0 ≤ n
    · obtain ⟨m, rfl⟩ := Int.eq_ofNat_of_zero_le hn0
      have HR := Lib.hid (show crashTop d m = dCrash m d by unfold crashTop; rw [hok]; simp)
      have hm : m ≤ 9223372036854775807 := by omega
      clear hok p1 p2 p3 hn hn0
      go_enter Try.func27, Try.ntmps27
      go_wp2_with fail
      refine (implDiskOk_any _ d _ (HV.out.below (by repeat (first | exact Below.refl _ _ | (refine Below.alloc ?_ (by first | (simp; done) | (simp; omega)) _) | (refine Below.setCell ?_ (by first | (simp; done) | (simp; omega)) _) | (refine Below.drew ?_))))).mono ?_
      rintro e w1 ⟨rfl, b1⟩
      rw [HO.out]
      obtain ⟨BX, BZ, B1, S1⟩ := two_box b1
      have X0 := (BX 0 _ rfl).1
      have X1 := (BX 1 _ rfl).1
      have X2 := (BX 2 _ rfl).1
      obtain ⟨Z0, F0⟩ := BZ 0 _ rfl
      obtain ⟨Z1, F1⟩ := BZ 1 _ rfl
      obtain ⟨Z2, F2⟩ := BZ 2 _ rfl
      go_wp2_with fail
      refine (start_any _ d _ (HV.out.below B1) P1.out).mono ?_
      rintro e w2 ⟨P, nb, rfl, dr2, b2⟩
      have B2 : Below w.heap.size w w2 := B1.trans (b2.mono B1.size)
      have BZ2 := BZ.below b2
      have S2 := b2.size
      go_wp2_with fail
      refine (crash_any _ P nb d m _ hm dr2 P3.out (by have := HLW.out; unfold maxLen; omega)).mono ?_
      rintro e w4 ⟨rfl, ⟨nb4, dr4⟩, k4⟩
      have B4 : Below w.heap.size w w4 := k4.below B2 B2.size (fun k hk => Nat.le_trans B1.size (dr2.own k hk))
      have BZ4 := BZ2.kept k4 (fun h => by have := dr2.own _ h; omega)
      have S4 := k4.size
      go_wp2_with fail
      refine (disk_any _ P nb4 _ _ dr4 (Nat.zero_le _)).mono ?_
      rintro e w9 ⟨u, rfl, o9, b9⟩
      have BZ9 := (BZ4).below b9
      obtain ⟨a9, ca9, e9, ce9, rfl, _⟩ := id o9
      clear Z0 F0 Z1 F1 Z2 F2
      obtain ⟨Z0, F0⟩ := BZ9 0 _ rfl
      obtain ⟨Z1, F1⟩ := BZ9 1 _ rfl
      obtain ⟨Z2, F2⟩ := BZ9 2 _ rfl
      have B9 : Below w.heap.size w w9 := (B4).trans (b9.mono (B4).size)
      have HX := Lib.hid o9
      clear o9
      go_wp2
      have D := put_disk (b := w.heap.size + 1) HX.out (by omega) (.slice a9 (dCrash m d).1.length ca9) (.slice e9 (dCrash m d).2.1.length ce9) (.int .i64 (dCrash m d).2.2)
      have B := put_below B9 (show w.heap.size ≤ w.heap.size + 1 by omega) (.slice a9 (dCrash m d).1.length ca9) (.slice e9 (dCrash m d).2.1.length ce9) (.int .i64 (dCrash m d).2.2)
      refine bodyPost_ret (v := .agg #[.slice a9 (dCrash m d).1.length ca9, .slice e9 (dCrash m d).2.1.length ce9, .int .i64 (dCrash m d).2.2]) (by simp [results, Try.results27, go_sem, Z0, Z1, Z2]) rfl ⟨_, rfl, by rw [HR.out]; exact D.mono (B4).size, B⟩
    · have HR := Lib.hid (show crashTop d n = zeroDisk by unfold crashTop; rw [decide_eq_false hn0]; simp)
      have hn1 : n < 0 := by omega
      clear hok p1 p2 p3 hn0
      go_enter Try.func27, Try.ntmps27
      go_wp2_with fail
      refine (implDiskOk_any _ d _ (HV.out.below (by repeat (first | exact Below.refl _ _ | (refine Below.alloc ?_ (by first | (simp; done) | (simp; omega)) _) | (refine Below.setCell ?_ (by first | (simp; done) | (simp; omega)) _) | (refine Below.drew ?_))))).mono ?_
      rintro e w1 ⟨rfl, b1⟩
      rw [HO.out]
      obtain ⟨BX, BZ, B1, S1⟩ := two_box b1
      have X0 := (BX 0 _ rfl).1
      have X1 := (BX 1 _ rfl).1
      have X2 := (BX 2 _ rfl).1
      obtain ⟨Z0, F0⟩ := BZ 0 _ rfl
      obtain ⟨Z1, F1⟩ := BZ 1 _ rfl
      obtain ⟨Z2, F2⟩ := BZ 2 _ rfl
      go_wp2
      have D := put_disk (b := w.heap.size + 1) (zeroDisk_own w1 w1.heap.size) S1 (.slice none 0 0) (.slice none 0 0) (.int .i64 0)
      have B := put_below B1 (show w.heap.size ≤ w.heap.size + 1 by omega) (.slice none 0 0) (.slice none 0 0) (.int .i64 0)
      exact bodyPost_ret (v := .agg #[.slice none 0 0, .slice none 0 0, .int .i64 0]) (by simp [results, Try.results27, go_sem, Z0, Z1, Z2]) rfl ⟨_, rfl, by rw [HR.out]; exact D.mono B1.size, B⟩
end Go.Proofs.Ytjbkhamfingoiaa
