import Derived.Test.YtjbkhamfingoiaaDiskOk
/- The walk of FnExactDiskOk. -/
namespace Go.Proofs.Ytjbkhamfingoiaa
open Go Go.RowKit

theorem bulkS_len (l : List ByteArray) : l.length ≤ bulkS l := by unfold bulkS; omega
theorem bulkWaitS_len (l : List WaitD) : l.length ≤ bulkWaitS l := by unfold bulkWaitS; omega
theorem szR_neg {left : Int} {b : Nat} (h : left < (b : Int)) : szR left b < 0 := by rw [szR_no h]; omega
theorem bulkDisk_le {d : DiskD} (h : (bulkDisk d : Int) ≤ 1048576) : d.1.length ≤ 1048576 ∧ d.2.1.length ≤ 1048576 := by
  unfold bulkDisk at h
  have h1 := bulkS_len d.1
  have h2 := bulkWaitS_len d.2.1
  omega
theorem DiskR.okD {w : World} {v : Value} {d : DiskD} (h : DiskR w v d) : OkDisk d := by
  obtain ⟨a, ca, b, cb, _, h1, h2, h3⟩ := h
  exact ⟨h1.1, h1.2.1, h2.1, h3⟩

set_option maxRecDepth 100000 in
set_option maxHeartbeats 800000 in
theorem fnExactDiskOkWalk (v : Value) (d : DiskD) {w : World} (hd : DiskR w v d) :
    Calls Try.prog 9 #[v] w fun e w' => e = .returned (.bool true) ∧ Below w.heap.size w w' := by
  have ok := hd.okD
  obtain ⟨a, ca, b, cb, rfl, _⟩ := id hd
  by_cases hb : (1048576 : Int) < bulkDisk d
  · have HR := Lib.hid (szR_no hb)
    go_enter Try.func9, Try.ntmps9
    go_wp2_with fail
    refine (szDisk_any _ d _ _ (by omega) (by omega) (hd.below (by repeat (first | exact Below.refl _ _ | (refine Below.alloc ?_ (by first | (simp; done) | (simp; omega)) _) | (refine Below.setCell ?_ (by first | (simp; done) | (simp; omega)) _) | (refine Below.drew ?_))))).mono ?_
    rintro e w1 ⟨rfl, hb1⟩
    rw [HR.out]
    have hB : Below w.heap.size w w1 := Below.trans (by repeat (first | exact Below.refl _ _ | (refine Below.alloc ?_ (by first | (simp; done) | (simp; omega)) _) | (refine Below.setCell ?_ (by first | (simp; done) | (simp; omega)) _) | (refine Below.drew ?_))) (hb1.mono (by simp))
    go_wp2
    go_ret
    exact ⟨rfl, hB⟩
  · have HR := Lib.hid (szR_yes (show (bulkDisk d : Int) ≤ 1048576 by omega))
    obtain ⟨hn1, hn2⟩ := bulkDisk_le (show (bulkDisk d : Int) ≤ 1048576 by omega)
    have hq : 0 ≤ (1048576 : Int) - bulkDisk d := by omega
    clear hb
    go_enter Try.func9, Try.ntmps9
    go_wp2_with fail
    refine (szDisk_any _ d _ _ (by omega) (by omega) (hd.below (by repeat (first | exact Below.refl _ _ | (refine Below.alloc ?_ (by first | (simp; done) | (simp; omega)) _) | (refine Below.setCell ?_ (by first | (simp; done) | (simp; omega)) _) | (refine Below.drew ?_))))).mono ?_
    rintro e w1 ⟨rfl, hb1⟩
    rw [HR.out]
    have B1 : Below w.heap.size w w1 := Below.trans (by repeat (first | exact Below.refl _ _ | (refine Below.alloc ?_ (by first | (simp; done) | (simp; omega)) _) | (refine Below.setCell ?_ (by first | (simp; done) | (simp; omega)) _) | (refine Below.drew ?_))) (hb1.mono (by simp))
    obtain ⟨hc1, hf1⟩ := bcell hb1
    have hz1 := hb1.size
    simp only [World.size_alloc] at hz1
    have hy1 : w.heap.size < w1.heap.size := by omega
    go_wp2_with fail
    refine (toDisk_any _ d _ (hd.below B1) hn1 hn2).mono ?_
    rintro e w2 ⟨u1, rfl, o1, hb2⟩
    have B2 : Below w.heap.size w w2 := B1.trans (hb2.mono B1.size)
    obtain ⟨hc2, hf2⟩ := bcell hb2
    have hz2 := hb2.size
    have hy2 : w.heap.size < w2.heap.size := by omega
    go_wp2_with fail
    refine (specDiskOk_any _ d _ (o1.read ok)).mono ?_
    rintro e w3 ⟨rfl, hb3⟩
    have B3 : Below w.heap.size w w3 := B2.trans (hb3.mono B2.size)
    obtain ⟨hc3, hf3⟩ := bcell hb3
    have hz3 := hb3.size
    have hy3 : w.heap.size < w3.heap.size := by omega
    go_wp2_with fail
    refine (toDisk_any _ d _ (hd.below B3) hn1 hn2).mono ?_
    rintro e w4 ⟨u2, rfl, o2, hb4⟩
    have B4 : Below w.heap.size w w4 := B3.trans (hb4.mono B3.size)
    obtain ⟨hc4, hf4⟩ := bcell hb4
    have hz4 := hb4.size
    have hy4 : w.heap.size < w4.heap.size := by omega
    have r2 := o2.read ok
    obtain ⟨a2, ca2, b2, cb2, rfl, _⟩ := id o2
    go_wp2_with fail
    refine (implDiskOk_any _ d _ (r2.below (by repeat (first | exact Below.refl _ _ | (refine Below.alloc ?_ (by first | (simp; done) | (simp; omega)) _) | (refine Below.setCell ?_ (by first | (simp; done) | (simp; omega)) _) | (refine Below.drew ?_))))).mono ?_
    rintro e w5 ⟨rfl, hb5⟩
    have B45 : Below w4.heap.size w4 w5 := Below.trans (by repeat (first | exact Below.refl _ _ | (refine Below.alloc ?_ (by first | (simp; done) | (simp; omega)) _) | (refine Below.setCell ?_ (by first | (simp; done) | (simp; omega)) _) | (refine Below.drew ?_))) (hb5.mono (by simp))
    have B5 : Below w.heap.size w w5 := B4.trans (B45.mono B4.size)
    obtain ⟨hc5, hf5⟩ := bcell hb5
    have hz5 := hb5.size
    simp only [World.size_alloc] at hz5
    have hy5 : w.heap.size < w5.heap.size := by omega
    have hy5' : w4.heap.size < w5.heap.size := by omega
    have PB := (((((Box.alloc w #[.slice a d.1.length ca, .slice b d.2.1.length cb, .int .i64 d.2.2] 51).below hb1).below hb2).below hb3).below hb4).below B45
    have XB := (Box.alloc w4 #[.slice a2 d.1.length ca2, .slice b2 d.2.1.length cb2, .int .i64 d.2.2] 26).below hb5
    have r5 := r2.below B45
    go_wp2_with fail
    have p0 := (PB 0 _ rfl).1
    have p1 := (PB 1 _ rfl).1
    have p2 := (PB 2 _ rfl).1
    have x0 := (XB 0 _ rfl).1
    have x1 := (XB 1 _ rfl).1
    have x2 := (XB 2 _ rfl).1
    go_region_held3 (fun w' => w'.cell? ⟨w.heap.size, 0, none⟩ = some (.slice a d.1.length ca) ∧ w'.cell? ⟨w.heap.size, 1, none⟩ = some (.slice b d.2.1.length cb) ∧ w'.cell? ⟨w.heap.size, 2, none⟩ = some (.int .i64 d.2.2) ∧
        w'.cell? ⟨w4.heap.size, 0, none⟩ = some (.slice a2 d.1.length ca2) ∧ w'.cell? ⟨w4.heap.size, 1, none⟩ = some (.slice b2 d.2.1.length cb2) ∧ w'.cell? ⟨w4.heap.size, 2, none⟩ = some (.int .i64 d.2.2) ∧ Below w5.heap.size w5 w')
      (first | exact ⟨p0, p1, p2, x0, x1, x2, (Below.refl _ _).drew⟩ | exact ⟨(PB6 0 _ rfl).1, (PB6 1 _ rfl).1, (PB6 2 _ rfl).1, (XB6 0 _ rfl).1, (XB6 1 _ rfl).1, (XB6 2 _ rfl).1, B6⟩ | exact ⟨(PB7 0 _ rfl).1, (PB7 1 _ rfl).1, (PB7 2 _ rfl).1, (XB7 0 _ rfl).1, (XB7 1 _ rfl).1, (XB7 2 _ rfl).1, B7⟩)
      (first | (go_at_call 40; refine (toDisk_any _ d _ (hd.below B5.drew) hn1 hn2).mono ?_; rintro e w6 ⟨u3, rfl, o3, hb6⟩; have B6 : Below w5.heap.size w5 w6 := (Below.refl _ _).drew.trans hb6; have PB6 := PB.below B6; have XB6 := XB.below B6) | (go_at_call 36; refine (eqDisk_any _ _ d _ (r5.below B6) (o3.read ok)).mono ?_; rintro e w7 ⟨rfl, hb7⟩; have B7 : Below w5.heap.size w5 w7 := B6.trans (hb7.mono B6.size); have PB7 := PB.below B7; have XB7 := XB.below B7))
    go_wp2
    go_ret
    exact ⟨rfl, B5.trans (B7.mono B5.size)⟩
end Go.Proofs.Ytjbkhamfingoiaa
