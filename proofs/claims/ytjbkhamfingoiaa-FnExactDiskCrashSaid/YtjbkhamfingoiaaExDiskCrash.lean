import Derived.Test.YtjbkhamfingoiaaDiskPure
import Derived.Test.YtjbkhamfingoiaaSpecDisk
/- The walk of FnExactDiskCrash. -/
namespace Go.Proofs.Ytjbkhamfingoiaa
open Go Go.RowKit

set_option maxRecDepth 100000 in
set_option maxHeartbeats 2000000 in
theorem fnExactDiskCrashWalk (v : Value) (d : DiskD) {w : World} (hd : DiskR w v d) (hhi : d.2.2 ≤ 9223372036854775807) (n : Int) (hn : n ≤ 9223372036854775807) :
    Calls Try.prog 13 #[v, .int .i64 n] w fun e w' => e = .returned (.bool true) ∧ Below w.heap.size w w' := by
  have ok := hd.okD
  obtain ⟨a, ca, b, cb, rfl, _⟩ := id hd
  have HD := Lib.hid hd
  clear hd
  by_cases hb : (1048576 : Int) < bulkDisk d
  · have HR := Lib.hid (szR_no hb)
    go_enter Try.func13, Try.ntmps13
    go_wp2_with fail
    refine (szDisk_any _ d _ _ (by omega) (by omega) (HD.out.below (by repeat (first | exact Below.refl _ _ | (refine Below.alloc ?_ (by first | (simp; done) | (simp; omega)) _) | (refine Below.setCell ?_ (by first | (simp; done) | (simp; omega)) _) | (refine Below.drew ?_))))).mono ?_
    rintro e w1 ⟨rfl, hb1⟩
    rw [HR.out]
    have hB : Below w.heap.size w w1 := Below.trans (by repeat (first | exact Below.refl _ _ | (refine Below.alloc ?_ (by first | (simp; done) | (simp; omega)) _) | (refine Below.setCell ?_ (by first | (simp; done) | (simp; omega)) _) | (refine Below.drew ?_))) (hb1.mono (by simp))
    go_wp2
    go_ret
    exact ⟨rfl, hB⟩
  · have hbb : (bulkDisk d : Int) ≤ 1048576 := by omega
    have HR := Lib.hid (szR_yes hbb)
    obtain ⟨hn1, hn2⟩ := bulkDisk_le hbb
    have hq : 0 ≤ (1048576 : Int) - bulkDisk d := by omega
    obtain ⟨t, ht⟩ : ∃ t, t = crashTop d n := ⟨_, rfl⟩
    have okt : OkDisk t := by rw [ht]; exact crashTop_ok n ok
    obtain ⟨tn1, tn2⟩ : t.1.length ≤ 1048576 ∧ t.2.1.length ≤ 1048576 := by rw [ht]; exact crashTop_le n hbb
    have okm := marksDisk_ok 1 t (by omega) (by omega) tn1 tn2
    have HT := Lib.hid ht
    clear hb hbb ht
    go_enter Try.func13, Try.ntmps13
    -- 1: size
    go_wp2_with fail
    refine (szDisk_any _ d _ _ (by omega) (by omega) (HD.out.below (by repeat (first | exact Below.refl _ _ | (refine Below.alloc ?_ (by first | (simp; done) | (simp; omega)) _) | (refine Below.setCell ?_ (by first | (simp; done) | (simp; omega)) _) | (refine Below.drew ?_))))).mono ?_
    rintro e w1 ⟨rfl, b1⟩
    rw [HR.out]
    have G1 : Below w.heap.size w w1 := Below.trans (by repeat (first | exact Below.refl _ _ | (refine Below.alloc ?_ (by first | (simp; done) | (simp; omega)) _) | (refine Below.setCell ?_ (by first | (simp; done) | (simp; omega)) _) | (refine Below.drew ?_))) (b1.mono (by simp))
    have Z1 : w.heap.size + 1 ≤ w1.heap.size := by have := b1.size; simpa using this
    have XA := (Box.alloc w #[.slice a d.1.length ca, .slice b d.2.1.length cb, .int .i64 d.2.2] 51).below b1
    have XA0 := (XA 0 _ rfl).1
    have XA1 := (XA 1 _ rfl).1
    have XA2 := (XA 2 _ rfl).1
    have XAl := XA.lt
    -- 2: toDisk
    go_wp2_with fail
    refine (toDisk_any _ d _ (HD.out.below G1) hn1 hn2).mono ?_
    rintro e w2 ⟨u1, rfl, o1, b2⟩
    have Z2 := b2.size
    have G2 : Below w.heap.size w w2 := G1.trans (b2.mono G1.size)
    replace XA := XA.below b2
    clear XA0 XA1 XA2 XAl
    have XA0 := (XA 0 _ rfl).1
    have XA1 := (XA 1 _ rfl).1
    have XA2 := (XA 2 _ rfl).1
    have XAl := XA.lt
    -- 3: the model
    go_wp2_with fail
    refine (specCrash_any _ d n _ (o1.read ok) hn hhi hn2).mono ?_
    rintro e w3 ⟨u2, rfl, ow, b3⟩
    rw [← HT.out] at ow
    have Z3 := b3.size
    have G3 : Below w.heap.size w w3 := G2.trans (b3.mono G2.size)
    replace XA := XA.below b3
    obtain ⟨a2, ca2, e2, ce2, rfl, _⟩ := id ow
    have LW := Lib.hid (fun k hk => ow.lt (k := k) hk)
    clear XA0 XA1 XA2 XAl
    have XA0 := (XA 0 _ rfl).1
    have XA1 := (XA 1 _ rfl).1
    have XA2 := (XA 2 _ rfl).1
    have XAl := XA.lt
    -- 4: x0
    go_wp2_with fail
    refine (toDisk_any _ d _ (HD.out.below (G3.alloc G3.size _)) hn1 hn2).mono ?_
    rintro e w4 ⟨u3, rfl, ox, b4⟩
    simp only [World.size_alloc] at ox
    have B4 : Below w3.heap.size w3 w4 := (below_alloc w3 _).trans (b4.mono (by simp))
    have Z4 : w3.heap.size + 1 ≤ w4.heap.size := by have := b4.size; simpa using this
    have G4 : Below w.heap.size w w4 := G3.trans (B4.mono G3.size)
    replace ow := ow.below B4
    replace XA := XA.below B4
    have XW := (Box.alloc w3 #[.slice a2 t.1.length ca2, .slice e2 t.2.1.length ce2, .int .i64 t.2.2] 26).below b4
    obtain ⟨a3, ca3, e3, ce3, rfl, _⟩ := id ox
    have LX := Lib.hid (fun k hk => ox.lt (k := k) hk)
    clear XA0 XA1 XA2 XAl
    -- 5: g0
    go_wp2_with fail
    refine (implCrash_any _ d n _ ((ox.read ok).below (below_alloc _ _)) hn hhi hn2).mono ?_
    rintro e w5 ⟨u4, rfl, og, b5⟩
    rw [← HT.out] at og
    simp only [World.size_alloc] at og
    have B5 : Below w4.heap.size w4 w5 := (below_alloc w4 _).trans (b5.mono (by simp))
    have Z5 : w4.heap.size + 1 ≤ w5.heap.size := by have := b5.size; simpa using this
    have G5 : Below w.heap.size w w5 := G4.trans (B5.mono G4.size)
    replace ow := ow.below B5
    replace ox := ox.below B5
    replace XA := XA.below B5
    replace XW := XW.below B5
    have XX := (Box.alloc w4 #[.slice a3 d.1.length ca3, .slice e3 d.2.1.length ce3, .int .i64 d.2.2] 26).below b5
    obtain ⟨a4, ca4, e4, ce4, rfl, _⟩ := id og
    have LG := Lib.hid (fun k hk => og.lt (k := k) hk)
    have XW0 := (XW 0 _ rfl).1
    have XW1 := (XW 1 _ rfl).1
    have XW2 := (XW 2 _ rfl).1
    have XWl := XW.lt
    -- 6: eqDisk(g0, w0)
    go_wp2_with fail
    refine (eqDisk_any _ _ t _ ((og.read okt).below (below_alloc _ _)) ((ow.read okt).below (below_alloc _ _))).mono ?_
    rintro e w6 ⟨rfl, b6⟩
    have B6 : Below w5.heap.size w5 w6 := (below_alloc w5 _).trans (b6.mono (by simp))
    have Z6 : w5.heap.size + 1 ≤ w6.heap.size := by have := b6.size; simpa using this
    have G6 : Below w.heap.size w w6 := G5.trans (B6.mono G5.size)
    replace ow := ow.below B6
    replace ox := ox.below B6
    replace og := og.below B6
    replace XA := XA.below B6
    replace XW := XW.below B6
    replace XX := XX.below B6
    have XG := (Box.alloc w5 #[.slice a4 t.1.length ca4, .slice e4 t.2.1.length ce4, .int .i64 t.2.2] 26).below b6
    clear XW0 XW1 XW2 XWl
    have XA0 := (XA 0 _ rfl).1
    have XA1 := (XA 1 _ rfl).1
    have XA2 := (XA 2 _ rfl).1
    have XX0 := (XX 0 _ rfl).1
    have XX1 := (XX 1 _ rfl).1
    have XX2 := (XX 2 _ rfl).1
    have XAl := XA.lt
    have XXl := XX.lt
    -- 7: eqDisk(x0, toDisk(aD))
    have r6 := ox.read ok
    go_wp2_with fail
    go_region_held3 (fun w' => w'.cell? ⟨w.heap.size, 0, none⟩ = some (.slice a d.1.length ca) ∧ w'.cell? ⟨w.heap.size, 1, none⟩ = some (.slice b d.2.1.length cb) ∧ w'.cell? ⟨w.heap.size, 2, none⟩ = some (.int .i64 d.2.2) ∧
        w'.cell? ⟨w4.heap.size, 0, none⟩ = some (.slice a3 d.1.length ca3) ∧ w'.cell? ⟨w4.heap.size, 1, none⟩ = some (.slice e3 d.2.1.length ce3) ∧ w'.cell? ⟨w4.heap.size, 2, none⟩ = some (.int .i64 d.2.2) ∧ Below w6.heap.size w6 w')
      (first | exact ⟨XA0, XA1, XA2, XX0, XX1, XX2, (Below.refl _ _).drew⟩ | exact ⟨(PB7 0 _ rfl).1, (PB7 1 _ rfl).1, (PB7 2 _ rfl).1, (XB7 0 _ rfl).1, (XB7 1 _ rfl).1, (XB7 2 _ rfl).1, B7⟩ | exact ⟨(PB8 0 _ rfl).1, (PB8 1 _ rfl).1, (PB8 2 _ rfl).1, (XB8 0 _ rfl).1, (XB8 1 _ rfl).1, (XB8 2 _ rfl).1, B8⟩)
      (first | (go_at_call 40; refine (toDisk_any _ d _ (HD.out.below G6.drew) hn1 hn2).mono ?_; rintro e w7 ⟨u5, rfl, o5, b7⟩; have B7 : Below w6.heap.size w6 w7 := (Below.refl _ _).drew.trans b7; have PB7 := XA.below B7; have XB7 := XX.below B7) | (go_at_call 36; refine (eqDisk_any _ _ d _ (r6.below B7) (o5.read ok)).mono ?_; rintro e w8 ⟨rfl, b8⟩; have B8 : Below w6.heap.size w6 w8 := B7.trans (b8.mono B7.size); have PB8 := XA.below B8; have XB8 := XX.below B8))
    have Z8 := B8.size
    have G8 : Below w.heap.size w w8 := G6.trans (B8.mono G6.size)
    clear r6 o5 PB7 XB7 PB8 XB8 b7 B7 b8
    replace ow := ow.below B8
    replace ox := ox.below B8
    replace og := og.below B8
    replace XA := XA.below B8
    replace XW := XW.below B8
    replace XX := XX.below B8
    replace XG := XG.below B8
    clear XA0 XA1 XA2 XAl XX0 XX1 XX2 XXl
    have XX0 := (XX 0 _ rfl).1
    have XX1 := (XX 1 _ rfl).1
    have XX2 := (XX 2 _ rfl).1
    have XXl := XX.lt
    -- 8: mark(x0, 1)
    go_wp2_with fail
    refine (markDisk_any _ _ d 1 _ ox (by omega) (by omega) hn1 hn2).mono ?_
    rintro e w9 ⟨rfl, -, b9⟩
    have Z9 := b9.size
    have G9 : Below w.heap.size w w9 := b9.below G8 G8.size (fun k hk => by have := LX.out k hk; omega)
    replace ow := ow.kept b9 (fun k h1 h2 => by have h3 := LW.out k h1; have h4 := LX.out k h2; omega)
    replace og := og.kept b9 (fun k h1 h2 => by have h3 := LG.out k h1; have h4 := LX.out k h2; omega)
    replace XA := XA.kept b9 (fun h2 => by have h4 := LX.out _ h2; omega)
    replace XW := XW.kept b9 (fun h2 => by have h4 := LX.out _ h2; omega)
    replace XG := XG.kept b9 (fun h2 => by have h4 := LX.out _ h2; omega)
    clear XX0 XX1 XX2 XXl
    have XW0 := (XW 0 _ rfl).1
    have XW1 := (XW 1 _ rfl).1
    have XW2 := (XW 2 _ rfl).1
    have XG0 := (XG 0 _ rfl).1
    have XG1 := (XG 1 _ rfl).1
    have XG2 := (XG 2 _ rfl).1
    have XWl := XW.lt
    have XGl := XG.lt
    clear XX ox
    -- 9: eqDisk(g0, w0)
    go_wp2_with fail
    refine (eqDisk_any _ _ t _ (og.read okt) (ow.read okt)).mono ?_
    rintro e w10 ⟨rfl, b10⟩
    have Z10 := b10.size
    have G10 : Below w.heap.size w w10 := G9.trans (b10.mono G9.size)
    replace ow := ow.below b10
    replace og := og.below b10
    replace XA := XA.below b10
    replace XW := XW.below b10
    replace XG := XG.below b10
    clear XW0 XW1 XW2 XWl XG0 XG1 XG2 XGl
    have XG0 := (XG 0 _ rfl).1
    have XG1 := (XG 1 _ rfl).1
    have XG2 := (XG 2 _ rfl).1
    have XGl := XG.lt
    -- 10: mark(g0, 1)
    go_wp2_with fail
    refine (markDisk_any _ _ t 1 _ og (by omega) (by omega) tn1 tn2).mono ?_
    rintro e w11 ⟨rfl, mg, b11⟩
    have Z11 := b11.size
    have G11 : Below w.heap.size w w11 := b11.below G10 G10.size (fun k hk => by have := LG.out k hk; omega)
    replace ow := ow.kept b11 (fun k h1 h2 => by have h3 := LW.out k h1; have h4 := LG.out k h2; omega)
    replace XA := XA.kept b11 (fun h2 => by have h4 := LG.out _ h2; omega)
    replace XW := XW.kept b11 (fun h2 => by have h4 := LG.out _ h2; omega)
    replace XG := XG.kept b11 (fun h2 => by have h4 := LG.out _ h2; omega)
    clear XG0 XG1 XG2 XGl
    have XG0 := (XG 0 _ rfl).1
    have XG1 := (XG 1 _ rfl).1
    have XG2 := (XG 2 _ rfl).1
    have XGl := XG.lt
    -- 11: held(g0, 1)
    go_wp2_with fail
    refine (heldDisk_any _ t 1 _ (mg.read okm) (by omega) (by omega) tn1 tn2).mono ?_
    rintro e w12 ⟨rfl, b12⟩
    have Z12 := b12.size
    have G12 : Below w.heap.size w w12 := G11.trans (b12.mono G11.size)
    replace ow := ow.below b12
    replace mg := mg.below b12
    replace XA := XA.below b12
    replace XW := XW.below b12
    replace XG := XG.below b12
    clear XG0 XG1 XG2 XGl
    have XA0 := (XA 0 _ rfl).1
    have XA1 := (XA 1 _ rfl).1
    have XA2 := (XA 2 _ rfl).1
    have XAl := XA.lt
    -- 12: toDisk(aD)
    go_wp2_with fail
    refine (toDisk_any _ d _ (HD.out.below G12) hn1 hn2).mono ?_
    rintro e w13 ⟨u6, rfl, o6, b13⟩
    have Z13 := b13.size
    have G13 : Below w.heap.size w w13 := G12.trans (b13.mono G12.size)
    replace ow := ow.below b13
    replace mg := mg.below b13
    replace XW := XW.below b13
    replace XG := XG.below b13
    clear XA0 XA1 XA2 XAl
    clear XA
    -- 13: h0
    go_wp2_with fail
    refine (implCrash_any _ d n _ (o6.read ok) hn hhi hn2).mono ?_
    rintro e w14 ⟨u7, rfl, oh, b14⟩
    rw [← HT.out] at oh
    have Z14 := b14.size
    have G14 : Below w.heap.size w w14 := G13.trans (b14.mono G13.size)
    replace ow := ow.below b14
    replace mg := mg.below b14
    replace XW := XW.below b14
    replace XG := XG.below b14
    obtain ⟨a7, ca7, e7, ce7, rfl, _⟩ := id oh
    have XW0 := (XW 0 _ rfl).1
    have XW1 := (XW 1 _ rfl).1
    have XW2 := (XW 2 _ rfl).1
    have XWl := XW.lt
    -- 14: eqDisk(h0, w0)
    go_wp2_with fail
    refine (eqDisk_any _ _ t _ ((oh.read okt).below (below_alloc _ _)) ((ow.read okt).below (below_alloc _ _))).mono ?_
    rintro e w15 ⟨rfl, b15⟩
    have B15 : Below w14.heap.size w14 w15 := (below_alloc w14 _).trans (b15.mono (by simp))
    have G15 : Below w.heap.size w w15 := G14.trans (B15.mono G14.size)
    replace mg := mg.below B15
    replace XG := XG.below B15
    clear XW0 XW1 XW2 XWl
    have XG0 := (XG 0 _ rfl).1
    have XG1 := (XG 1 _ rfl).1
    have XG2 := (XG 2 _ rfl).1
    have XGl := XG.lt
    -- 15: held(g0, 1)
    go_wp2_with fail
    refine (heldDisk_any _ t 1 _ (mg.read okm) (by omega) (by omega) tn1 tn2).mono ?_
    rintro e w16 ⟨rfl, b16⟩
    have G16 : Below w.heap.size w w16 := G15.trans (b16.mono G15.size)
    go_wp2
    go_ret
    exact ⟨rfl, G16⟩
end Go.Proofs.Ytjbkhamfingoiaa
