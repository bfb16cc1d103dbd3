import Derived.Test.YtjbkhamfingoiaaDrawAny
import Derived.Test.YtjbkhamfingoiaaDiskLaw
import Derived.Test.YtjbkhamfingoiaaWm
import Derived.Handy
/- The walk of FnDiskFlush. -/
namespace Go.Proofs.Ytjbkhamfingoiaa
open Go Go.RowKit

theorem AnyX.okD {d : DiskD} (h : AnyX d) : OkDisk d := ⟨by have := h.1; unfold maxLen; omega, fun s hs => by have := h.2.2.1 s hs; unfold maxLen; omega, by have := h.2.1; unfold maxLen; omega, fun x hx => by have := h.2.2.2.1 x hx; unfold OkWait maxLen; omega⟩

theorem wm_left {w : World} {a : Option Addr} {ca : Nat} {e : Option Addr} {ce : Nat} {t : DiskD} (h : DiskR w (.agg #[.slice a t.1.length ca, .slice e t.2.1.length ce, .int .i64 t.2.2]) t) : StrS w a t.1 := by
  obtain ⟨a', ca', b', cb', he, h1, _⟩ := h
  simp only [Value.agg.injEq, Array.mk.injEq, List.cons.injEq, Value.slice.injEq, and_true, true_and] at he
  obtain ⟨⟨rfl, rfl⟩, _⟩ := he
  exact h1
theorem wm_right {w : World} {a : Option Addr} {ca : Nat} {e : Option Addr} {ce : Nat} {y t : DiskD} (hy : y.1 = t.1) (h : DiskR w (.agg #[.slice a y.1.length ca, .slice e y.2.1.length ce, .int .i64 y.2.2]) y) : StrS w a t.1 := by
  rw [← hy]
  exact wm_left h

set_option maxRecDepth 100000 in
set_option maxHeartbeats 4000000 in
theorem fnDiskFlushWalk (a : Option Addr) (c : Nat) (l : List UInt8) {w : World} (hl : l.length ≤ c) (hc : c ≤ maxLen) (h : BytesS w a l) (a2 : Option Addr) (c2 : Nat) (l2 : List UInt8) (_hl2 : l2.length ≤ c2) (hc2 : c2 ≤ maxLen) (_h2 : BytesS w a2 l2) :
    Calls Try.prog 4 #[.slice a l.length c, .slice a2 l2.length c2] w fun e w' => e = .returned (.bool true) ∧ Below w.heap.size w w' := by
  have hcl := hc
  have hcl2 := hc2
  unfold maxLen at hcl hcl2
  by_cases hb : (1048576 : Int) < (l.length : Int)
  · go_enter Try.func4, Try.ntmps4
    go_wp2
    go_ret
    exact ⟨rfl, Below.refl _ _⟩
  have hb' : (l.length : Int) ≤ 1048576 := by omega
  clear hb
  by_cases hm : (1048576 : Int) < (l2.length : Int)
  · go_enter Try.func4, Try.ntmps4
    go_wp2
    go_ret
    exact ⟨rfl, Below.refl _ _⟩
  have hm' : (l2.length : Int) ≤ 1048576 := by omega
  clear hm
  go_enter Try.func4, Try.ntmps4
  go_wp2_with fail
  refine (drawFlush_any a c l _ hl hc h).mono ?_
  rintro e w1 ⟨u, d, rfl, r1, ax, b1⟩
  obtain ⟨a1, ca1, e1, ce1, rfl, _⟩ := id r1
  have hhi : d.2.2 ≤ 9223372036854775807 := by have := ax.2.2.2.2; omega
  have hlw : d.2.1.length ≤ 1048576 := by have := ax.2.1; omega
  have okd := ax.okD
  have bd := Box.alloc w1 #[.slice a1 d.1.length ca1, .slice e1 d.2.1.length ce1, .int .i64 d.2.2] 26
  have R1 := r1.below (below_alloc w1 (.cells #[.slice a1 d.1.length ca1, .slice e1 d.2.1.length ce1, .int .i64 d.2.2] 26))
  have B1 := b1.alloc b1.size (.cells #[.slice a1 d.1.length ca1, .slice e1 d.2.1.length ce1, .int .i64 d.2.2] 26)
  clear b1 r1
  go_wp2_with fail
  refine (implFlush_any _ d _ R1 hhi hlw).mono ?_
  rintro e w2 ⟨u2, rfl, o2, b2⟩
  obtain ⟨t, ht⟩ : ∃ t, t = flushTop d := ⟨_, rfl⟩
  rw [← ht] at o2
  have okt : OkDisk t := by rw [ht]; exact flushTop_ok okd
  obtain ⟨a3, ca3, e3, ce3, rfl, _⟩ := id o2
  have bx := Box.alloc w2 #[.slice a3 t.1.length ca3, .slice e3 t.2.1.length ce3, .int .i64 t.2.2] 26
  have AL := below_alloc w2 (.cells #[.slice a3 t.1.length ca3, .slice e3 t.2.1.length ce3, .int .i64 t.2.2] 26)
  have bd2 := (bd.below b2).below AL
  have R2 := Lib.hid ((R1.below b2).below AL)
  have X2 := Lib.hid ((o2.read okt).below AL)
  have B2 : Below w.heap.size w (w2.alloc (.cells #[.slice a3 t.1.length ca3, .slice e3 t.2.1.length ce3, .int .i64 t.2.2] 26)) := (B1.trans (b2.mono B1.size)).trans (AL.mono (by have := B1.size; have := b2.size; omega))
  have HT := Lib.hid ht
  have ZZ : w1.heap.size + 1 ≤ w2.heap.size := by have := b2.size; simpa using this
  clear ht R1 o2 bd B1 b2 AL
  have z3 : w2.heap.size < (w2.alloc (.cells #[.slice a3 t.1.length ca3, .slice e3 t.2.1.length ce3, .int .i64 t.2.2] 26)).heap.size := by simp
  have z1 : w1.heap.size < w2.heap.size := by have := bd2.lt; have := ZZ; omega
  go_wp2_with fail
  generalize w2.alloc (.cells #[.slice a3 t.1.length ca3, .slice e3 t.2.1.length ce3, .int .i64 t.2.2] 26) = w3 at bx bd2 R2 X2 B2 z3 ⊢
  have KS : ∀ w' : World, Below w3.heap.size w3 w' → w'.cell? ⟨w1.heap.size, 0, none⟩ = some (.slice a1 d.1.length ca1) ∧ w'.cell? ⟨w1.heap.size, 1, none⟩ = some (.slice e1 d.2.1.length ce1) ∧ w'.cell? ⟨w1.heap.size, 2, none⟩ = some (.int .i64 d.2.2) ∧ w'.cell? ⟨w2.heap.size, 0, none⟩ = some (.slice a3 t.1.length ca3) ∧ w'.cell? ⟨w2.heap.size, 1, none⟩ = some (.slice e3 t.2.1.length ce3) ∧ w'.cell? ⟨w2.heap.size, 2, none⟩ = some (.int .i64 t.2.2) ∧ Below w3.heap.size w3 w' :=
    fun w' hb => ⟨((bd2.below hb) 0 _ rfl).1, ((bd2.below hb) 1 _ rfl).1, ((bd2.below hb) 2 _ rfl).1, ((bx.below hb) 0 _ rfl).1, ((bx.below hb) 1 _ rfl).1, ((bx.below hb) 2 _ rfl).1, hb⟩
  obtain ⟨x0, x1, x2, y0, y1, y2, -⟩ := KS w3 (Below.refl _ _)
  cases hok : diskOk d
  · have HO := Lib.hid hok
    clear hok
    first | (go_region_law (first
        | (go_simp; go_at_call 26; refine (specFlush_any _ d _ (R2.out.below ((Below.refl _ _).drew)) hhi hlw).mono ?_; rintro e w4 ⟨u4, rfl, o4, b4⟩; rw [← HT.out] at o4; have C4 : Below w3.heap.size w3 w4 := (Below.refl _ _).drew.trans b4; obtain ⟨xa4, xb4, xc4, ya4, yb4, yc4, -⟩ := KS _ C4)
        | (go_simp; go_at_call 18; refine (wmDisk_any _ _ t _ (X2.out.below C4) (o4.read okt)).mono ?_; rintro e w5 ⟨rfl, b5⟩; have C5 : Below w3.heap.size w3 w5 := C4.trans (b5.mono C4.size); obtain ⟨xa5, xb5, xc5, ya5, yb5, yc5, -⟩ := KS _ C5)
        | (go_simp; go_at_call 20; refine (implDiskOk_any _ d _ (R2.out.below C5)).mono ?_; rintro e w6 ⟨rfl, b6⟩; rw [HO.out]; have C6 : Below w3.heap.size w3 w6 := C5.trans (b6.mono C5.size); obtain ⟨xa6, xb6, xc6, ya6, yb6, yc6, -⟩ := KS _ C6)
        | (go_simp; go_at_call 21; refine (specDiskOk_any _ d _ (R2.out.below C7)).mono ?_; rintro e w8 ⟨rfl, b8⟩; rw [HO.out]; have C8 : Below w3.heap.size w3 w8 := C7.trans (b8.mono C7.size); obtain ⟨xa8, xb8, xc8, ya8, yb8, yc8, -⟩ := KS _ C8)
        | (go_simp; go_at_call 21; refine (specDiskOk_any _ d _ (R2.out.below C6)).mono ?_; rintro e w7 ⟨rfl, b7⟩; rw [HO.out]; have C7 : Below w3.heap.size w3 w7 := C6.trans (b7.mono C6.size); obtain ⟨xa7, xb7, xc7, ya7, yb7, yc7, -⟩ := KS _ C7))) | fail
    all_goals
      obtain ⟨xa9, xb9, xc9, ya9, yb9, yc9, -⟩ := KS _ C8
      go_wp2_with fail
      go_region_held3 (fun w' => w'.cell? ⟨w1.heap.size, 0, none⟩ = some (.slice a1 d.1.length ca1) ∧ w'.cell? ⟨w1.heap.size, 1, none⟩ = some (.slice e1 d.2.1.length ce1) ∧ w'.cell? ⟨w1.heap.size, 2, none⟩ = some (.int .i64 d.2.2) ∧ w'.cell? ⟨w2.heap.size, 0, none⟩ = some (.slice a3 t.1.length ca3) ∧ w'.cell? ⟨w2.heap.size, 1, none⟩ = some (.slice e3 t.2.1.length ce3) ∧ w'.cell? ⟨w2.heap.size, 2, none⟩ = some (.int .i64 t.2.2) ∧ Below w3.heap.size w3 w')
        ((refine KS _ ?_; (first | exact C13 | exact C12 | exact C11 | exact C10 | exact C8 | exact C8.drew)))
        (first
          | (go_at_call 26; refine (specFlush_any _ d _ (R2.out.below C8.drew) hhi hlw).mono ?_; rintro e w10 ⟨u10, rfl, o10, b10⟩; rw [← HT.out] at o10; have C10 : Below w3.heap.size w3 w10 := C8.drew.trans (b10.mono C8.size))
          | (go_at_call 18; refine (wmDisk_any _ _ t _ (X2.out.below C10) (o10.read okt)).mono ?_; rintro e w11 ⟨rfl, b11⟩; have C11 : Below w3.heap.size w3 w11 := C10.trans (b11.mono C10.size))
          | (go_at_call 20; refine (implDiskOk_any _ d _ (R2.out.below C11)).mono ?_; rintro e w12 ⟨rfl, b12⟩; rw [HO.out]; have C12 : Below w3.heap.size w3 w12 := C11.trans (b12.mono C11.size))
          | (go_at_call 21; refine (specDiskOk_any _ d _ (R2.out.below C12)).mono ?_; rintro e w13 ⟨rfl, b13⟩; rw [HO.out]; have C13 : Below w3.heap.size w3 w13 := C12.trans (b13.mono C12.size)))
      go_wp2
      go_ret
      exact ⟨rfl, B2.trans (C13.mono B2.size)⟩
  · have HO := Lib.hid hok
    by_cases h0 : d.2.2 = 0
    · have hz : (d.2.2 == 0) = true := by simp [h0]
      clear hok h0
      go_region_held3 (fun w' => w'.cell? ⟨w1.heap.size, 0, none⟩ = some (.slice a1 d.1.length ca1) ∧ w'.cell? ⟨w1.heap.size, 1, none⟩ = some (.slice e1 d.2.1.length ce1) ∧ w'.cell? ⟨w1.heap.size, 2, none⟩ = some (.int .i64 d.2.2) ∧ w'.cell? ⟨w2.heap.size, 0, none⟩ = some (.slice a3 t.1.length ca3) ∧ w'.cell? ⟨w2.heap.size, 1, none⟩ = some (.slice e3 t.2.1.length ce3) ∧ w'.cell? ⟨w2.heap.size, 2, none⟩ = some (.int .i64 t.2.2) ∧ Below w3.heap.size w3 w')
        ((refine KS _ ?_; (first | exact C8 | exact C7 | exact C6 | exact C5 | exact C4 | exact Below.refl _ _ | exact (Below.refl _ _).drew)))
        (first
          | (go_at_call 26; refine (specFlush_any _ d _ (R2.out.below ((Below.refl _ _).drew)) hhi hlw).mono ?_; rintro e w4 ⟨u4, rfl, o4, b4⟩; rw [← HT.out] at o4; have C4 : Below w3.heap.size w3 w4 := (Below.refl _ _).drew.trans b4)
          | (go_at_call 18; refine (wmDisk_any _ _ t _ (X2.out.below C4) (o4.read okt)).mono ?_; rintro e w5 ⟨rfl, b5⟩; have C5 : Below w3.heap.size w3 w5 := C4.trans (b5.mono C4.size))
          | (go_at_call 20; refine (implDiskOk_any _ d _ (R2.out.below C5)).mono ?_; rintro e w6 ⟨rfl, b6⟩; rw [HO.out]; have C6 : Below w3.heap.size w3 w6 := C5.trans (b6.mono C5.size))
          | (go_at_call 21; refine (specDiskOk_any _ d _ (R2.out.below C7)).mono ?_; rintro e w8 ⟨rfl, b8⟩; rw [HO.out]; have C8 : Below w3.heap.size w3 w8 := C7.trans (b8.mono C7.size))
          | (go_at_call 21; refine (specDiskOk_any _ d _ (R2.out.below C6)).mono ?_; rintro e w7 ⟨rfl, b7⟩; rw [HO.out]; have C7 : Below w3.heap.size w3 w7 := C6.trans (b7.mono C6.size)))
      obtain ⟨xa9, xb9, xc9, ya9, yb9, yc9, -⟩ := KS _ C8
      go_wp2_with fail
      go_region_held3 (fun w' => w'.cell? ⟨w1.heap.size, 0, none⟩ = some (.slice a1 d.1.length ca1) ∧ w'.cell? ⟨w1.heap.size, 1, none⟩ = some (.slice e1 d.2.1.length ce1) ∧ w'.cell? ⟨w1.heap.size, 2, none⟩ = some (.int .i64 d.2.2) ∧ w'.cell? ⟨w2.heap.size, 0, none⟩ = some (.slice a3 t.1.length ca3) ∧ w'.cell? ⟨w2.heap.size, 1, none⟩ = some (.slice e3 t.2.1.length ce3) ∧ w'.cell? ⟨w2.heap.size, 2, none⟩ = some (.int .i64 t.2.2) ∧ Below w3.heap.size w3 w')
        ((refine KS _ ?_; (first | exact C13 | exact C12 | exact C11 | exact C10 | exact C8 | exact C8.drew)))
        (first
          | (go_at_call 26; refine (specFlush_any _ d _ (R2.out.below C8.drew) hhi hlw).mono ?_; rintro e w10 ⟨u10, rfl, o10, b10⟩; rw [← HT.out] at o10; have C10 : Below w3.heap.size w3 w10 := C8.drew.trans (b10.mono C8.size))
          | (go_at_call 18; refine (wmDisk_any _ _ t _ (X2.out.below C10) (o10.read okt)).mono ?_; rintro e w11 ⟨rfl, b11⟩; have C11 : Below w3.heap.size w3 w11 := C10.trans (b11.mono C10.size))
          | (go_at_call 20; refine (implDiskOk_any _ d _ (R2.out.below C11)).mono ?_; rintro e w12 ⟨rfl, b12⟩; rw [HO.out]; have C12 : Below w3.heap.size w3 w12 := C11.trans (b12.mono C11.size))
          | (go_at_call 21; refine (specDiskOk_any _ d _ (R2.out.below C12)).mono ?_; rintro e w13 ⟨rfl, b13⟩; rw [HO.out]; have C13 : Below w3.heap.size w3 w13 := C12.trans (b13.mono C12.size)))
      go_wp2
      go_ret
      exact ⟨rfl, B2.trans (C13.mono B2.size)⟩
    · have hz : (d.2.2 == 0) = false := by simp [h0]
      have HK := Lib.hid hok
      have H0 := Lib.hid h0
      clear hok h0
      go_region_held3 (fun w' => w'.cell? ⟨w1.heap.size, 0, none⟩ = some (.slice a1 d.1.length ca1) ∧ w'.cell? ⟨w1.heap.size, 1, none⟩ = some (.slice e1 d.2.1.length ce1) ∧ w'.cell? ⟨w1.heap.size, 2, none⟩ = some (.int .i64 d.2.2) ∧ w'.cell? ⟨w2.heap.size, 0, none⟩ = some (.slice a3 t.1.length ca3) ∧ w'.cell? ⟨w2.heap.size, 1, none⟩ = some (.slice e3 t.2.1.length ce3) ∧ w'.cell? ⟨w2.heap.size, 2, none⟩ = some (.int .i64 t.2.2) ∧ Below w3.heap.size w3 w')
        ((refine KS _ ?_; (first | exact C8 | exact C7 | exact C6 | exact C5 | exact C4 | exact Below.refl _ _ | exact (Below.refl _ _).drew)))
        (first
          | (go_at_call 26; refine (specFlush_any _ d _ (R2.out.below ((Below.refl _ _).drew)) hhi hlw).mono ?_; rintro e w4 ⟨u4, rfl, o4, b4⟩; rw [← HT.out] at o4; have C4 : Below w3.heap.size w3 w4 := (Below.refl _ _).drew.trans b4)
          | (go_at_call 18; refine (wmDisk_any _ _ t _ (X2.out.below C4) (o4.read okt)).mono ?_; rintro e w5 ⟨rfl, b5⟩; have C5 : Below w3.heap.size w3 w5 := C4.trans (b5.mono C4.size))
          | (go_at_call 20; refine (implDiskOk_any _ d _ (R2.out.below C5)).mono ?_; rintro e w6 ⟨rfl, b6⟩; rw [HO.out]; have C6 : Below w3.heap.size w3 w6 := C5.trans (b6.mono C5.size))
          | (go_at_call 21; refine (specDiskOk_any _ d _ (R2.out.below C7)).mono ?_; rintro e w8 ⟨rfl, b8⟩; rw [HO.out]; have C8 : Below w3.heap.size w3 w8 := C7.trans (b8.mono C7.size))
          | (go_at_call 21; refine (specDiskOk_any _ d _ (R2.out.below C6)).mono ?_; rintro e w7 ⟨rfl, b7⟩; rw [HO.out]; have C7 : Below w3.heap.size w3 w7 := C6.trans (b7.mono C6.size)))
      obtain ⟨xa9, xb9, xc9, ya9, yb9, yc9, -⟩ := KS _ C8
      go_wp2_with fail
      have T1 : t.2.1.length ≤ 1048576 := by rw [HT.out, flushTop_eq HK.out H0.out]; simp
      have T2 : t.2.2 ≤ 9223372036854775807 := by
        rw [HT.out, flushTop_eq HK.out H0.out]
        show spendL d.2.2 ≤ _
        unfold spendL
        have := ax.2.2.2.2
        split <;> omega
      refine (implCrash_any _ t l2.length _ (X2.out.below C8) (by omega) T2 T1).mono ?_
      rintro e w9 ⟨u9, rfl, o9, b9⟩
      obtain ⟨y, hy⟩ : ∃ y, y = crashTop t l2.length := ⟨_, rfl⟩
      rw [← hy] at o9
      have oky : OkDisk y := by rw [hy]; exact crashTop_ok _ okt
      obtain ⟨a5, ca5, e5, ce5, rfl, _⟩ := id o9
      have HY := Lib.hid hy
      clear hy
      have AL9 := below_alloc w9 (.cells #[.slice a5 y.1.length ca5, .slice e5 y.2.1.length ce5, .int .i64 y.2.2] 26)
      have C9 : Below w3.heap.size w3 (w9.alloc (.cells #[.slice a5 y.1.length ca5, .slice e5 y.2.1.length ce5, .int .i64 y.2.2] 26)) := (C8.trans (b9.mono C8.size)).alloc (Nat.le_trans C8.size b9.size) _
      have by9 := Box.alloc w9 #[.slice a5 y.1.length ca5, .slice e5 y.2.1.length ce5, .int .i64 y.2.2] 26
      have Y9 := (o9.read oky).below AL9
      clear o9 b9 AL9
      go_wp2_with fail
      generalize w9.alloc (.cells #[.slice a5 y.1.length ca5, .slice e5 y.2.1.length ce5, .int .i64 y.2.2] 26) = w10 at C9 by9 Y9 ⊢
      have HY9 := Lib.hid Y9
      clear Y9
      have bd10 := bd2.below C9
      have bx10 := bx.below C9
      have RD := Lib.hid (R2.out.below C9)
      have RX := Lib.hid (X2.out.below C9)
      have KS2 : ∀ w' : World, Below w10.heap.size w10 w' → w'.cell? ⟨w1.heap.size, 0, none⟩ = some (.slice a1 d.1.length ca1) ∧ w'.cell? ⟨w1.heap.size, 1, none⟩ = some (.slice e1 d.2.1.length ce1) ∧ w'.cell? ⟨w1.heap.size, 2, none⟩ = some (.int .i64 d.2.2) ∧ w'.cell? ⟨w2.heap.size, 0, none⟩ = some (.slice a3 t.1.length ca3) ∧ w'.cell? ⟨w2.heap.size, 1, none⟩ = some (.slice e3 t.2.1.length ce3) ∧ w'.cell? ⟨w2.heap.size, 2, none⟩ = some (.int .i64 t.2.2) ∧ w'.cell? ⟨w9.heap.size, 0, none⟩ = some (.slice a5 y.1.length ca5) ∧ w'.cell? ⟨w9.heap.size, 1, none⟩ = some (.slice e5 y.2.1.length ce5) ∧ w'.cell? ⟨w9.heap.size, 2, none⟩ = some (.int .i64 y.2.2) ∧ Below w10.heap.size w10 w' :=
        fun w' hb => ⟨((bd10.below hb) 0 _ rfl).1, ((bd10.below hb) 1 _ rfl).1, ((bd10.below hb) 2 _ rfl).1, ((bx10.below hb) 0 _ rfl).1, ((bx10.below hb) 1 _ rfl).1, ((bx10.below hb) 2 _ rfl).1, ((by9.below hb) 0 _ rfl).1, ((by9.below hb) 1 _ rfl).1, ((by9.below hb) 2 _ rfl).1, hb⟩
      have HRX := Lib.hid (fun (k : Nat) (hk : k < 9) => (show readTop t k = readTop d k by rw [HT.out]; exact read_flush HK.out H0.out k (by omega)))
      have HRY := Lib.hid (fun (k : Nat) (hk : k < 9) => (show readTop y k = readTop d k by rw [HY.out, HT.out]; exact read_crash_flush HK.out H0.out l2.length k (by omega)))
      have HY1 := Lib.hid (show y.1 = t.1 by rw [HY.out, HT.out, crash_flush HK.out H0.out])
      have hT0 : ((t.2.1.length : Int) == 0) = true := by rw [HT.out, flushTop_eq HK.out H0.out]; rfl
      have BW : Below w.heap.size w w10 := B2.trans (C9.mono B2.size)
      clear KS bd2 bx bd10 bx10 x0 x1 x2 y0 y1 y2 xa9 xb9 xc9 ya9 yb9 yc9
      go_loopw [8] (fun i wr => ∃ k : Nat, k ≤ 9 ∧ i = .int .i64 k ∧ Below w10.heap.size w10 wr) (fun i _ => 9 - (intOf i).toNat)
      case atStart => exact ⟨0, by omega, rfl, Below.refl _ _⟩
      case round =>
        obtain ⟨k, hk, rfl, hbel⟩ := hrel
        obtain ⟨x0, x1, x2, y0, y1, y2, z0, z1', z2, -⟩ := KS2 _ hbel
        by_cases hlt : k < 9
        · have hk9 : (k : Int) < 9 := by omega
          obtain ⟨rr, hrr⟩ : ∃ rr, rr = readTop d k := ⟨_, rfl⟩
          have HA := Lib.hid hrr.symm
          have HB := Lib.hid ((HRX.out k hlt).trans hrr.symm)
          have HC := Lib.hid ((HRY.out k hlt).trans hrr.symm)
          clear hrr
          go_wp2_with fail
          go_region_held3 (fun w' => w'.cell? ⟨w1.heap.size, 0, none⟩ = some (.slice a1 d.1.length ca1) ∧ w'.cell? ⟨w1.heap.size, 1, none⟩ = some (.slice e1 d.2.1.length ce1) ∧ w'.cell? ⟨w1.heap.size, 2, none⟩ = some (.int .i64 d.2.2) ∧ w'.cell? ⟨w2.heap.size, 0, none⟩ = some (.slice a3 t.1.length ca3) ∧ w'.cell? ⟨w2.heap.size, 1, none⟩ = some (.slice e3 t.2.1.length ce3) ∧ w'.cell? ⟨w2.heap.size, 2, none⟩ = some (.int .i64 t.2.2) ∧ w'.cell? ⟨w9.heap.size, 0, none⟩ = some (.slice a5 y.1.length ca5) ∧ w'.cell? ⟨w9.heap.size, 1, none⟩ = some (.slice e5 y.2.1.length ce5) ∧ w'.cell? ⟨w9.heap.size, 2, none⟩ = some (.int .i64 y.2.2) ∧ Below w10.heap.size w10 w')
            ((refine KS2 _ ?_; (first | exact D14 | exact D13 | exact D12 | exact D11 | exact hbel | exact hbel.drew)))
            (first
              | (go_at_call 23; refine (implRead_any _ d k _ (RD.out.below D13)).mono ?_; rintro e w14 ⟨rfl, b14⟩; rw [HA.out]; have D14 : Below w10.heap.size w10 w14 := D13.trans (b14.mono D13.size))
              | (go_at_call 23; refine (implRead_any _ y k _ (HY9.out.below D12)).mono ?_; rintro e w13 ⟨rfl, b13⟩; rw [HC.out]; have D13 : Below w10.heap.size w10 w13 := D12.trans (b13.mono D12.size))
              | (go_at_call 23; refine (implRead_any _ d k _ (RD.out.below D11)).mono ?_; rintro e w12 ⟨rfl, b12⟩; rw [HA.out]; have D12 : Below w10.heap.size w10 w12 := D11.trans (b12.mono D11.size))
              | (go_at_call 23; refine (implRead_any _ t k _ (RX.out.below hbel.drew)).mono ?_; rintro e w11 ⟨rfl, b11⟩; rw [HB.out]; have D11 : Below w10.heap.size w10 w11 := hbel.drew.trans (b11.mono hbel.size)))
          go_wp2
          go_roundw
          case rel => exact ⟨k + 1, by omega, by go_num, D14⟩
          case measure => simp [intOf]; omega
        · go_wp2_with fail
          rw [HY1.out]
          refine (wmWords_any _ _ _ _ t.1 _ (wm_left (RX.out.below hbel)) (wm_right HY1.out (HY9.out.below hbel))).mono ?_
          rintro e w11 ⟨rfl, b11⟩
          have D11 : Below w10.heap.size w10 w11 := hbel.trans (b11.mono hbel.size)
          go_wp2
          go_ret
          exact ⟨rfl, BW.trans (D11.mono BW.size)⟩
end Go.Proofs.Ytjbkhamfingoiaa
