import Derived.Test.YtjbkhamfingoiaaDrawW2
import Derived.Test.YtjbkhamfingoiaaDiskLaw
import Derived.Test.YtjbkhamfingoiaaWm
import Derived.Handy
/- The walk of FnDiskWrite. -/
namespace Go.Proofs.Ytjbkhamfingoiaa
open Go Go.RowKit

theorem wmIn_w (n a b : Int) (w : World) :
    Calls Try.prog 22 #[.int .i64 n, .int .i64 a, .int .i64 b] w fun e w' => e = .returned (.bool (inB n a b)) ∧ w = w' := by
  by_cases h1 : a ≤ n
  · go_enter Try.func22, Try.ntmps22
    go_wp2
    all_goals
      go_ret
      exact ⟨ret_bool (by simp [inB, h1]), rfl⟩
  · go_enter Try.func22, Try.ntmps22
    go_wp2
    go_ret
    exact ⟨ret_bool (by simp [inB]; omega), rfl⟩
theorem AnyX.okW {d : DiskD} (h : AnyX d) : OkDisk d := ⟨by have := h.1; unfold maxLen; omega, fun s hs => by have := h.2.2.1 s hs; unfold maxLen; omega, by have := h.2.1; unfold maxLen; omega, fun x hx => by have := h.2.2.2.1 x hx; unfold OkWait maxLen; omega⟩
theorem AnyX.write_ok {d : DiskD} (h : AnyX d) (n : Int) {s : ByteArray} (hs : s.size ≤ 201) : OkDisk (writeTop d n s) := by
  unfold writeTop
  split
  · split
    · exact dWrite_ok h.okW (by have := h.2.1; unfold maxLen; omega) (by unfold maxLen; omega)
    · exact h.okW
  · exact zeroDisk_ok

set_option maxRecDepth 100000 in
set_option maxHeartbeats 4000000 in
theorem fnDiskWriteWalk (a : Option Addr) (c : Nat) (l : List UInt8) {w : World} (hl : l.length ≤ c) (hc : c ≤ maxLen) (h : BytesS w a l) :
    Calls Try.prog 3 #[.slice a l.length c] w fun e w' => e = .returned (.bool true) ∧ Below w.heap.size w w' := by
  have hcl := hc
  unfold maxLen at hcl
  by_cases hb : (1048576 : Int) < (l.length : Int)
  · go_enter Try.func3, Try.ntmps3
    go_wp2
    go_ret
    exact ⟨rfl, Below.refl _ _⟩
  have hb' : (l.length : Int) ≤ 1048576 := by omega
  clear hb
  go_enter Try.func3, Try.ntmps3
  go_wp2_with fail
  refine (drawWrite_any a c l _ hl hc h).mono ?_
  rintro e w1 ⟨u, d, n, s, rfl, r1, ax, n0, n1, hs, b1⟩
  obtain ⟨a1, ca1, e1, ce1, rfl, _⟩ := id r1
  have hhi : d.2.2 ≤ 9223372036854775807 := by have := ax.2.2.2.2; omega
  have hlw : d.2.1.length ≤ 1048576 := by have := ax.2.1; omega
  have hsm : s.size ≤ maxLen := by unfold maxLen; omega
  have okd := ax.okW
  have bd := Box.alloc w1 #[.slice a1 d.1.length ca1, .slice e1 d.2.1.length ce1, .int .i64 d.2.2] 26
  have R1 := r1.below (below_alloc w1 (.cells #[.slice a1 d.1.length ca1, .slice e1 d.2.1.length ce1, .int .i64 d.2.2] 26))
  have B1 := b1.alloc b1.size (.cells #[.slice a1 d.1.length ca1, .slice e1 d.2.1.length ce1, .int .i64 d.2.2] 26)
  clear b1 r1
  go_wp2_with fail
  refine (implWrite_any _ d n s _ R1 hsm hhi hlw).mono ?_
  rintro e w2 ⟨u2, rfl, o2, b2⟩
  obtain ⟨t, ht⟩ : ∃ t, t = writeTop d n s := ⟨_, rfl⟩
  rw [← ht] at o2
  have okt : OkDisk t := by rw [ht]; exact ax.write_ok n hs
  obtain ⟨a3, ca3, e3, ce3, rfl, _⟩ := id o2
  have bx := Box.alloc w2 #[.slice a3 t.1.length ca3, .slice e3 t.2.1.length ce3, .int .i64 t.2.2] 26
  have AL := below_alloc w2 (.cells #[.slice a3 t.1.length ca3, .slice e3 t.2.1.length ce3, .int .i64 t.2.2] 26)
  have bd2 := (bd.below b2).below AL
  have R2 := Lib.hid ((R1.below b2).below AL)
  have X2 := Lib.hid ((o2.read okt).below AL)
  have B2 : Below w.heap.size w (w2.alloc (.cells #[.slice a3 t.1.length ca3, .slice e3 t.2.1.length ce3, .int .i64 t.2.2] 26)) := (B1.trans (b2.mono B1.size)).trans (AL.mono (by have := B1.size; have := b2.size; omega))
  have HT := Lib.hid ht
  have ZZ : w1.heap.size + 1 ≤ w2.heap.size := by have := b2.size; simpa using this
  clear ht R1 o2 bd B1 b2 AL
  go_wp2_with fail
  generalize w2.alloc (.cells #[.slice a3 t.1.length ca3, .slice e3 t.2.1.length ce3, .int .i64 t.2.2] 26) = w3 at bx bd2 R2 X2 B2 ⊢
  have KS : ∀ w' : World, Below w3.heap.size w3 w' → w'.cell? ⟨w1.heap.size, 0, none⟩ = some (.slice a1 d.1.length ca1) ∧ w'.cell? ⟨w1.heap.size, 1, none⟩ = some (.slice e1 d.2.1.length ce1) ∧ w'.cell? ⟨w1.heap.size, 2, none⟩ = some (.int .i64 d.2.2) ∧ w'.cell? ⟨w2.heap.size, 0, none⟩ = some (.slice a3 t.1.length ca3) ∧ w'.cell? ⟨w2.heap.size, 1, none⟩ = some (.slice e3 t.2.1.length ce3) ∧ w'.cell? ⟨w2.heap.size, 2, none⟩ = some (.int .i64 t.2.2) ∧ Below w3.heap.size w3 w' :=
    fun w' hb => ⟨((bd2.below hb) 0 _ rfl).1, ((bd2.below hb) 1 _ rfl).1, ((bd2.below hb) 2 _ rfl).1, ((bx.below hb) 0 _ rfl).1, ((bx.below hb) 1 _ rfl).1, ((bx.below hb) 2 _ rfl).1, hb⟩
  obtain ⟨x0, x1, x2, y0, y1, y2, -⟩ := KS w3 (Below.refl _ _)
  obtain ⟨bok, hbok⟩ : ∃ bok, bok = diskOk d := ⟨_, rfl⟩
  have HO := Lib.hid hbok.symm
  clear hbok
  go_region_held3 (fun w' => w'.cell? ⟨w1.heap.size, 0, none⟩ = some (.slice a1 d.1.length ca1) ∧ w'.cell? ⟨w1.heap.size, 1, none⟩ = some (.slice e1 d.2.1.length ce1) ∧ w'.cell? ⟨w1.heap.size, 2, none⟩ = some (.int .i64 d.2.2) ∧ w'.cell? ⟨w2.heap.size, 0, none⟩ = some (.slice a3 t.1.length ca3) ∧ w'.cell? ⟨w2.heap.size, 1, none⟩ = some (.slice e3 t.2.1.length ce3) ∧ w'.cell? ⟨w2.heap.size, 2, none⟩ = some (.int .i64 t.2.2) ∧ Below w3.heap.size w3 w')
    ((refine KS _ ?_; (first | exact C7 | exact C6 | exact C5 | exact C4 | exact Below.refl _ _ | exact (Below.refl _ _).drew)))
    (first
      | (go_at_call 19; refine (specWrite_any _ d n s _ (R2.out.below ((Below.refl _ _).drew)) hsm hhi hlw).mono ?_; rintro e w4 ⟨u4, rfl, o4, b4⟩; rw [← HT.out] at o4; have C4 : Below w3.heap.size w3 w4 := (Below.refl _ _).drew.trans b4)
      | (go_at_call 18; refine (wmDisk_any _ _ t _ (X2.out.below C4) (o4.read okt)).mono ?_; rintro e w5 ⟨rfl, b5⟩; have C5 : Below w3.heap.size w3 w5 := C4.trans (b5.mono C4.size))
      | (go_at_call 20; refine (implDiskOk_any _ d _ (R2.out.below C5)).mono ?_; rintro e w6 ⟨rfl, b6⟩; rw [HO.out]; have C6 : Below w3.heap.size w3 w6 := C5.trans (b6.mono C5.size))
      | (go_at_call 21; refine (specDiskOk_any _ d _ (R2.out.below C6)).mono ?_; rintro e w7 ⟨rfl, b7⟩; rw [HO.out]; have C7 : Below w3.heap.size w3 w7 := C6.trans (b7.mono C6.size)))
  clear x0 x1 x2 y0 y1 y2
  obtain ⟨x0, x1, x2, y0, y1, y2, -⟩ := KS _ C7
  go_wp2_with fail
  refine (specDiskOk_any _ d _ (R2.out.below C7)).mono ?_
  rintro e w8 ⟨rfl, b8⟩
  rw [HO.out]
  have C8 : Below w3.heap.size w3 w8 := C7.trans (b8.mono C7.size)
  clear x0 x1 x2 y0 y1 y2
  obtain ⟨x0, x1, x2, y0, y1, y2, -⟩ := KS _ C8
  have BW : Below w.heap.size w w8 := B2.trans (C8.mono B2.size)
  cases bok
  · have hz : ((t.1.length : Int) == 0) = true := by rw [HT.out]; unfold writeTop; rw [HO.out]; rfl
    go_wp2
    go_ret
    exact ⟨rfl, BW⟩
  · have hn2 : s.size ≤ 9223372036854775807 := by omega
    cases hin : inB n 0 139
    · have HI := Lib.hid hin
      have HE := Lib.hid (show t = d by rw [HT.out]; unfold writeTop; rw [HO.out, show takesB n s = false by simp only [inB, decide_eq_false_iff_not] at hin; simp only [takesB, decide_eq_false_iff_not]; omega]; rfl)
      clear hin
      go_wp2_with fail
      refine (wmIn_w _ _ _ _).mono ?_
      rintro e w9 ⟨rfl, rfl⟩
      rw [HI.out]
      go_wp2_with fail
      refine (wmDisk_any _ _ d _ (by have h := X2.out.below C8; rw [← HE.out]; exact h) (R2.out.below C8)).mono ?_
      rintro e w10 ⟨rfl, b10⟩
      go_wp2
      go_ret
      exact ⟨rfl, BW.trans (b10.mono BW.size)⟩
    · have HI := Lib.hid hin
      by_cases hbig : 200 < (s.size : Int)
      · have HE := Lib.hid (show t = d by rw [HT.out]; unfold writeTop; rw [HO.out, show takesB n s = false by simp only [takesB, decide_eq_false_iff_not]; omega]; rfl)
        clear hin
        go_wp2_with fail
        refine (wmIn_w _ _ _ _).mono ?_
        rintro e w9 ⟨rfl, rfl⟩
        rw [HI.out]
        go_wp2_with fail
        refine (wmDisk_any _ _ d _ (by have h := X2.out.below C8; rw [← HE.out]; exact h) (R2.out.below C8)).mono ?_
        rintro e w10 ⟨rfl, b10⟩
        go_wp2
        go_ret
        exact ⟨rfl, BW.trans (b10.mono BW.size)⟩
      · have hle : (s.size : Int) ≤ 200 := by omega
        have htk : takesB n s = true := by simp only [inB, decide_eq_true_eq] at hin; simp only [takesB, decide_eq_true_eq]; omega
        have hn3 : 0 ≤ n ∧ n ≤ 139 := by simpa [inB] using hin
        by_cases h0 : d.2.2 = 0
        · have HE := Lib.hid (show t = d by rw [HT.out]; unfold writeTop dWrite; rw [HO.out, htk, if_pos rfl, if_pos rfl, if_pos h0])
          have hz : (d.2.2 == 0) = true := by simp [h0]
          clear hin hbig h0 htk hn3
          go_wp2_with fail
          refine (wmIn_w _ _ _ _).mono ?_
          rintro e w9 ⟨rfl, rfl⟩
          rw [HI.out]
          go_wp2_with fail
          refine (wmDisk_any _ _ d _ (by have h := X2.out.below C8; rw [← HE.out]; exact h) (R2.out.below C8)).mono ?_
          rintro e w10 ⟨rfl, b10⟩
          go_wp2
          go_ret
          exact ⟨rfl, BW.trans (b10.mono BW.size)⟩
        · have hz : (d.2.2 == 0) = false := by simp [h0]
          have HK := Lib.hid htk
          have H0 := Lib.hid h0
          clear hin hbig h0 htk
          go_wp2_with fail
          refine (wmIn_w _ _ _ _).mono ?_
          rintro e w9 ⟨rfl, rfl⟩
          rw [HI.out]
          go_wp2_with fail
          obtain ⟨m, rfl⟩ := Int.eq_ofNat_of_zero_le hn3.1
          have hm : m < 140 := by omega
          have HRX := Lib.hid (fun (k : Nat) (hk : k < 9) (hne : (k : Int) ≠ (m : Int)) => (show readTop t k = readTop d k by rw [HT.out, read_write HO.out HK.out H0.out k (by omega), if_neg (fun e => hne e.symm)]))
          have HRM := Lib.hid (show readTop t m = s by rw [HT.out, read_write HO.out HK.out H0.out m hm, if_pos rfl])
          have HOT := Lib.hid (show diskOk t = true by rw [HT.out]; exact writeTop_fine HO.out HK.out H0.out)
          clear x0 x1 x2 y0 y1 y2 hn3
          go_loopw [7] (fun i wr => ∃ k : Nat, k ≤ 9 ∧ i = .int .i64 k ∧ Below w3.heap.size w3 wr) (fun i _ => 9 - (intOf i).toNat)
          case atStart => exact ⟨0, by omega, rfl, C8⟩
          case round =>
            obtain ⟨k, hk, rfl, hbel⟩ := hrel
            obtain ⟨x0, x1, x2, y0, y1, y2, -⟩ := KS _ hbel
            by_cases hlt : k < 9
            · have hk9 : (k : Int) < 9 := by omega
              by_cases hkm : (k : Int) = (m : Int)
              · have hq : ((k : Int) != (m : Int)) = false := by simp [hkm]
                clear hkm
                go_wp2_with fail
                go_quiet (fail)
                go_wp2
                go_roundw
                case rel => exact ⟨k + 1, by omega, by go_num, below_drewN hbel nq⟩
                case measure => simp [intOf]; omega
              · have hq : ((k : Int) != (m : Int)) = true := by simp [hkm]
                obtain ⟨rr, hrr⟩ : ∃ rr, rr = readTop d k := ⟨_, rfl⟩
                have HA := Lib.hid hrr.symm
                have HB := Lib.hid ((HRX.out k hlt hkm).trans hrr.symm)
                clear hkm hrr
                go_wp2_with fail
                go_region_held3 (fun w' => w'.cell? ⟨w1.heap.size, 0, none⟩ = some (.slice a1 d.1.length ca1) ∧ w'.cell? ⟨w1.heap.size, 1, none⟩ = some (.slice e1 d.2.1.length ce1) ∧ w'.cell? ⟨w1.heap.size, 2, none⟩ = some (.int .i64 d.2.2) ∧ w'.cell? ⟨w2.heap.size, 0, none⟩ = some (.slice a3 t.1.length ca3) ∧ w'.cell? ⟨w2.heap.size, 1, none⟩ = some (.slice e3 t.2.1.length ce3) ∧ w'.cell? ⟨w2.heap.size, 2, none⟩ = some (.int .i64 t.2.2) ∧ Below w3.heap.size w3 w')
                  ((refine KS _ ?_; (first | exact D12 | exact D11 | exact hbel | exact hbel.drew)))
                  (first
                    | (go_at_call 23; refine (implRead_any _ d k _ (R2.out.below D11)).mono ?_; rintro e w12 ⟨rfl, b12⟩; rw [HA.out]; have D12 : Below w3.heap.size w3 w12 := D11.trans (b12.mono D11.size))
                    | (go_at_call 23; refine (implRead_any _ t k _ (X2.out.below hbel.drew)).mono ?_; rintro e w11 ⟨rfl, b11⟩; rw [HB.out]; have D11 : Below w3.heap.size w3 w11 := hbel.drew.trans (b11.mono hbel.size)))
                go_wp2
                go_roundw
                case rel => exact ⟨k + 1, by omega, by go_num, D12⟩
                case measure => simp [intOf]; omega
            · have hk9 : k = 9 := by omega
              subst hk9
              go_wp2_with fail
              refine (implDiskOk_any _ t _ (X2.out.below hbel)).mono ?_
              rintro e w11 ⟨rfl, b11⟩
              rw [HOT.out]
              have D11 : Below w3.heap.size w3 w11 := hbel.trans (b11.mono hbel.size)
              clear x0 x1 x2 y0 y1 y2
              obtain ⟨x0, x1, x2, y0, y1, y2, -⟩ := KS _ D11
              go_wp2_with fail
              refine (implRead_any _ t m _ (X2.out.below D11)).mono ?_
              rintro e w12 ⟨rfl, b12⟩
              rw [HRM.out]
              have D12 : Below w3.heap.size w3 w12 := D11.trans (b12.mono D11.size)
              go_wp2
              go_ret
              exact ⟨rfl, B2.trans (D12.mono B2.size)⟩
end Go.Proofs.Ytjbkhamfingoiaa
