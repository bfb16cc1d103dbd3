import Derived.Test.YtbdicaanniffpaaDrawList
import Derived.Test.YtbdicaanniffpaaWmE
import Derived.Test.YtbdicaanniffpaaLawsP
import Derived.Test.YtbdicaanniffpaaScanJ
/- The walk of FnMemTrim. -/
namespace Go.Proofs.Ytbdicaanniffpaa
open Go Go.RowKit

set_option maxRecDepth 100000 in
set_option maxHeartbeats 4000000 in
theorem fnMemTrimWalk (a : Option Addr) (c : Nat) (l : List UInt8) {w : World} (hl : l.length ≤ c) (hc : c ≤ maxLen) (h : BytesS w a l) :
    Calls Try.prog 4 #[.slice a l.length c] w fun e w' => e = .returned (.bool true) ∧ Below w.heap.size w w' := by
  have hcl := hc
  unfold maxLen at hcl
  by_cases hb : (1048576 : Int) < (l.length : Int)
  · go_enter Try.func4, Try.ntmps4
    go_wp2
    go_ret
    exact ⟨rfl, Below.refl _ _⟩
  have hb' : (l.length : Int) ≤ 1048576 := by omega
  clear hb
  go_enter Try.func4, Try.ntmps4
  go_wp2_with fail
  refine (drawTrim_any a c l _ hl hc h).mono ?_
  rintro e w1 ⟨b, cb, L, fl, z, rfl, e1, hcb, hE, hn, f0, f1, b1⟩
  have E1 := Lib.hid e1
  have HE := Lib.hid hE
  clear e1 hE
  obtain ⟨R, hR⟩ : ∃ R, R = trimV L fl z := ⟨_, rfl⟩
  have hRn : R.length ≤ 240 := by rw [hR]; exact trimV_len _ _ _
  have HROK := Lib.hid (show ∀ x ∈ R, OkEntry x by rw [hR]; exact fun x hx => HE.out.ok x (trimV_mem hx))
  have HR := Lib.hid hR
  clear hR
  go_wp2_with fail
  refine (implTrim_any _ _ L fl z _ E1.out HE.out.ok).mono ?_
  rintro e w2 ⟨v2, rfl, o2, b2⟩
  rw [← HR.out] at o2
  obtain ⟨a2, c2, rfl⟩ := own_shape o2
  have hc2 := own_cap o2
  have O2 := Lib.hid o2
  have B2 : Below w.heap.size w w2 := b1.trans (b2.mono b1.size)
  have E2 := Lib.hid (E1.out.below b2)
  clear o2 b2 b1 E1
  go_wp2_with fail
  refine (specTrim_any _ _ L fl z _ E2.out HE.out.ok).mono ?_
  rintro e w3 ⟨v3, rfl, o3, b3⟩
  rw [← HR.out] at o3
  obtain ⟨a3, c3, rfl⟩ := own_shape o3
  have O3 := Lib.hid o3
  have X3 := Lib.hid (own_el encEntry_len (by unfold maxLen; omega) (own_below O2.out b3))
  have E3 := Lib.hid (E2.out.below b3)
  have B3 : Below w.heap.size w w3 := B2.trans (b3.mono B2.size)
  clear o3 b3 O2 E2 B2
  go_wp2_with fail
  refine (wmEnts_any _ _ _ _ R _ (by omega) X3.out (own_el encEntry_len (by unfold maxLen; omega) O3.out)).mono ?_
  rintro e w4 ⟨rfl, b4⟩
  have X4 := Lib.hid (X3.out.below b4)
  have E4 := Lib.hid (E3.out.below b4)
  have B4 : Below w.heap.size w w4 := B3.trans (b4.mono B3.size)
  clear b4 O3 X3 B3 E3
  obtain ⟨B, hB⟩ : ∃ B, B = entsB L := ⟨_, rfl⟩
  have HB := Lib.hid hB
  clear hB
  go_wp2_with fail
  refine (implEntries_any _ _ L _ E4.out HE.out.ok).mono ?_
  rintro e w5 ⟨rfl, b5⟩
  rw [← HB.out]
  have X5 := Lib.hid (X4.out.below b5)
  have E5 := Lib.hid (E4.out.below b5)
  have B5 : Below w.heap.size w w5 := B4.trans (b5.mono B4.size)
  clear b5 X4 E4 B4
  go_wp2_with fail
  refine (specEntries_any _ _ L _ E5.out HE.out.ok).mono ?_
  rintro e w6 ⟨rfl, b6⟩
  rw [← HB.out]
  have X6 := Lib.hid (X5.out.below b6)
  have E6 := Lib.hid (E5.out.below b6)
  have B6 : Below w.heap.size w w6 := B5.trans (b6.mono B5.size)
  clear b6 X5 E5 B5
  go_wp2_with fail
  refine (specEntries_any _ _ L _ E6.out HE.out.ok).mono ?_
  rintro e w7 ⟨rfl, b7⟩
  rw [← HB.out]
  have X7 := Lib.hid (X6.out.below b7)
  have E7 := Lib.hid (E6.out.below b7)
  have B7 : Below w.heap.size w w7 := B6.trans (b7.mono B6.size)
  clear b7 X6 E6 B6
  cases B with
  | false =>
    have hR0 : ((R.length : Int) == 0) = true := by rw [HR.out, trimV_no HB.out.symm]; rfl
    go_wp2
    go_ret
    exact ⟨rfl, B7⟩
  | true =>
    have HRE := Lib.hid (show entsB R = true by rw [HR.out, trimV_yes HB.out.symm]; exact trim_ok HB.out.symm)
    have HRT := Lib.hid (show trimV R fl z = R by rw [trimV_yes HRE.out, HR.out, trimV_yes HB.out.symm]; exact trim_twice HB.out.symm)
    have hle : R.length ≤ L.length := by rw [HR.out, trimV_yes HB.out.symm]; exact trimTo_len _ _ _ _ (Nat.le_refl _)
    have hlei : (R.length : Int) ≤ (L.length : Int) := by omega
    have hL2 : L.length ≤ 240 := (entsB_at HB.out.symm).1
    go_wp2
    go_loopw [7] (fun v wr => ∃ q : Int, fl ≤ q ∧ q ≤ fl + 4 ∧ v = .int .i64 q ∧ ElS 4 encEntry wr a2 R ∧ ElS 4 encEntry wr b L ∧ Below w.heap.size w wr) (fun v _ => (fl + 4 - intOf v).toNat)
    case atStart => exact ⟨fl, by omega, by omega, rfl, X7.out, E7.out, B7⟩
    case round =>
      clear X7 E7 B7
      obtain ⟨q, hq0, hq1, rfl, hx, he, hbel⟩ := hrel
      have HX := Lib.hid hx
      have HEE := Lib.hid he
      clear hx he
      by_cases hlt : q < fl + 4
      · obtain ⟨S, hS⟩ : ∃ S, S = scanV L ⟨#[]⟩ q := ⟨_, rfl⟩
        have hSn : S.length ≤ 240 := by rw [hS]; exact scanV_len _ _ _
        have HS1 := Lib.hid (show scanV R ⟨#[]⟩ q = S by rw [hS, HR.out, trimV_yes HB.out.symm]; exact trim_seen HB.out.symm hq0)
        have HS2 := Lib.hid hS
        clear hS
        go_wp2_with fail
        refine (implScan_any _ _ R ⟨#[]⟩ q _ hc2 HX.out HROK.out).mono ?_
        rintro e u1 ⟨v1, rfl, p1, k1⟩
        rw [HS1.out] at p1
        obtain ⟨d1, g1, rfl⟩ := own_shape p1
        have P1 := Lib.hid p1
        have HX1 := Lib.hid (HX.out.below k1)
        have HE1 := Lib.hid (HEE.out.below k1)
        have C1 : Below w.heap.size w u1 := hbel.trans (k1.mono hbel.size)
        clear p1 k1
        go_wp2_with fail
        refine (implScan_any _ _ L ⟨#[]⟩ q _ hcb HE1.out HE.out.ok).mono ?_
        rintro e u2 ⟨v2, rfl, p2, k2⟩
        rw [← HS2.out] at p2
        obtain ⟨d2, g2, rfl⟩ := own_shape p2
        have P2 := Lib.hid (own_el encEntry_len (by unfold maxLen; omega) p2)
        have Q2 := Lib.hid (own_el encEntry_len (by unfold maxLen; omega) (own_below P1.out k2))
        have HX2 := Lib.hid (HX1.out.below k2)
        have HE2 := Lib.hid (HE1.out.below k2)
        have C2 : Below w.heap.size w u2 := C1.trans (k2.mono C1.size)
        clear p2 k2 P1 HX1 HE1
        go_wp2_with fail
        refine (wmEnts_any _ _ _ _ S _ (by omega) Q2.out P2.out).mono ?_
        rintro e u3 ⟨rfl, k3⟩
        have HX3 := Lib.hid (HX2.out.below k3)
        have HE3 := Lib.hid (HE2.out.below k3)
        have C3 : Below w.heap.size w u3 := C2.trans (k3.mono C2.size)
        clear k3 HX2 HE2 P2 Q2
        go_wp2
        go_roundw
        case rel => exact ⟨q + 1, by omega, by omega, by go_num, HX3.out, HE3.out, C3⟩
        case measure => simp [intOf]; omega
      · go_wp2_with fail
        refine (implEntries_any _ _ R _ HX.out HROK.out).mono ?_
        rintro e u1 ⟨rfl, k1⟩
        rw [HRE.out]
        have HX1 := Lib.hid (HX.out.below k1)
        have C1 : Below w.heap.size w u1 := hbel.trans (k1.mono hbel.size)
        clear k1
        go_wp2_with fail
        refine (implTrim_any _ _ R fl z _ HX1.out HROK.out).mono ?_
        rintro e u2 ⟨v2, rfl, p2, k2⟩
        rw [HRT.out] at p2
        obtain ⟨d2, g2, rfl⟩ := own_shape p2
        have P2 := Lib.hid (own_el encEntry_len (by unfold maxLen; omega) p2)
        have HX2 := Lib.hid (HX1.out.below k2)
        have C2 : Below w.heap.size w u2 := C1.trans (k2.mono C1.size)
        clear p2 k2 HX1
        go_wp2_with fail
        refine (wmEnts_any _ _ _ _ R _ (by omega) P2.out HX2.out).mono ?_
        rintro e u3 ⟨rfl, k3⟩
        have C3 : Below w.heap.size w u3 := C2.trans (k3.mono C2.size)
        go_wp2
        go_ret
        exact ⟨rfl, C3⟩
end Go.Proofs.Ytbdicaanniffpaa
