import Derived.Test.YtlaehhdbagiciabLawUp
import Derived.Test.YtlaehhdbagiciabInP
/- The walk of FnSpaceIn. -/
namespace Go.Proofs.Ytlaehhdbagiciab
open Go Go.RowKit

theorem inV_c {b : Option Addr} {cb : Nat} {L : List SpaceD} (x y : ByteArray) {w : World} (h : ElS 5 encSpace w b L) (hE : AnySp L) {q : Bool} (hq : inV L x y = q) :
    Calls Try.prog 37 #[.slice b L.length cb, .string x, .string y] w fun e w' => e = .returned (.bool q) ∧ Below w.heap.size w w' :=
  (implSpaceIn_any b cb L x y w h hE.ok).mono fun _ _ ⟨e, k⟩ => ⟨by rw [e, ← hq]; rfl, k⟩

set_option maxRecDepth 100000 in
set_option maxHeartbeats 2000000 in
theorem fnSpaceInWalk (a : Option Addr) (c : Nat) (l : List UInt8) {w : World} (hl : l.length ≤ c) (hc : c ≤ maxLen) (h : BytesS w a l) (a' : Option Addr) (c' : Nat) (l' : List UInt8) (hl' : l'.length ≤ c') (hc' : c' ≤ maxLen) (h' : BytesS w a' l') :
    Calls Try.prog 7 #[.slice a l.length c, .slice a' l'.length c'] w fun e w' => e = .returned (.bool true) ∧ Below w.heap.size w w' := by
  have hcl := hc
  have hcl' := hc'
  unfold maxLen at hcl hcl'
  by_cases hb : (1048576 : Int) < (l.length : Int)
  · go_enter Try.func7, Try.ntmps7
    go_wp2
    go_ret
    exact ⟨rfl, Below.refl _ _⟩
  have hb1 : (l.length : Int) ≤ 1048576 := by omega
  clear hb
  by_cases hb : (1048576 : Int) < (l'.length : Int)
  · go_enter Try.func7, Try.ntmps7
    go_wp2
    go_ret
    exact ⟨rfl, Below.refl _ _⟩
  have hb2 : (l'.length : Int) ≤ 1048576 := by omega
  clear hb
  have HY := Lib.hid h'
  clear h'
  go_enter Try.func7, Try.ntmps7
  go_wp2_with fail
  refine (drawIn_any a c l _ hl hc h).mono ?_
  rintro e w1 ⟨v, L, x, y, rfl, ow, hE, hn, hs, ht, b1⟩
  obtain ⟨b, cb, rfl, -, -⟩ := id ow
  have E1 := Lib.hid (show ElS 5 encSpace w1 b L by obtain ⟨a', c', e, hl, _⟩ := ow.vw; cases e; exact hl)
  have HE := Lib.hid hE
  clear ow hE
  go_wp2_with fail
  refine (drawIn_any a' c' l' _ hl' hc' (bytes_below b1 HY.out)).mono ?_
  rintro e w2 ⟨v', L', z, z', rfl, -, -, -, -, -, b2⟩
  have B2 := Lib.hid (b1.trans (b2.mono b1.size))
  have E2 := Lib.hid (E1.out.below b2)
  clear b1 b2 E1 HY
  obtain ⟨q, hq⟩ : ∃ q, inV L x y = q := ⟨_, rfl⟩
  have HQ := Lib.hid hq
  clear hq
  have hqq : (q != q) = false := by simp
  go_wp2_with fail
  refine (inV_c x y E2.out HE.out HQ.out).mono ?_
  rintro e w3 ⟨rfl, b3⟩
  have B3 := Lib.hid (B2.out.trans (b3.mono B2.out.size))
  have E3 := Lib.hid (E2.out.below b3)
  clear b3 E2 B2
  go_wp2_with fail
  refine (specSpaceIn_any _ _ L x y _ E3.out HE.out.ok (by omega)).mono ?_
  rintro e w4 ⟨rfl, b4⟩
  rw [show (spsOk L && inSp L x y) = q from HQ.out]
  have B4 := Lib.hid (B3.out.trans (b4.mono B3.out.size))
  have E4 := Lib.hid (E3.out.below b4)
  clear b4 E3 B3
  obtain ⟨R, hR⟩ : ∃ R, upO L x = R := ⟨_, rfl⟩
  have HR := Lib.hid hR
  have hRn : R.length ≤ 8 := by rw [← hR]; exact upO_len9 L x
  have HRS := Lib.hid (show ∀ x ∈ R, x.size ≤ maxLen by rw [← hR]; exact upO_sz HE.out.ok x)
  clear hR
  go_wp2_with fail
  refine (implSpaceUp_any _ _ L x _ E4.out HE.out.ok).mono ?_
  rintro e w5 ⟨v5, rfl, o5, b5⟩
  rw [HR.out] at o5
  obtain ⟨a5, c5, rfl⟩ := own_shpU o5
  have B5 := Lib.hid (B4.out.trans (b5.mono B4.out.size))
  have E5 := Lib.hid (E4.out.below b5)
  have S5 := Lib.hid (own_str (by unfold maxLen; omega) HRS.out o5)
  clear o5 b5 E4 B4
  go_wp2_with fail
  refine (specSpaceUp_any _ _ L x _ E5.out HE.out.ok (by omega)).mono ?_
  rintro e w6 ⟨v6, rfl, o6, b6⟩
  rw [HR.out] at o6
  obtain ⟨a6, c6, rfl⟩ := own_shpU o6
  have B6 := Lib.hid (B5.out.trans (b6.mono B5.out.size))
  have E6 := Lib.hid (E5.out.below b6)
  have S6 := Lib.hid (S5.out.below b6)
  have T6 := Lib.hid (own_str (by unfold maxLen; omega) HRS.out o6)
  clear o6 b6 E5 S5 B5
  go_wp2_with fail
  refine (wmWords_eq _ _ _ _ R _ S6.out T6.out).mono ?_
  rintro e w7 ⟨rfl, b7⟩
  have B7 := Lib.hid (B6.out.trans (b7.mono B6.out.size))
  have E7 := Lib.hid (E6.out.below b7)
  clear b7 E6 S6 T6 B6
  cases q with
  | false =>
    go_wp2_with fail
    go_ret
    exact ⟨rfl, B7.out⟩
  | true =>
    cases hq2 : inV L y z with
    | false =>
      have HQ2 := Lib.hid hq2
      clear hq2
      cases hq3 : inV L y x with
      | false =>
        have HQ3 := Lib.hid hq3
        clear hq3
        go_wp2_with fail
        refine (inV_c y z E7.out HE.out HQ2.out).mono ?_
        rintro e w8 ⟨rfl, b8⟩
        go_wp2_with fail
        refine (inV_c y x (E7.out.below b8) HE.out HQ3.out).mono ?_
        rintro e w9 ⟨rfl, b9⟩
        go_wp2_with fail
        go_ret
        exact ⟨rfl, (B7.out.trans (b8.mono B7.out.size)).trans (b9.mono (Nat.le_trans B7.out.size b8.size))⟩
      | true =>
        have HQ3 := Lib.hid hq3
        have hxy : (x.toList == y.toList) = true := by rw [inV_anti HQ.out hq3]; simp
        clear hq3
        go_wp2_with fail
        refine (inV_c y z E7.out HE.out HQ2.out).mono ?_
        rintro e w8 ⟨rfl, b8⟩
        go_wp2_with fail
        refine (inV_c y x (E7.out.below b8) HE.out HQ3.out).mono ?_
        rintro e w9 ⟨rfl, b9⟩
        go_wp2_with fail
        go_ret
        exact ⟨rfl, (B7.out.trans (b8.mono B7.out.size)).trans (b9.mono (Nat.le_trans B7.out.size b8.size))⟩
    | true =>
      have HQ2 := Lib.hid hq2
      have HQ4 := Lib.hid (inV_trans HQ.out hq2)
      clear hq2
      cases hq3 : inV L y x with
      | false =>
        have HQ3 := Lib.hid hq3
        clear hq3
        go_wp2_with fail
        refine (inV_c y z E7.out HE.out HQ2.out).mono ?_
        rintro e w8 ⟨rfl, b8⟩
        go_wp2_with fail
        refine (inV_c x z (E7.out.below b8) HE.out HQ4.out).mono ?_
        rintro e w9 ⟨rfl, b9⟩
        have B9 := (B7.out.trans (b8.mono B7.out.size)).trans (b9.mono (Nat.le_trans B7.out.size b8.size))
        go_wp2_with fail
        refine (inV_c y x ((E7.out.below b8).below b9) HE.out HQ3.out).mono ?_
        rintro e w10 ⟨rfl, b10⟩
        go_wp2_with fail
        go_ret
        exact ⟨rfl, B9.trans (b10.mono B9.size)⟩
      | true =>
        have HQ3 := Lib.hid hq3
        have hxy : (x.toList == y.toList) = true := by rw [inV_anti HQ.out hq3]; simp
        clear hq3
        go_wp2_with fail
        refine (inV_c y z E7.out HE.out HQ2.out).mono ?_
        rintro e w8 ⟨rfl, b8⟩
        go_wp2_with fail
        refine (inV_c x z (E7.out.below b8) HE.out HQ4.out).mono ?_
        rintro e w9 ⟨rfl, b9⟩
        have B9 := (B7.out.trans (b8.mono B7.out.size)).trans (b9.mono (Nat.le_trans B7.out.size b8.size))
        go_wp2_with fail
        refine (inV_c y x ((E7.out.below b8).below b9) HE.out HQ3.out).mono ?_
        rintro e w10 ⟨rfl, b10⟩
        go_wp2_with fail
        go_ret
        exact ⟨rfl, B9.trans (b10.mono B9.size)⟩
end Go.Proofs.Ytlaehhdbagiciab
