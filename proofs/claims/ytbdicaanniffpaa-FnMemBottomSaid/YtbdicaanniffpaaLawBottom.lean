import Derived.Test.YtbdicaanniffpaaDrawList
import Derived.Test.YtbdicaanniffpaaWmE
import Derived.Test.YtbdicaanniffpaaLawsP
/- The walk of FnMemBottom. -/
namespace Go.Proofs.Ytbdicaanniffpaa
open Go Go.RowKit

theorem trimV_live {l : List EntryD} {floor : Int} (i : Nat) (hi : i < (trimV l floor true).length) (hf : (trimV l floor true)[i].2.1 ≤ floor) : (trimV l floor true)[i].2.2.1 = false := by
  cases h : entsB l with
  | false => exfalso; rw [trimV_no h] at hi; simp at hi
  | true =>
    have e : trimV l floor true = trimL l floor true := trimV_yes h
    simp only [e] at hi hf ⊢
    exact bottom_live h i hi hf
theorem trimV_apart {l : List EntryD} {floor : Int} (i : Nat) (hi : i + 1 < (trimV l floor true).length) : ¬ ((trimV l floor true)[i].1 = (trimV l floor true)[i+1].1 ∧ (trimV l floor true)[i].2.1 ≤ floor) := by
  cases h : entsB l with
  | false => exfalso; rw [trimV_no h] at hi; simp at hi
  | true =>
    have e : trimV l floor true = trimL l floor true := trimV_yes h
    simp only [e] at hi ⊢
    exact bottom_apart h i hi

set_option maxRecDepth 100000 in
set_option maxHeartbeats 2000000 in
theorem fnMemBottomWalk (a : Option Addr) (c : Nat) (l : List UInt8) {w : World} (hl : l.length ≤ c) (hc : c ≤ maxLen) (h : BytesS w a l) :
    Calls Try.prog 5 #[.slice a l.length c] w fun e w' => e = .returned (.bool true) ∧ Below w.heap.size w w' := by
  have hcl := hc
  unfold maxLen at hcl
  by_cases hb : (1048576 : Int) < (l.length : Int)
  · go_enter Try.func5, Try.ntmps5
    go_wp2
    go_ret
    exact ⟨rfl, Below.refl _ _⟩
  have hb' : (l.length : Int) ≤ 1048576 := by omega
  clear hb
  go_enter Try.func5, Try.ntmps5
  go_wp2_with fail
  refine (drawTrim_any a c l _ hl hc h).mono ?_
  rintro e w1 ⟨b, cb, L, fl, z, rfl, e1, hcb, hE, hn, f0, f1, b1⟩
  have E1 := Lib.hid e1
  have HE := Lib.hid hE
  clear e1 hE
  obtain ⟨R, hR⟩ : ∃ R, R = trimV L fl true := ⟨_, rfl⟩
  have hRn : R.length ≤ 240 := by rw [hR]; exact trimV_len _ _ _
  have HRL := Lib.hid (show ∀ (i : Nat) (hi : i < R.length), R[i].2.1 ≤ fl → R[i].2.2.1 = false by subst hR; exact fun i hi => trimV_live i hi)
  have HRA := Lib.hid (show ∀ (i : Nat) (hi : i + 1 < R.length), ¬ ((R[i]'(by omega)).1 = R[i+1].1 ∧ (R[i]'(by omega)).2.1 ≤ fl) by subst hR; exact fun i hi => trimV_apart i hi)
  have HR := Lib.hid hR
  clear hR
  go_wp2_with fail
  refine (implTrim_any _ _ L fl true _ E1.out HE.out.ok).mono ?_
  rintro e w2 ⟨v2, rfl, o2, b2⟩
  rw [← HR.out] at o2
  obtain ⟨a2, c2, rfl⟩ := own_shape o2
  have O2 := Lib.hid o2
  have B2 : Below w.heap.size w w2 := b1.trans (b2.mono b1.size)
  have E2 := Lib.hid (E1.out.below b2)
  clear o2 b2 b1 E1
  go_wp2_with fail
  refine (specTrim_any _ _ L fl true _ E2.out HE.out.ok).mono ?_
  rintro e w3 ⟨v3, rfl, o3, b3⟩
  rw [← HR.out] at o3
  obtain ⟨a3, c3, rfl⟩ := own_shape o3
  have O3 := Lib.hid o3
  have X3 := Lib.hid (own_el encEntry_len (by unfold maxLen; omega) (own_below O2.out b3))
  have B3 : Below w.heap.size w w3 := B2.trans (b3.mono B2.size)
  clear o3 b3 O2 E2 B2
  go_wp2_with fail
  refine (wmEnts_any _ _ _ _ R _ (by omega) X3.out (own_el encEntry_len (by unfold maxLen; omega) O3.out)).mono ?_
  rintro e w4 ⟨rfl, b4⟩
  have X4 := Lib.hid (X3.out.below b4)
  have B4 : Below w.heap.size w w4 := B3.trans (b4.mono B3.size)
  clear b4 O3 X3 B3
  go_wp2
  go_loopw [7] (fun v wr => ∃ i : Nat, i ≤ R.length ∧ v = .int .i64 i ∧ ElS 4 encEntry wr a2 R ∧ Below w.heap.size w wr) (fun v _ => R.length - (intOf v).toNat)
  case atStart => exact ⟨0, Nat.zero_le _, rfl, X4.out, B4⟩
  case round =>
    clear X4 B4
    obtain ⟨i, hi, rfl, hx, hbel⟩ := hrel
    have HX := Lib.hid hx
    clear hx
    by_cases hlt : i < R.length
    · obtain ⟨ba, oa, rfl, hca⟩ := HX.out.2.resolve_left (by intro e; subst e; simp at hlt)
      have HC := Lib.hid hca
      clear hca
      obtain ⟨c0, c1, c2, c3⟩ := cellsEntry (Below.refl _ wr) HC.out i hlt
      have hi0 : (0 : Int) ≤ (i : Int) := by omega
      have hin : (i : Int) < (R.length : Int) := by omega
      by_cases g : R[i].2.1 ≤ fl
      · have g1 : decide (R[i].2.1 ≤ fl) = true := decide_eq_true g
        have hd := HRL.out i hlt g
        rw [hd] at c2
        by_cases h0 : i = 0
        · have h0i : decide (0 < i) = false := decide_eq_false (by omega)
          clear h0 hd
          go_wp2
          go_quiet (fail)
          go_wp2
          go_roundw
          case rel => exact ⟨i + 1, by omega, by go_num, HX.out.below (bel_drewN (Below.refl _ _) _), below_drewN hbel nq⟩
          case measure => simp [intOf]; omega
        · obtain ⟨m, hm⟩ : ∃ m, i = m + 1 := ⟨i - 1, by omega⟩
          have h0i : decide (0 < i) = true := decide_eq_true (by omega)
          have h0p : (0 : Int) < (i : Int) := by omega
          have hkm : (i : Int) - 1 = (m : Int) := by omega
          have hkw : IntKind.i64.wrap (m : Int) = (m : Int) := wrap_len (by omega)
          have hml : m < R.length := by omega
          have hm0 : (0 : Int) ≤ (m : Int) := by omega
          have hmn : (m : Int) < (R.length : Int) := by omega
          obtain ⟨d0, d1, d2, d3⟩ := cellsEntry (Below.refl _ wr) HC.out m hml
          have hap : ¬ (R[m].1 = R[i].1 ∧ R[m].2.1 ≤ fl) := by subst hm; exact HRA.out m hlt
          clear hm h0 hd
          by_cases e : R[m].1 = R[i].1
          · have q1 : (R[m].1.toList == R[i].1.toList) = true := by rw [e]; simp
            have g2 : decide (R[m].2.1 ≤ fl) = false := decide_eq_false (fun q => hap ⟨e, q⟩)
            clear e hap
            go_wp2
            go_quiet (fail)
            go_wp2
            go_roundw
            case rel => exact ⟨i + 1, by omega, by go_num, HX.out.below (bel_drewN (Below.refl _ _) _), below_drewN hbel nq⟩
            case measure => simp [intOf]; omega
          · have q1 := eqL_no e
            clear e hap
            go_wp2
            go_quiet (fail)
            go_wp2
            go_roundw
            case rel => exact ⟨i + 1, by omega, by go_num, HX.out.below (bel_drewN (Below.refl _ _) _), below_drewN hbel nq⟩
            case measure => simp [intOf]; omega
      · have g1 : decide (R[i].2.1 ≤ fl) = false := decide_eq_false g
        go_wp2
        go_quiet (fail)
        go_wp2
        go_roundw
        case rel => exact ⟨i + 1, by omega, by go_num, HX.out.below (bel_drewN (Below.refl _ _) _), below_drewN hbel nq⟩
        case measure => simp [intOf]; omega
    · go_wp2
      go_ret
      exact ⟨rfl, hbel⟩
end Go.Proofs.Ytbdicaanniffpaa
