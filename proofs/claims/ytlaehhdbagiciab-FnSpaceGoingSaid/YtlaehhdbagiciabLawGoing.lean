import Derived.Test.YtlaehhdbagiciabLawIn
import Derived.Test.YtlaehhdbagiciabDrawGo
import Derived.Test.YtlaehhdbagiciabSpaceG
/- The walk of FnSpaceGoing. -/
namespace Go.Proofs.Ytlaehhdbagiciab
open Go Go.RowKit

theorem goV_eq {L : List SpaceD} {x : ByteArray} {q : Bool} (h : (spsOk L && goSp L x) = q) : q = L.any fun s => s.2.2.2.1 && inV L x s.1 := by
  subst h
  unfold inV
  cases hk : spsOk L with
  | false => simp
  | true => rw [Bool.true_and, going_any hk]; simp
theorem any_step {α : Type} (f : α → Bool) {l : List α} {k : Nat} (hk : k < l.length) : (l.take (k + 1)).any f = ((l.take k).any f || f l[k]) := by
  rw [List.take_succ_eq_append_getElem hk, List.any_append]
  simp
set_option maxRecDepth 100000 in
set_option maxHeartbeats 2000000 in
theorem fnSpaceGoingWalk (a : Option Addr) (c : Nat) (l : List UInt8) {w : World} (hl : l.length ≤ c) (hc : c ≤ maxLen) (h : BytesS w a l) :
    Calls Try.prog 8 #[.slice a l.length c] w fun e w' => e = .returned (.bool true) ∧ Below w.heap.size w w' := by
  have hcl := hc
  unfold maxLen at hcl
  by_cases hb : (1048576 : Int) < (l.length : Int)
  · go_enter Try.func8, Try.ntmps8
    go_wp2
    go_ret
    exact ⟨rfl, Below.refl _ _⟩
  have hb1 : (l.length : Int) ≤ 1048576 := by omega
  clear hb
  go_enter Try.func8, Try.ntmps8
  go_wp2_with fail
  refine (drawGoing_any a c l _ hl hc h).mono ?_
  rintro e w1 ⟨v, L, x, rfl, ow, hE, hn, hs, b1⟩
  obtain ⟨b, cb, rfl, -, -⟩ := id ow
  have E3 := Lib.hid (show ElS 5 encSpace w1 b L by obtain ⟨a', c', e, hl, _⟩ := ow.vw; cases e; exact hl)
  have HE := Lib.hid hE
  have B3 := Lib.hid b1
  clear ow hE b1
  obtain ⟨q, hq⟩ : ∃ q, (spsOk L && goSp L x) = q := ⟨_, rfl⟩
  have HQ := Lib.hid hq
  have HG := Lib.hid (goV_eq hq)
  clear hq
  have hqq : (q != q) = false := by simp
  go_wp2_with fail
  refine (implSpaceGoing_any _ _ L x _ E3.out HE.out.ok).mono ?_
  rintro e w3 ⟨rfl, b3⟩
  rw [HQ.out]
  have B3' := Lib.hid (B3.out.trans (b3.mono B3.out.size))
  have E3' := Lib.hid (E3.out.below b3)
  clear b3 E3 B3
  go_wp2_with fail
  refine (specSpaceGoing_any _ _ L x _ E3'.out HE.out.ok (by omega)).mono ?_
  rintro e w4 ⟨rfl, b4⟩
  rw [HQ.out]
  have B4 := Lib.hid (B3'.out.trans (b4.mono B3'.out.size))
  have E4 := Lib.hid (E3'.out.below b4)
  clear b4 E3' B3'
  obtain ⟨R, hR⟩ : ∃ R, upO L x = R := ⟨_, rfl⟩
  have HR := Lib.hid hR
  have hRn : R.length ≤ 8 := by rw [← hR]; exact upO_len9 L x
  have HRS := Lib.hid (show ∀ x ∈ R, x.size ≤ maxLen by rw [← hR]; exact upO_sz HE.out.ok x)
  clear hR
  go_wp2_with fail
  refine (implSpaceUp_any _ _ L x _ E4.out HE.out.ok).mono ?_
  rintro e w5 ⟨v5, rfl, o5, b5⟩
  rw [HR.out] at o5
  obtain ⟨a5, c5, rfl⟩ := own_shpU o5
  have B5 := Lib.hid (B4.out.trans (b5.mono B4.out.size))
  have E5 := Lib.hid (E4.out.below b5)
  have S5 := Lib.hid (own_str (by unfold maxLen; omega) HRS.out o5)
  clear o5 b5 E4 B4
  go_wp2_with fail
  refine (specSpaceUp_any _ _ L x _ E5.out HE.out.ok (by omega)).mono ?_
  rintro e w6 ⟨v6, rfl, o6, b6⟩
  rw [HR.out] at o6
  obtain ⟨a6, c6, rfl⟩ := own_shpU o6
  have B6 := Lib.hid (B5.out.trans (b6.mono B5.out.size))
  have E6 := Lib.hid (E5.out.below b6)
  have S6 := Lib.hid (S5.out.below b6)
  have T6 := Lib.hid (own_str (by unfold maxLen; omega) HRS.out o6)
  clear o6 b6 E5 S5 B5
  go_wp2_with fail
  refine (wmWords_eq _ _ _ _ R _ S6.out T6.out).mono ?_
  rintro e w7 ⟨rfl, b7⟩
  have B7 := Lib.hid (B6.out.trans (b7.mono B6.out.size))
  have E7 := Lib.hid (E6.out.below b7)
  clear b7 E6 S6 T6 B6
  go_wp2_with fail
  go_loopw [6, 7] (fun y i wr => ∃ k : Nat, k ≤ L.length ∧ i = .int .i64 k ∧ y = .bool ((L.take k).any fun s => s.2.2.2.1 && inV L x s.1) ∧ Below w7.heap.size w7 wr) (fun _ i _ => L.length - (intOf i).toNat)
  case atStart => exact ⟨0, Nat.zero_le _, rfl, rfl, Below.refl _ _⟩
  case round =>
    obtain ⟨k, hk, rfl, rfl, hbel⟩ := hrel
    have E8 := Lib.hid (E7.out.below hbel)
    have B8 := Lib.hid (B7.out.trans (hbel.mono B7.out.size))
    have HB := Lib.hid hbel
    clear hbel
    by_cases hlt : k < L.length
    · have hd : decide (k < L.length) = true := decide_eq_true hlt
      obtain ⟨bb, ob, rfl, hcb⟩ := E8.out.2.resolve_left (fun e => by rw [e] at hlt; simp at hlt)
      obtain ⟨c0, -, -, c3, -⟩ := cellsSpace (Below.refl _ _) hcb k hlt
      clear hcb
      obtain ⟨y, hy⟩ : ∃ y, ((L.take k).any fun s => s.2.2.2.1 && inV L x s.1) = y := ⟨_, rfl⟩
      have HS := Lib.hid (any_step (fun s : SpaceD => s.2.2.2.1 && inV L x s.1) hlt)
      rw [hy] at HS ⊢
      cases y with
      | true =>
        go_wp2_with fail
        go_roundw
        case rel => exact ⟨k + 1, by omega, by go_num, by rw [HS.out]; rfl, HB.out⟩
        case measure => simp [intOf]; omega
      | false =>
        cases hg : L[k].2.2.2.1 with
        | false =>
          rw [hg] at c3
          go_wp2_with fail
          go_roundw
          case rel => exact ⟨k + 1, by omega, by go_num, by rw [HS.out]; simp [hg], HB.out⟩
          case measure => simp [intOf]; omega
        | true =>
          rw [hg] at c3
          go_wp2_with fail
          refine (inV_c x L[k].1 E8.out HE.out rfl).mono ?_
          rintro e w8 ⟨rfl, b8⟩
          go_wp2_with fail
          go_roundw
          case rel => exact ⟨k + 1, by omega, by go_num, by rw [HS.out]; simp [hg], HB.out.trans (b8.mono HB.out.size)⟩
          case measure => simp [intOf]; omega
    · have hd : decide (k < L.length) = false := decide_eq_false hlt
      have hkk : k = L.length := by omega
      subst hkk
      rw [List.take_length]
      rw [← HG.out]
      go_wp2_with fail
      go_ret
      exact ⟨by simp, B8.out⟩
end Go.Proofs.Ytlaehhdbagiciab
