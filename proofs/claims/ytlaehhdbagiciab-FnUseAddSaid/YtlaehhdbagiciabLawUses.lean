import Derived.Test.YtlaehhdbagiciabProg
import Derived.Test.YtlaehhdbagiciabBase
import Derived.Test.YtlaehhdbagiciabStrOrd
import Derived.Deep.QuietTactic
import Derived.BigQuiet
import Derived.WalkLawsBesides
import Derived.Test.YtlaehhdbagiciabUpP
import Derived.Test.YtlaehhdbagiciabDrawSps
import Derived.Test.YtlaehhdbagiciabSpaceUpI
import Derived.Test.YtlaehhdbagiciabSpaceI
import Derived.Test.YtlaehhdbagiciabCloneUse
import Derived.Test.YtlaehhdbagiciabUseC
import Derived.Test.YtlaehhdbagiciabSlots
/- wmWords at equal lists, wmHas. -/
namespace Go.Proofs.Ytlaehhdbagiciab
open Go Go.RowKit

set_option maxRecDepth 100000 in
set_option maxHeartbeats 400000 in
theorem wmWords_eq (a b : Option Addr) (ca cb : Nat) (l : List ByteArray) (w : World) (hl : StrS w a l) (hm : StrS w b l) :
    Calls Try.prog 32 #[.slice a l.length ca, .slice b l.length cb] w fun e w' => e = .returned (.bool true) ∧ Below w.heap.size w w' := by
  have h1 := hl.1
  unfold maxLen at h1
  go_enter Try.func32, Try.ntmps32
  go_wp2
  go_loopw [5] (fun i wr => ∃ k : Nat, k ≤ l.length ∧ i = .int .i64 k ∧ Below w.heap.size w wr) (fun i _ => l.length - (intOf i).toNat)
  case atStart => exact ⟨0, Nat.zero_le _, rfl, (by repeat (first | exact Below.refl _ _ | (refine Below.alloc ?_ (by first | (simp; done) | (simp; omega)) _) | (refine Below.setCell ?_ (by first | (simp; done) | (simp; omega)) _) | (refine Below.drew ?_)))⟩
  case round =>
    obtain ⟨k, hk, rfl, hbel⟩ := hrel
    by_cases hlt : k < l.length
    · obtain ⟨ba, oa, rfl, hca⟩ := hl.2.2.resolve_left (by intro e; subst e; simp at hlt)
      obtain ⟨bb, ob, rfl, hcb⟩ := hm.2.2.resolve_left (by intro e; subst e; simp at hlt)
      have c1 : wr.cell? ⟨ba, oa + k, none⟩ = some (.string l[k]) := by
        rw [hbel.cell (by have := World.block_lt_of_cell? w _ (hca k hlt); simpa using this)]; exact hca k hlt
      have c2 : wr.cell? ⟨bb, ob + k, none⟩ = some (.string l[k]) := by
        rw [hbel.cell (by have := World.block_lt_of_cell? w _ (hcb k hlt); simpa using this)]; exact hcb k hlt
      go_wp2
      go_quiet (fail)
      go_wp2
      go_roundw
      case rel => exact ⟨k + 1, by omega, by go_num, hbel.trans (below_drewN (Below.refl _ _) nq |>.mono hbel.size)⟩
      case measure => simp [intOf]; omega
    · go_wp2
      go_ret
      exact ⟨rfl, hbel⟩
def hasB (l : List ByteArray) (s : ByteArray) : Bool := l.any fun x => decide (x = s)
set_option maxRecDepth 100000 in
set_option maxHeartbeats 400000 in
theorem wmHas_any (a : Option Addr) (ca : Nat) (l : List ByteArray) (s : ByteArray) (w : World) (hl : StrS w a l) :
    Calls Try.prog 36 #[.slice a l.length ca, .string s] w fun e w' => e = .returned (.bool (hasB l s)) ∧ Below w.heap.size w w' := by
  have h1 := hl.1
  unfold maxLen at h1
  go_enter Try.func36, Try.ntmps36
  go_wp2
  go_loopw [5] (fun i wr => ∃ k : Nat, k ≤ l.length ∧ i = .int .i64 k ∧ (∀ j (hj : j < l.length), j < k → l[j] ≠ s) ∧ Below w.heap.size w wr) (fun i _ => l.length - (intOf i).toNat)
  case atStart => exact ⟨0, Nat.zero_le _, rfl, fun j hj h => absurd h (Nat.not_lt_zero _), (by repeat (first | exact Below.refl _ _ | (refine Below.alloc ?_ (by first | (simp; done) | (simp; omega)) _) | (refine Below.setCell ?_ (by first | (simp; done) | (simp; omega)) _) | (refine Below.drew ?_)))⟩
  case round =>
    obtain ⟨k, hk, rfl, hto, hbel⟩ := hrel
    have HT := Lib.hid hto
    clear hto
    by_cases hlt : k < l.length
    · obtain ⟨ba, oa, rfl, hca⟩ := hl.2.2.resolve_left (by intro e; subst e; simp at hlt)
      have c1 : wr.cell? ⟨ba, oa + k, none⟩ = some (.string l[k]) := by
        rw [hbel.cell (by have := World.block_lt_of_cell? w _ (hca k hlt); simpa using this)]; exact hca k hlt
      by_cases e : l[k] = s
      · have q1 : (l[k].toList == s.toList) = true := by rw [e]; simp
        have HN := Lib.hid (show hasB l s = true from List.any_eq_true.2 ⟨_, List.getElem_mem hlt, by simp [e]⟩)
        clear e hca
        go_wp2
        go_ret
        exact ⟨ret_bool HN.out.symm, hbel⟩
      · have q1 : (l[k].toList == s.toList) = false := by
          rw [beq_eq_false_iff_ne]
          exact fun e2 => e (toList_inj e2)
        have HN := Lib.hid (show ∀ j (hj : j < l.length), j < k + 1 → l[j] ≠ s from fun j hj hjk => by
          by_cases e2 : j < k
          · exact HT.out j hj e2
          · obtain rfl : j = k := by omega
            exact e)
        clear e hca
        go_wp2
        go_roundw
        case rel => exact ⟨k + 1, by omega, by go_num, HN.out, hbel⟩
        case measure => simp [intOf]; omega
    · have HN := Lib.hid (show hasB l s = false from List.any_eq_false.2 fun x hx => by
        obtain ⟨j, hj, rfl⟩ := List.mem_iff_getElem.1 hx
        simpa using HT.out j hj (by omega))
      go_wp2
      go_ret
      exact ⟨ret_bool HN.out.symm, hbel⟩
end Go.Proofs.Ytlaehhdbagiciab

/- Who is in whom. -/
namespace Go.Proofs.Ytlaehhdbagiciab
open Go Go.RowKit

theorem mem_of_after {α : Type} {nx : α → Option α} {j : α} : ∀ (k p : Nat) (o : Option α), p < k → after nx o p = some j → j ∈ trail nx o k
  | 0, p, _, h, _ => absurd h (Nat.not_lt_zero _)
  | k + 1, p, none, _, h => by rw [after_none] at h; cases h
  | k + 1, 0, some i, _, h => by cases h; exact List.mem_cons_self
  | k + 1, p + 1, some i, hp, h => List.mem_cons_of_mem _ (mem_of_after k p (nx i) (by omega) h)
/-- one space is in another: some steps outward -/
theorem inSp_steps {l : List SpaceD} (hk : spsOk l = true) {x y : ByteArray} : inSp l x y = true ↔ ∃ p j, after (nxS l) (idxS l x) p = some j ∧ idxS l y = some j := by
  have hl := (sps_len hk).2.2
  have h7 := (sps_len hk).2.1
  have hend := sps_end hk x
  unfold inSp upS
  rw [List.any_map, List.any_eq_true]
  constructor
  · rintro ⟨j, hj, e⟩
    have e : nmS l j = y := of_decide_eq_true e
    have hjl := trail_lt 8 _ (fun i hi => idxS_lt hi) j hj
    obtain ⟨p, _, hp⟩ := mem_trail 8 hj
    exact ⟨p, j, hp, by rw [← e]; exact line_idx hl hjl⟩
  · rintro ⟨p, j, hp, hj⟩
    have hpl : p < l.length := by
      rcases Nat.lt_or_ge p l.length with h | h
      · exact h
      · rw [(trail_end hend h).2] at hp; cases hp
    exact ⟨j, mem_of_after 8 p _ (by omega) hp, decide_eq_true (by rw [nmS_at (idxS_lt hj)]; exact idxS_name hj)⟩
theorem inSp_trans {l : List SpaceD} (hk : spsOk l = true) {x y z : ByteArray} (h1 : inSp l x y = true) (h2 : inSp l y z = true) : inSp l x z = true := by
  obtain ⟨p, j, hp, hj⟩ := (inSp_steps hk).1 h1
  obtain ⟨q, k, hq, hkk⟩ := (inSp_steps hk).1 h2
  rw [hj] at hq
  exact (inSp_steps hk).2 ⟨p + q, k, by rw [after_add, hp]; exact hq, hkk⟩
theorem inSp_anti {l : List SpaceD} (hk : spsOk l = true) {x y : ByteArray} (h1 : inSp l x y = true) (h2 : inSp l y x = true) : x = y := by
  obtain ⟨p, j, hp, hj⟩ := (inSp_steps hk).1 h1
  obtain ⟨q, i, hq, hi⟩ := (inSp_steps hk).1 h2
  rw [hj] at hq
  rw [hi] at hp
  by_cases h0 : p = 0
  · subst h0
    have e : i = j := by cases hp; rfl
    subst e
    rw [← idxS_name hi, idxS_name hj]
  · exfalso
    have hc : after (nxS l) (some i) (p + q) = some i := by rw [after_add, hp]; exact hq
    have h1 := after_cycle hc l.length
    have hend := sps_end hk x
    rw [hi] at hend
    have h2 := (trail_end hend (show l.length ≤ (p + q) * l.length from Nat.le_mul_of_pos_left _ (by omega))).2
    rw [h2] at h1
    cases h1
/-- what is in nothing that is there, is nowhere -/
theorem inSp_no {l : List SpaceD} {x : ByteArray} (h : idxS l x = none) (y : ByteArray) : inSp l x y = false := by
  unfold inSp upS
  rw [h, trail_none]
  rfl
def inV (l : List SpaceD) (x y : ByteArray) : Bool := spsOk l && inSp l x y
theorem inV_trans {l : List SpaceD} {x y z : ByteArray} (h1 : inV l x y = true) (h2 : inV l y z = true) : inV l x z = true := by
  unfold inV at *
  rw [Bool.and_eq_true] at *
  exact ⟨h1.1, inSp_trans h1.1 h1.2 h2.2⟩
theorem inV_anti {l : List SpaceD} {x y : ByteArray} (h1 : inV l x y = true) (h2 : inV l y x = true) : x = y := by
  unfold inV at *
  rw [Bool.and_eq_true] at *
  exact inSp_anti h1.1 h1.2 h2.2
/-- who goes -/
theorem going_any {l : List SpaceD} (hk : spsOk l = true) (name : ByteArray) : goSp l name = l.any fun s => s.2.2.2.1 && inSp l name s.1 := by
  have hl := (sps_len hk).2.2
  rw [Bool.eq_iff_iff]
  unfold goSp
  rw [List.any_eq_true, List.any_eq_true]
  constructor
  · rintro ⟨u, hu, hg⟩
    obtain ⟨i, hi, rfl⟩ := upS_mem hu
    have e : idxS l l[i].1 = some i := by have := line_idx hl hi; rwa [nmS_at hi] at this
    refine ⟨l[i], List.getElem_mem hi, ?_⟩
    unfold goneN at hg
    rw [e] at hg
    have hg : (l.getD i default).2.2.2.1 = true := hg
    rw [getD_sp hi] at hg
    rw [hg, Bool.true_and]
    unfold inSp
    exact List.any_eq_true.2 ⟨_, hu, by simp⟩
  · rintro ⟨s, hs, hg⟩
    rw [Bool.and_eq_true] at hg
    obtain ⟨i, hi, rfl⟩ := List.mem_iff_getElem.1 hs
    have e : idxS l l[i].1 = some i := by have := line_idx hl hi; rwa [nmS_at hi] at this
    have h2 := hg.2
    unfold inSp at h2
    obtain ⟨u, hu, hue⟩ := List.any_eq_true.1 h2
    have hue : u = l[i].1 := of_decide_eq_true hue
    refine ⟨u, hu, ?_⟩
    unfold goneN
    rw [hue, e]
    show (l.getD i default).2.2.2.1 = true
    rw [getD_sp hi]
    exact hg.1
end Go.Proofs.Ytlaehhdbagiciab

/- The walk of FnSpaceUp. -/
namespace Go.Proofs.Ytlaehhdbagiciab
open Go Go.RowKit

theorem upO_len9 (l : List SpaceD) (name : ByteArray) : (upO l name).length ≤ 8 := by
  unfold upO
  split
  · exact upS_len l name
  · simp
theorem upO_sz {l : List SpaceD} (hk : ∀ x ∈ l, OkSpace x) (name : ByteArray) : ∀ x ∈ upO l name, x.size ≤ maxLen := by
  unfold upO
  split
  · exact upS_size hk name
  · simp
theorem hasB_no {l : List ByteArray} (h : l.Nodup) {k : Nat} (hk : k < l.length) : hasB (l.take k) l[k] = false := by
  unfold hasB
  rw [List.any_eq_false]
  intro x hx
  obtain ⟨j, hj, rfl⟩ := List.mem_iff_getElem.1 hx
  rw [List.length_take] at hj
  rw [List.getElem_take, decide_eq_true_eq]
  intro e
  have := (List.getElem_inj h).1 e
  omega
theorem strS_take {w : World} {a : Option Addr} {l : List ByteArray} (h : StrS w a l) (k : Nat) : StrS w a (l.take k) := by
  refine ⟨Nat.le_trans (by rw [List.length_take]; omega) h.1, fun s hs => h.2.1 s (List.mem_of_mem_take hs), ?_⟩
  rcases h.2.2 with rfl | ⟨b, o, rfl, hc⟩
  · exact .inl (by simp)
  · refine .inr ⟨b, o, rfl, fun j hj => ?_⟩
    rw [List.length_take] at hj
    rw [List.getElem_take]
    exact hc j (by omega)

theorem wmHas_n (a : Option Addr) (ca : Nat) (l : List ByteArray) {n : Nat} (hn : l.length = n) (s : ByteArray) (w : World) (hl : StrS w a l) :
    Calls Try.prog 36 #[.slice a n ca, .string s] w fun e w' => e = .returned (.bool (hasB l s)) ∧ Below w.heap.size w w' := by
  subst hn
  exact wmHas_any a ca l s w hl
set_option maxRecDepth 100000 in
set_option maxHeartbeats 2000000 in
theorem fnSpaceUpWalk (a : Option Addr) (c : Nat) (l : List UInt8) {w : World} (hl : l.length ≤ c) (hc : c ≤ maxLen) (h : BytesS w a l) :
    Calls Try.prog 6 #[.slice a l.length c] w fun e w' => e = .returned (.bool true) ∧ Below w.heap.size w w' := by
  have hcl := hc
  unfold maxLen at hcl
  by_cases hb : (1048576 : Int) < (l.length : Int)
  · go_enter Try.func6, Try.ntmps6
    go_wp2
    go_ret
    exact ⟨rfl, Below.refl _ _⟩
  have hb' : (l.length : Int) ≤ 1048576 := by omega
  clear hb
  go_enter Try.func6, Try.ntmps6
  go_wp2_with fail
  refine (drawUp_any a c l _ hl hc h).mono ?_
  rintro e w1 ⟨v, L, name, rfl, ow, hE, hn, hs, b1⟩
  obtain ⟨b, cb, rfl, -, -⟩ := id ow
  have E1 := Lib.hid (show ElS 5 encSpace w1 b L by obtain ⟨a', c', e, hl, _⟩ := ow.vw; cases e; exact hl)
  have HE := Lib.hid hE
  clear ow hE
  obtain ⟨R, hR⟩ : ∃ R, upO L name = R := ⟨_, rfl⟩
  have HR := Lib.hid hR
  have hRn : R.length ≤ 8 := by rw [← hR]; exact upO_len9 L name
  have HRS := Lib.hid (show ∀ x ∈ R, x.size ≤ maxLen by rw [← hR]; exact upO_sz HE.out.ok name)
  clear hR
  go_wp2_with fail
  refine (implSpaceUp_any _ _ L name _ E1.out HE.out.ok).mono ?_
  rintro e w2 ⟨v2, rfl, o2, b2⟩
  rw [HR.out] at o2
  obtain ⟨a2, c2, rfl⟩ := own_shpU o2
  have B2 : Below w.heap.size w w2 := b1.trans (b2.mono b1.size)
  have E2 := Lib.hid (E1.out.below b2)
  have S2 := Lib.hid (own_str (by unfold maxLen; omega) HRS.out o2)
  have z2 := b2.size
  have hcap := own_cap5 o2
  clear o2 b2 b1 E1
  go_wp2_with fail
  refine (specSpaceUp_any _ _ L name _ E2.out HE.out.ok (by omega)).mono ?_
  rintro e w3 ⟨v3, rfl, o3, b3⟩
  rw [HR.out] at o3
  obtain ⟨a3, c3, rfl⟩ := own_shpU o3
  have B3 : Below w.heap.size w w3 := B2.trans (b3.mono B2.size)
  have E3 := Lib.hid (E2.out.below b3)
  have S3 := Lib.hid (S2.out.below b3)
  have T3 := Lib.hid (own_str (by unfold maxLen; omega) HRS.out o3)
  clear o3 b3 E2 S2
  go_wp2_with fail
  refine (wmWords_eq _ _ _ _ R _ S3.out T3.out).mono ?_
  rintro e w4 ⟨rfl, b4⟩
  have B4 : Below w.heap.size w w4 := B3.trans (b4.mono B3.size)
  have E4 := Lib.hid (E3.out.below b4)
  have S4 := Lib.hid (S3.out.below b4)
  clear b4 E3 S3 T3
  obtain ⟨q, hq⟩ : ∃ q, spsOk L = q := ⟨_, rfl⟩
  have HQ := Lib.hid hq
  clear hq
  go_wp2_with fail
  refine (implSpaces_any _ _ L _ E4.out HE.out.ok).mono ?_
  rintro e w5 ⟨rfl, b5⟩
  rw [HQ.out]
  have B5 : Below w.heap.size w w5 := B4.trans (b5.mono B4.size)
  have E5 := Lib.hid (E4.out.below b5)
  have S5 := Lib.hid (S4.out.below b5)
  clear b5 E4 S4
  have hqq : (q != q) = false := by simp
  go_wp2_with fail
  refine (specSpaces_is E5.out HE.out.ok (by omega) HQ.out cb).mono ?_
  rintro e w6 ⟨rfl, b6⟩
  have B6 : Below w.heap.size w w6 := B5.trans (b6.mono B5.size)
  have E6 := Lib.hid (E5.out.below b6)
  have S6 := Lib.hid (S5.out.below b6)
  clear b6 E5 S5
  by_cases h0 : R = []
  · have h0b : ((R.length : Int) == 0) = true := by rw [h0]; rfl
    have HNO := Lib.hid (show ∀ (i : Nat) (hi : i < L.length), q = true → L[i].1 ≠ name from fun i hi hq => by
      have hk : spsOk L = true := HQ.out.trans hq
      exact idxS_no (upO_nil hk (HR.out.trans h0)) i hi)
    clear h0
    go_wp2_with fail
    go_loopw [6] (fun i wr => ∃ k : Nat, k ≤ L.length ∧ i = .int .i64 k ∧ Below w6.heap.size w6 wr) (fun i _ => L.length - (intOf i).toNat)
    case atStart => exact ⟨0, Nat.zero_le _, rfl, Below.refl _ _⟩
    case round =>
      obtain ⟨k, hk, rfl, hbel⟩ := hrel
      by_cases hlt : k < L.length
      · have E7 := Lib.hid (E6.out.below hbel)
        have hd : decide (k < L.length) = true := decide_eq_true hlt
        have B7 := B6.trans (hbel.mono B6.size)
        go_wp2_with fail
        refine (specSpaces_is E7.out HE.out.ok (by omega) HQ.out cb).mono ?_
        rintro e w8 ⟨rfl, b8⟩
        cases q with
        | false =>
          go_wp2_with fail
          go_ret
          exact ⟨rfl, B7.trans (b8.mono B7.size)⟩
        | true =>
          obtain ⟨bb, ob, rfl, hcb⟩ := (E7.out.below b8).2.resolve_left (fun e => by rw [e] at hlt; simp at hlt)
          have c0 := (cellsSpace (Below.refl _ _) hcb k hlt).1
          have q1 : (L[k].1.toList == name.toList) = false := toList_no (HNO.out k hlt rfl)
          clear hcb
          go_wp2_with fail
          go_roundw
          case rel => exact ⟨k + 1, by omega, by go_num, hbel.trans (b8.mono hbel.size)⟩
          case measure => simp [intOf]; omega
      · have hd : decide (k < L.length) = false := decide_eq_false hlt
        go_wp2_with fail
        go_ret
        exact ⟨rfl, B6.trans (hbel.mono B6.size)⟩
  · have hne : upO L name ≠ [] := by rw [HR.out]; exact h0
    have hRp : 0 < R.length := List.length_pos_iff.2 h0
    have h0b : ((R.length : Int) == 0) = false := by rw [beq_eq_false_iff_ne]; omega
    have HHD := Lib.hid (show R[0] = name by have := upO_head hne (by rw [HR.out]; exact hRp); simpa only [HR.out] using this)
    have HLA := Lib.hid (show R[R.length - 1] = allB by have := upO_last hne (by rw [HR.out]; exact hRp); simpa only [HR.out] using this)
    have HNP := Lib.hid (show R.Nodup by rw [← HR.out]; exact upO_nodup L name)
    have HIN := Lib.hid (show ∀ x ∈ R, (spsOk L && inSp L name x) = true from fun x hx => upO_in (by rw [HR.out]; exact hx))
    clear h0 hne
    go_wp2_with fail
    go_loopw [7] (fun i wr => ∃ k : Nat, k ≤ R.length ∧ i = .int .i64 k ∧ Below w6.heap.size w6 wr) (fun i _ => R.length - (intOf i).toNat)
    case atStart => exact ⟨0, Nat.zero_le _, rfl, Below.refl _ _⟩
    case round =>
      obtain ⟨k, hk, rfl, hbel⟩ := hrel
      have S7 := Lib.hid (S6.out.below hbel)
      have E7 := Lib.hid (E6.out.below hbel)
      have B7 := Lib.hid (B6.trans (hbel.mono B6.size))
      have HB := Lib.hid hbel
      clear hbel
      by_cases hlt : k < R.length
      · obtain ⟨bb, ob, rfl, hcb⟩ := S7.out.2.2.resolve_left (fun e => by rw [e] at hlt; simp at hlt)
        have c0 := hcb k hlt
        have hk0 : (0 : Int) ≤ (k : Int) := by omega
        have hk1 : (k : Int) < (R.length : Int) := by omega
        have hk2 : (k : Int) ≤ (R.length : Int) := by omega
        have hk3 : k ≤ c2 := by omega
        have hk4 : (k : Int) ≤ (c2 : Int) := by omega
        have HHS := Lib.hid (hasB_no HNP.out hlt)
        have HIK := Lib.hid (HIN.out _ (List.getElem_mem hlt))
        clear hcb
        have hkt : (R.take k).length = k := by rw [List.length_take]; omega
        have c0k : ∀ W, Below wr.heap.size wr W → W.cell? ⟨bb, ob + k, none⟩ = some (.string R[k]) := fun W hb => (hb.cell (p := ⟨bb, ob + k, none⟩) (by have := World.block_lt_of_cell? wr _ c0; simpa using this)).trans c0
        clear c0
        go_wp2_with fail
        refine wp_region_held_drew (S := fun W => W.cell? ⟨bb, ob + k, none⟩ = some (.string R[k])) (by kernel_rfl) (c0k _ ((Below.refl _ _).drew)) (fun hHeld => ?_)
        refine wpAnyH_take (i := 0) (oi := { dst := some 58, op := Op.move (Operand.tmp 5), type := 47, pos := "laws.go:927", after := _, guard := none }) (v := ?_) rfl (by kernel_rfl) (by kernel_rfl) (by kernel_rfl) (fun _ _ _ h => h) (Or.inl ⟨by rfl, ?_⟩) (by assumption) ?_
        rotate_left
        · (intro w hSw; (try dsimp only at hSw); go_simp; (try with_reducible rfl))
        simp only [Act.put, List.setIfInBounds_toArray, List.set_cons_zero, List.set_cons_succ]
        refine wpAnyH_take (i := 1) (oi := { dst := some 59, op := Op.move (Operand.tmp 7), type := 3, pos := "laws.go:927", after := _, guard := none }) (v := ?_) rfl (by kernel_rfl) (by kernel_rfl) (by kernel_rfl) (fun _ _ _ h => h) (Or.inl ⟨by rfl, ?_⟩) (by assumption) ?_
        rotate_left
        · (intro w hSw; (try dsimp only at hSw); go_simp; (try with_reducible rfl))
        simp only [Act.put, List.setIfInBounds_toArray, List.set_cons_zero, List.set_cons_succ]
        refine wpAnyH_take (i := 2) (oi := { dst := some 60, op := Op.slice 47 (Operand.tmp 58) none (some (Operand.tmp 59)) none, type := 47, pos := "laws.go:927", after := _, guard := none }) (v := ?_) rfl (by kernel_rfl) (by kernel_rfl) (by kernel_rfl) (fun _ _ _ h => h) (Or.inl ⟨by rfl, ?_⟩) (by assumption) ?_
        rotate_left
        · (intro w hSw; (try dsimp only at hSw); go_simp; (try with_reducible rfl))
        simp only [Act.put, List.setIfInBounds_toArray, List.set_cons_zero, List.set_cons_succ]
        refine wpAnyH_take (i := 3) (oi := { dst := some 61, op := Op.move (Operand.tmp 5), type := 47, pos := "laws.go:927", after := _, guard := none }) (v := ?_) rfl (by kernel_rfl) (by kernel_rfl) (by kernel_rfl) (fun _ _ _ h => h) (Or.inl ⟨by rfl, ?_⟩) (by assumption) ?_
        rotate_left
        · (intro w hSw; (try dsimp only at hSw); go_simp; (try with_reducible rfl))
        simp only [Act.put, List.setIfInBounds_toArray, List.set_cons_zero, List.set_cons_succ]
        refine wpAnyH_take (i := 4) (oi := { dst := some 62, op := Op.move (Operand.tmp 7), type := 3, pos := "laws.go:927", after := _, guard := none }) (v := ?_) rfl (by kernel_rfl) (by kernel_rfl) (by kernel_rfl) (fun _ _ _ h => h) (Or.inl ⟨by rfl, ?_⟩) (by assumption) ?_
        rotate_left
        · (intro w hSw; (try dsimp only at hSw); go_simp; (try with_reducible rfl))
        simp only [Act.put, List.setIfInBounds_toArray, List.set_cons_zero, List.set_cons_succ]
        refine wpAnyH_take (i := 5) (oi := { dst := some 63, op := Op.indexAddr 47 (Operand.tmp 61) (Operand.tmp 62), type := 0, pos := "laws.go:927", after := _, guard := none }) (v := ?_) rfl (by kernel_rfl) (by kernel_rfl) (by kernel_rfl) (fun _ _ _ h => h) (Or.inl ⟨by rfl, ?_⟩) (by assumption) ?_
        rotate_left
        · (intro w hSw; (try dsimp only at hSw); go_simp; (try with_reducible rfl))
        simp only [Act.put, List.setIfInBounds_toArray, List.set_cons_zero, List.set_cons_succ]
        refine wpAnyH_take (i := 6) (oi := { dst := some 64, op := Op.load 9 (Operand.tmp 63), type := 9, pos := "laws.go:927", after := _, guard := none }) (v := ?_) rfl (by kernel_rfl) (by kernel_rfl) (by kernel_rfl) (fun _ _ _ h => h) (Or.inl ⟨by rfl, ?_⟩) (by assumption) ?_
        rotate_left
        · (intro w hSw; (try dsimp only at hSw); go_simp; (try with_reducible rfl))
        simp only [Act.put, List.setIfInBounds_toArray, List.set_cons_zero, List.set_cons_succ]
        refine wpAnyH_ready (rs := [7]) (by kernel_rfl) (by simp) ?_
        refine AllReadyH.cons (o := { dst := some 65, op := Op.call { callee := Callee.value (Operand.func 36), args := #[Operand.tmp 60, Operand.tmp 64], argTypes := #[47, 9] }, type := 4, pos := "laws.go:927", after := _, guard := none }) rfl (fun K hK => ?_) AllReadyH.nil
        go_simp
        refine (wmHas_n _ _ (R.take k) hkt R[k] _ (strS_take (S7.out.below (Below.refl _ _).drew) k)).mono ?_
        rintro e w8 ⟨rfl, b8⟩
        rw [HHS.out]
        have B8 := (Below.refl _ wr).drew.trans (b8.mono (Nat.le_refl _))
        refine hK.out _ _ ?_ (fun hHeld => ?_)
        · exact c0k _ B8
        clear hK K
        (try simp only [Act.put, List.setIfInBounds_toArray, List.set_cons_zero, List.set_cons_succ])
        refine wpAnyH_take (i := 8) (oi := { dst := some 66, op := Op.move (Operand.tmp 65), type := 4, pos := "laws.go:927", after := _, guard := none }) (v := ?_) rfl (by kernel_rfl) (by kernel_rfl) (by kernel_rfl) (fun _ _ _ h => h) (Or.inl ⟨by rfl, ?_⟩) (by assumption) ?_
        rotate_left
        · (intro w hSw; (try dsimp only at hSw); go_simp; (try with_reducible rfl))
        simp only [Act.put, List.setIfInBounds_toArray, List.set_cons_zero, List.set_cons_succ]
        refine wpAnyH_take (i := 9) (oi := { dst := some 67, op := Op.move (Operand.tmp 3), type := 27, pos := "laws.go:927", after := _, guard := some (8, false) }) (v := ?_) rfl (by kernel_rfl) (by kernel_rfl) (by kernel_rfl) (fun _ _ _ h => h) (Or.inl ⟨by rfl, ?_⟩) (by assumption) ?_
        rotate_left
        · (intro w hSw; (try dsimp only at hSw); go_simp; (try with_reducible rfl))
        simp only [Act.put, List.setIfInBounds_toArray, List.set_cons_zero, List.set_cons_succ]
        refine wpAnyH_take (i := 10) (oi := { dst := some 68, op := Op.move (Operand.tmp 4), type := 9, pos := "laws.go:927", after := _, guard := some (8, false) }) (v := ?_) rfl (by kernel_rfl) (by kernel_rfl) (by kernel_rfl) (fun _ _ _ h => h) (Or.inl ⟨by rfl, ?_⟩) (by assumption) ?_
        rotate_left
        · (intro w hSw; (try dsimp only at hSw); go_simp; (try with_reducible rfl))
        simp only [Act.put, List.setIfInBounds_toArray, List.set_cons_zero, List.set_cons_succ]
        refine wpAnyH_take (i := 11) (oi := { dst := some 69, op := Op.move (Operand.tmp 5), type := 47, pos := "laws.go:927", after := _, guard := some (8, false) }) (v := ?_) rfl (by kernel_rfl) (by kernel_rfl) (by kernel_rfl) (fun _ _ _ h => h) (Or.inl ⟨by rfl, ?_⟩) (by assumption) ?_
        rotate_left
        · (intro w hSw; (try dsimp only at hSw); go_simp; (try with_reducible rfl))
        simp only [Act.put, List.setIfInBounds_toArray, List.set_cons_zero, List.set_cons_succ]
        refine wpAnyH_take (i := 12) (oi := { dst := some 70, op := Op.move (Operand.tmp 7), type := 3, pos := "laws.go:927", after := _, guard := some (8, false) }) (v := ?_) rfl (by kernel_rfl) (by kernel_rfl) (by kernel_rfl) (fun _ _ _ h => h) (Or.inl ⟨by rfl, ?_⟩) (by assumption) ?_
        rotate_left
        · (intro w hSw; (try dsimp only at hSw); go_simp; (try with_reducible rfl))
        simp only [Act.put, List.setIfInBounds_toArray, List.set_cons_zero, List.set_cons_succ]
        refine wpAnyH_take (i := 13) (oi := { dst := some 71, op := Op.indexAddr 47 (Operand.tmp 69) (Operand.tmp 70), type := 0, pos := "laws.go:927", after := _, guard := some (8, false) }) (v := ?_) rfl (by kernel_rfl) (by kernel_rfl) (by kernel_rfl) (fun _ _ _ h => h) (Or.inl ⟨by rfl, ?_⟩) (by assumption) ?_
        rotate_left
        · (intro w hSw; (try dsimp only at hSw); go_simp; (try with_reducible rfl))
        simp only [Act.put, List.setIfInBounds_toArray, List.set_cons_zero, List.set_cons_succ]
        refine wpAnyH_take (i := 14) (oi := { dst := some 72, op := Op.load 9 (Operand.tmp 71), type := 9, pos := "laws.go:927", after := _, guard := some (8, false) }) (v := ?_) rfl (by kernel_rfl) (by kernel_rfl) (by kernel_rfl) (fun _ _ _ h => h) (Or.inl ⟨by rfl, ?_⟩) (by assumption) ?_
        rotate_left
        · (intro w hSw; (try dsimp only at hSw); go_simp; (try with_reducible rfl))
        simp only [Act.put, List.setIfInBounds_toArray, List.set_cons_zero, List.set_cons_succ]
        refine wpAnyH_ready (rs := [15]) (by kernel_rfl) (by simp) ?_
        refine AllReadyH.cons (o := { dst := some 73, op := Op.call { callee := Callee.value (Operand.func 37), args := #[Operand.tmp 67, Operand.tmp 68, Operand.tmp 72], argTypes := #[27, 9, 9] }, type := 4, pos := "laws.go:927", after := _, guard := some (8, false) }) rfl (fun K hK => ?_) AllReadyH.nil
        go_simp
        refine (implSpaceIn_any _ _ L name R[k] _ ((E7.out.below B8)) HE.out.ok).mono ?_
        rintro e w9 ⟨rfl, b9⟩
        rw [HIK.out]
        have B9 := B8.trans (b9.mono B8.size)
        refine hK.out _ _ ?_ (fun hHeld => ?_)
        · exact c0k _ B9
        clear hK K
        (try simp only [Act.put, List.setIfInBounds_toArray, List.set_cons_zero, List.set_cons_succ])
        refine wpAnyH_take (i := 16) (oi := { dst := some 74, op := Op.unOp UnOp.not 4 (Operand.tmp 73), type := 4, pos := "laws.go:927", after := _, guard := some (8, false) }) (v := ?_) rfl (by kernel_rfl) (by kernel_rfl) (by kernel_rfl) (fun _ _ _ h => h) (Or.inl ⟨by rfl, ?_⟩) (by assumption) ?_
        rotate_left
        · (intro w hSw; (try dsimp only at hSw); go_simp; (try with_reducible rfl))
        simp only [Act.put, List.setIfInBounds_toArray, List.set_cons_zero, List.set_cons_succ]
        refine wpAnyH_take (i := 17) (oi := { dst := some 75, op := Op.pick (Operand.tmp 66) (Operand.const (Value.bool true)) (Operand.tmp 74), type := 4, pos := "laws.go:927", after := _, guard := none }) (v := ?_) rfl (by kernel_rfl) (by kernel_rfl) (by kernel_rfl) (fun _ _ _ h => h) (Or.inl ⟨by rfl, ?_⟩) (by assumption) ?_
        rotate_left
        · (intro w hSw; (try dsimp only at hSw); go_simp; (try with_reducible rfl))
        simp only [Act.put, List.setIfInBounds_toArray, List.set_cons_zero, List.set_cons_succ]
        refine wpAnyH_done (by kernel_rfl) ?_ _
        go_wp2_with fail
        go_roundw
        case rel => exact ⟨k + 1, by omega, by go_num, HB.out.trans (B9.mono HB.out.size)⟩
        case measure => simp [intOf]; omega
      · obtain ⟨bb, ob, rfl, hcb⟩ := S7.out.2.2.resolve_left (fun e => by rw [e] at hRp; simp at hRp)
        have c0 := hcb 0 hRp
        have c1 := hcb (R.length - 1) (by omega)
        rw [HHD.out] at c0
        rw [HLA.out] at c1
        simp only [Nat.add_zero] at c0
        have q1 : (name.toList == name.toList) = true := by simp
        have hr0 : (0 : Int) ≤ (R.length : Int) - 1 := by omega
        have hr1 : (R.length : Int) - 1 < (R.length : Int) := by omega
        have hr2 : ((R.length : Int) - 1).toNat = R.length - 1 := by omega
        have hr3 : 0 < R.length := hRp
        have hr4 : (0 : Int) < (R.length : Int) := by omega
        clear hcb
        go_wp2_with fail
        go_ret
        exact ⟨ret_bool (show (allB.toList == [97, 108, 108]) = true by simp [allB]), B7.out⟩
end Go.Proofs.Ytlaehhdbagiciab

/- The walk of FnSpaceIn. -/
namespace Go.Proofs.Ytlaehhdbagiciab
open Go Go.RowKit

theorem inV_c {b : Option Addr} {cb : Nat} {L : List SpaceD} (x y : ByteArray) {w : World} (h : ElS 5 encSpace w b L) (hE : AnySp L) {q : Bool} (hq : inV L x y = q) :
    Calls Try.prog 37 #[.slice b L.length cb, .string x, .string y] w fun e w' => e = .returned (.bool q) ∧ Below w.heap.size w w' :=
  (implSpaceIn_any b cb L x y w h hE.ok).mono fun _ _ ⟨e, k⟩ => ⟨by rw [e, ← hq]; rfl, k⟩

set_option maxRecDepth 100000 in
set_option maxHeartbeats 2000000 in
theorem fnSpaceInWalk (a : Option Addr) (c : Nat) (l : List UInt8) {w : World} (hl : l.length ≤ c) (hc : c ≤ maxLen) (h : BytesS w a l) (a' : Option Addr) (c' : Nat) (l' : List UInt8) (hl' : l'.length ≤ c') (hc' : c' ≤ maxLen) (h' : BytesS w a' l') :
    Calls Try.prog 7 #[.slice a l.length c, .slice a' l'.length c'] w fun e w' => e = .returned (.bool true) ∧ Below w.heap.size w w' := by
  have hcl := hc
  have hcl' := hc'
  unfold maxLen at hcl hcl'
  by_cases hb : (1048576 : Int) < (l.length : Int)
  · go_enter Try.func7, Try.ntmps7
    go_wp2
    go_ret
    exact ⟨rfl, Below.refl _ _⟩
  have hb1 : (l.length : Int) ≤ 1048576 := by omega
  clear hb
  by_cases hb : (1048576 : Int) < (l'.length : Int)
  · go_enter Try.func7, Try.ntmps7
    go_wp2
    go_ret
    exact ⟨rfl, Below.refl _ _⟩
  have hb2 : (l'.length : Int) ≤ 1048576 := by omega
  clear hb
  have HY := Lib.hid h'
  clear h'
  go_enter Try.func7, Try.ntmps7
  go_wp2_with fail
  refine (drawIn_any a c l _ hl hc h).mono ?_
  rintro e w1 ⟨v, L, x, y, rfl, ow, hE, hn, hs, ht, b1⟩
  obtain ⟨b, cb, rfl, -, -⟩ := id ow
  have E1 := Lib.hid (show ElS 5 encSpace w1 b L by obtain ⟨a', c', e, hl, _⟩ := ow.vw; cases e; exact hl)
  have HE := Lib.hid hE
  clear ow hE
  go_wp2_with fail
  refine (drawIn_any a' c' l' _ hl' hc' (bytes_below b1 HY.out)).mono ?_
  rintro e w2 ⟨v', L', z, z', rfl, -, -, -, -, -, b2⟩
  have B2 := Lib.hid (b1.trans (b2.mono b1.size))
  have E2 := Lib.hid (E1.out.below b2)
  clear b1 b2 E1 HY
  obtain ⟨q, hq⟩ : ∃ q, inV L x y = q := ⟨_, rfl⟩
  have HQ := Lib.hid hq
  clear hq
  have hqq : (q != q) = false := by simp
  go_wp2_with fail
  refine (inV_c x y E2.out HE.out HQ.out).mono ?_
  rintro e w3 ⟨rfl, b3⟩
  have B3 := Lib.hid (B2.out.trans (b3.mono B2.out.size))
  have E3 := Lib.hid (E2.out.below b3)
  clear b3 E2 B2
  go_wp2_with fail
  refine (specSpaceIn_any _ _ L x y _ E3.out HE.out.ok (by omega)).mono ?_
  rintro e w4 ⟨rfl, b4⟩
  rw [show (spsOk L && inSp L x y) = q from HQ.out]
  have B4 := Lib.hid (B3.out.trans (b4.mono B3.out.size))
  have E4 := Lib.hid (E3.out.below b4)
  clear b4 E3 B3
  obtain ⟨R, hR⟩ : ∃ R, upO L x = R := ⟨_, rfl⟩
  have HR := Lib.hid hR
  have hRn : R.length ≤ 8 := by rw [← hR]; exact upO_len9 L x
  have HRS := Lib.hid (show ∀ x ∈ R, x.size ≤ maxLen by rw [← hR]; exact upO_sz HE.out.ok x)
  clear hR
  go_wp2_with fail
  refine (implSpaceUp_any _ _ L x _ E4.out HE.out.ok).mono ?_
  rintro e w5 ⟨v5, rfl, o5, b5⟩
  rw [HR.out] at o5
  obtain ⟨a5, c5, rfl⟩ := own_shpU o5
  have B5 := Lib.hid (B4.out.trans (b5.mono B4.out.size))
  have E5 := Lib.hid (E4.out.below b5)
  have S5 := Lib.hid (own_str (by unfold maxLen; omega) HRS.out o5)
  clear o5 b5 E4 B4
  go_wp2_with fail
  refine (specSpaceUp_any _ _ L x _ E5.out HE.out.ok (by omega)).mono ?_
  rintro e w6 ⟨v6, rfl, o6, b6⟩
  rw [HR.out] at o6
  obtain ⟨a6, c6, rfl⟩ := own_shpU o6
  have B6 := Lib.hid (B5.out.trans (b6.mono B5.out.size))
  have E6 := Lib.hid (E5.out.below b6)
  have S6 := Lib.hid (S5.out.below b6)
  have T6 := Lib.hid (own_str (by unfold maxLen; omega) HRS.out o6)
  clear o6 b6 E5 S5 B5
  go_wp2_with fail
  refine (wmWords_eq _ _ _ _ R _ S6.out T6.out).mono ?_
  rintro e w7 ⟨rfl, b7⟩
  have B7 := Lib.hid (B6.out.trans (b7.mono B6.out.size))
  have E7 := Lib.hid (E6.out.below b7)
  clear b7 E6 S6 T6 B6
  cases q with
  | false =>
    go_wp2_with fail
    go_ret
    exact ⟨rfl, B7.out⟩
  | true =>
    cases hq2 : inV L y z with
    | false =>
      have HQ2 := Lib.hid hq2
      clear hq2
      cases hq3 : inV L y x with
      | false =>
        have HQ3 := Lib.hid hq3
        clear hq3
        go_wp2_with fail
        refine (inV_c y z E7.out HE.out HQ2.out).mono ?_
        rintro e w8 ⟨rfl, b8⟩
        go_wp2_with fail
        refine (inV_c y x (E7.out.below b8) HE.out HQ3.out).mono ?_
        rintro e w9 ⟨rfl, b9⟩
        go_wp2_with fail
        go_ret
        exact ⟨rfl, (B7.out.trans (b8.mono B7.out.size)).trans (b9.mono (Nat.le_trans B7.out.size b8.size))⟩
      | true =>
        have HQ3 := Lib.hid hq3
        have hxy : (x.toList == y.toList) = true := by rw [inV_anti HQ.out hq3]; simp
        clear hq3
        go_wp2_with fail
        refine (inV_c y z E7.out HE.out HQ2.out).mono ?_
        rintro e w8 ⟨rfl, b8⟩
        go_wp2_with fail
        refine (inV_c y x (E7.out.below b8) HE.out HQ3.out).mono ?_
        rintro e w9 ⟨rfl, b9⟩
        go_wp2_with fail
        go_ret
        exact ⟨rfl, (B7.out.trans (b8.mono B7.out.size)).trans (b9.mono (Nat.le_trans B7.out.size b8.size))⟩
    | true =>
      have HQ2 := Lib.hid hq2
      have HQ4 := Lib.hid (inV_trans HQ.out hq2)
      clear hq2
      cases hq3 : inV L y x with
      | false =>
        have HQ3 := Lib.hid hq3
        clear hq3
        go_wp2_with fail
        refine (inV_c y z E7.out HE.out HQ2.out).mono ?_
        rintro e w8 ⟨rfl, b8⟩
        go_wp2_with fail
        refine (inV_c x z (E7.out.below b8) HE.out HQ4.out).mono ?_
        rintro e w9 ⟨rfl, b9⟩
        have B9 := (B7.out.trans (b8.mono B7.out.size)).trans (b9.mono (Nat.le_trans B7.out.size b8.size))
        go_wp2_with fail
        refine (inV_c y x ((E7.out.below b8).below b9) HE.out HQ3.out).mono ?_
        rintro e w10 ⟨rfl, b10⟩
        go_wp2_with fail
        go_ret
        exact ⟨rfl, B9.trans (b10.mono B9.size)⟩
      | true =>
        have HQ3 := Lib.hid hq3
        have hxy : (x.toList == y.toList) = true := by rw [inV_anti HQ.out hq3]; simp
        clear hq3
        go_wp2_with fail
        refine (inV_c y z E7.out HE.out HQ2.out).mono ?_
        rintro e w8 ⟨rfl, b8⟩
        go_wp2_with fail
        refine (inV_c x z (E7.out.below b8) HE.out HQ4.out).mono ?_
        rintro e w9 ⟨rfl, b9⟩
        have B9 := (B7.out.trans (b8.mono B7.out.size)).trans (b9.mono (Nat.le_trans B7.out.size b8.size))
        go_wp2_with fail
        refine (inV_c y x ((E7.out.below b8).below b9) HE.out HQ3.out).mono ?_
        rintro e w10 ⟨rfl, b10⟩
        go_wp2_with fail
        go_ret
        exact ⟨rfl, B9.trans (b10.mono B9.size)⟩
end Go.Proofs.Ytlaehhdbagiciab

/- Drawn spaces, some of them to go, with a name. -/
namespace Go.Proofs.Ytlaehhdbagiciab
open Go Go.RowKit

theorem in13_n (w : World) (r : Nat) (a : Option Addr) (c : Nat) (l : List UInt8) (p : Nat) (hp : p ≤ 10000000) (h : Rd w r a c l p) (b : Option Addr) (cb : Nat) (L : List SpaceD) {n : Nat} (hnn : L.length = n) (hE : AnySp L) (hn : L.length ≤ 7) (hL : ElS 5 encSpace w b L) (hb : ∀ k, b.map Addr.block = some k → k ≠ r) :
    Calls Try.prog 75 #[.pointer (some ⟨r, 0, none⟩), .slice b n cb] w (InPost w r a c l p) := by
  subst hnn
  exact in13_any w r a c l p hp h b cb L hE hn hL hb
theorem own_elN {w : World} {base n : Nat} {a : Option Addr} {cb : Nat} {L : List SpaceD} (hn : L.length = n) (h : w.ownsRow base 52 5 (.slice a n cb) n (L.flatMap encSpace)) (hm : n ≤ maxLen) : ElS 5 encSpace w a L := by
  subst hn
  exact own_el encSpace_len hm h
set_option maxRecDepth 100000 in
set_option maxHeartbeats 1600000 in
theorem drawGoing_any (a : Option Addr) (c : Nat) (l : List UInt8) (w : World) (hl : l.length ≤ c) (hc : c ≤ maxLen) (h : BytesS w a l) :
    Calls Try.prog 40 #[.slice a l.length c] w (UpDraw w) := by
  go_enter Try.func40, Try.ntmps40
  go_wp2_with fail
  refine (open_any a c l _ hl hc h).mono ?_
  rintro e w1 ⟨c1, l1, rfl, h1, b1⟩
  have z1 : w.heap.size < w1.heap.size := h1.lt
  have HAR := Lib.hid (rd_har h1)
  have H1 := Lib.hid h1
  clear h1
  go_wp2_with fail
  refine (anySp_any _ w.heap.size a c1 l1 0 (by omega) H1.out).mono ?_
  rintro e w2 ⟨v2, L, p2, rfl, o2, hE, hn, h2, hp2, k2⟩
  obtain ⟨b, cb, rfl⟩ := own_shape o2
  have z2 := k2.size
  have O2 := Lib.hid o2
  have HE := Lib.hid hE
  have H2 := Lib.hid h2
  have K2 := Lib.hid k2
  clear o2 hE h2 k2 H1
  go_wp2_with fail
  go_loopw [6] (fun i wr => ∃ (k : Nat) (M : List SpaceD) (p : Nat), k ≤ L.length ∧ i = .int .i64 k ∧ M.length = L.length ∧ wr.ownsRow w1.heap.size 52 5 (.slice b L.length cb) L.length (M.flatMap encSpace) ∧ AnySp M ∧ Rd wr w.heap.size a c1 l1 p ∧ p ≤ 200 + k ∧ KeptOut (fun b => b = w.heap.size) w1 wr) (fun i _ => L.length - (intOf i).toNat)
  case atStart => exact ⟨0, L, p2, Nat.zero_le _, rfl, rfl, O2.out, HE.out, H2.out, by omega, K2.out⟩
  case round =>
    obtain ⟨k, M, p, hk, rfl, hM, o3, hE3, h3, hp3, k3⟩ := hrel
    have z3 := k3.size
    have O3 := Lib.hid o3
    have HE3 := Lib.hid hE3
    have H3 := Lib.hid h3
    have K3 := Lib.hid k3
    clear o3 hE3 h3 k3
    by_cases hlt : k < L.length
    · have hkM : k < M.length := by omega
      have hkI : (k : Int) < (L.length : Int) := by omega
      obtain ⟨g, rfl, hgc, hg0, hg1⟩ := own_partsS O3.out (by omega)
      have hx := HE3.out M[k] (List.getElem_mem _)
      have hE4 := Lib.hid (own_elN hM O3.out (by unfold maxLen; omega))
      obtain ⟨-, hcc⟩ := hE4.out
      obtain ⟨b2, oo, hbo, hcb⟩ := hcc.resolve_left (fun e => by rw [e] at hkM; simp at hkM)
      cases hbo
      obtain ⟨ck0, ck1, ck2, ck3, ck4⟩ := cellsSpace (Below.refl _ wr) hcb k hkM
      simp only [Nat.zero_add] at ck0 ck1 ck2 ck3 ck4
      clear hcb hcc hE4
      have hd : decide (k < L.length) = true := decide_eq_true hlt
      by_cases hov : M[k].2.1 = ⟨#[]⟩
      · have hov' : M[k].2.1.toList = [] := by rw [hov]; simp
        have hov2 : M[k].2.1.toList.isEmpty = true := by rw [hov]; simp
        go_wp2_with fail
        go_roundw
        case rel => exact ⟨k + 1, M, p, by omega, by go_num, hM, O3.out, HE3.out, H3.out, by omega, K3.out⟩
        case measure => simp [intOf]; omega
      · have hov' : ¬ M[k].2.1.toList = [] := List.isEmpty_eq_false_iff.1 (isEmpty_no hov)
        have hov2 : M[k].2.1.toList.isEmpty = false := isEmpty_no hov
        go_wp2_with fail
        refine (pick_any 3 _ w.heap.size a c1 l1 p (by omega) (by omega) (by omega) H3.out).mono ?_
        rintro e w4 ⟨q, rfl, q0, q1, h4, k4⟩
        have z4 := k4.size
        have H4 := Lib.hid h4
        have K4 := Lib.hid (K3.out.trans k4)
        have O4 := Lib.hid (own_kept O3.out k4 (fun q hq e => by have := (O3.out.lt q hq).1; omega))
        clear h4 k4 q1 H3 K3 O3 ck0 ck1 ck2 ck3 ck4
        by_cases hq : q = 0
        · subst hq
          obtain ⟨⟨vo, co⟩, fo⟩ := own_cells O4.out (Below.refl _ _) (k * 5 + 3) (by omega)
          go_wp2_with fail
          have KS := (KeptOut.refl (fun b => b = g) w4).setCell (p := ⟨g, k * 5 + 3, none⟩) rfl (.bool true)
          go_roundw
          case rel =>
            exact ⟨k + 1, M.set k (M[k].1, M[k].2.1, M[k].2.2.1, true, M[k].2.2.2.2), p + 1, by omega, by go_num, by simp [hM], by rw [← flat_setS M k 3 hkM (by omega) (.bool true) _ rfl]; exact (O4.out.stored _ _).1, HE3.out.set hx.1 hx.2, H4.out.kept2 KS (by omega) (fun hn x hx => by have := HAR.out hn x hx; omega), by omega, K4.out.step KS (fun b hb => .inl (by omega))⟩
          case measure => simp [intOf]; omega
        · have hq' : (q == 0) = false := by simp [hq]
          clear hq
          go_wp2_with fail
          go_roundw
          case rel => exact ⟨k + 1, M, p + 1, by omega, by go_num, hM, O4.out, HE3.out, H4.out, by omega, K4.out⟩
          case measure => simp [intOf]; omega
    · have hd : decide (k < L.length) = false := decide_eq_false hlt
      go_wp2_with fail
      refine (in13_n _ w.heap.size a c1 l1 p (by omega) H3.out b cb M hM HE3.out (by omega) (own_elN hM O3.out (by unfold maxLen; omega)) (fun k hk e => by have := (O3.out.lt k (blk_map hk)).1; omega)).mono ?_
      rintro e w4 ⟨s, p4, rfl, hs, h4, hp4, k4⟩
      have O4 := Lib.hid (own_kept O3.out k4 (fun k hk e => by have := (O3.out.lt k hk).1; omega))
      have K4 := Lib.hid (K3.out.trans k4)
      clear h4 k4
      go_wp2
      go_returns
      exact ⟨_, M, s, rfl, drawn_own (base := w1.heap.size) (by rw [hM]; exact O4.out) (by omega) (by omega) HE3.out, HE3.out, by omega, hs, K4.out.below b1 b1.size (fun k hk => by omega)⟩
end Go.Proofs.Ytlaehhdbagiciab

/- Drawn uses of drawn spaces. -/
namespace Go.Proofs.Ytlaehhdbagiciab
open Go Go.RowKit

theorem one_use {l : List UseD} {u : Value} (hu : u ∈ l.flatMap encUse) : u.oneCell' = true := by
  obtain ⟨x, _, hx⟩ := List.mem_flatMap.1 hu
  simp only [encUse, List.mem_cons, List.not_mem_nil, or_false] at hx
  rcases hx with rfl | rfl <;> rfl
def AnyUs (U : List UseD) : Prop := ∀ x ∈ U, x.1.size ≤ 3000
theorem AnyUs.ok {U : List UseD} (h : AnyUs U) : ∀ x ∈ U, OkUse x := fun x hx => by have := h x hx; unfold OkUse maxLen; omega
def DrawUsP (w : World) (r : Nat) (a : Option Addr) (c : Nat) (l : List UInt8) (p n : Nat) (e : Ending) (w' : World) : Prop :=
  ∃ (v : Value) (U : List UseD) (p' : Nat), e = .returned v ∧ w'.ownsRow w.heap.size 69 2 v U.length (U.flatMap encUse) ∧ AnyUs U ∧ U.length = n ∧ Rd w' r a c l p' ∧ p' ≤ p + 10 ∧ KeptOut (fun b => b = r) w w'
theorem drawUs_of {w w' : World} {r c p p' n cb : Nat} {a b : Option Addr} {l : List UInt8} {U : List UseD} (hm : U.length = n) (O : w'.ownsRow w.heap.size 69 2 (.slice b n cb) n (U.flatMap encUse)) (hE : AnyUs U) (hrd : Rd w' r a c l p') (hp : p' ≤ p + 10)
    (hk : KeptOut (fun b => b = r) w w') : DrawUsP w r a c l p n (.returned (.slice b n cb)) w' := by
  subst hm
  exact ⟨_, U, p', rfl, O, hE, rfl, hrd, hp, hk⟩
set_option maxRecDepth 100000 in
set_option maxHeartbeats 1600000 in
theorem l13Uses_any (w : World) (r : Nat) (a : Option Addr) (c : Nat) (l : List UInt8) (p : Nat) (hp : p ≤ 10000000) (h : Rd w r a c l p) (b : Option Addr) (cb : Nat) (L : List SpaceD) (hE : AnySp L) (hn : L.length ≤ 7) (hL : ElS 5 encSpace w b L) (hb : ∀ k, b.map Addr.block = some k → k ≠ r) :
    Calls Try.prog 87 #[.pointer (some ⟨r, 0, none⟩), .slice b L.length cb] w (DrawUsP w r a c l p L.length) := by
  have hr : r < w.heap.size := h.lt
  have HAR := Lib.hid (rd_har h)
  have HR := Lib.hid h
  have HL := Lib.hid hL
  have HE := Lib.hid hE
  have HB := Lib.hid hb
  clear h hL hE hb
  obtain ⟨i0, hi, hz0, hz1, hz2⟩ := info_parts infoCUse
  go_enter Try.func87, Try.ntmps87
  go_wp2_with fail
  go_loopw [5, 6] (fun out i wr => ∃ (k : Nat) (U : List UseD) (p' : Nat) (ao : Option Addr) (co : Nat), k ≤ L.length ∧ i = .int .i64 k ∧ U.length = k ∧ out = .slice ao k co ∧ wr.ownsRow w.heap.size 69 2 (.slice ao k co) k (U.flatMap encUse) ∧ AnyUs U ∧ Rd wr r a c l p' ∧ p' ≤ p + k ∧ KeptOut (fun b => b = r) w wr) (fun _ i _ => L.length - (intOf i).toNat)
  case atStart => exact ⟨0, [], p, some ⟨w.heap.size, 0, none⟩, 0, Nat.zero_le _, rfl, rfl, rfl, own_lit00 w 69 2 _ rfl (Nat.le_refl _), by intro x hx; simp at hx, HR.out.below (below_alloc w _), by omega, KeptOut.of_below (below_alloc w _)⟩
  case round =>
    obtain ⟨k, U, p', ao, co, hk, rfl, hUk, rfl, o3, hU, h3, hp3, k3⟩ := hrel
    have z3 := k3.size
    have O3 := Lib.hid o3
    have HU := Lib.hid hU
    have H3 := Lib.hid h3
    have K3 := Lib.hid k3
    have HL3 := Lib.hid (HL.out.kept k3 (fun k hk e => HB.out k hk e))
    clear o3 hU h3 k3
    by_cases hlt : k < L.length
    · have hd : decide (k < L.length) = true := decide_eq_true hlt
      obtain ⟨bb, ob, rfl, hcb⟩ := HL3.out.2.resolve_left (fun e => by rw [e] at hlt; simp at hlt)
      have c0 := (cellsSpace (Below.refl _ _) hcb k hlt).1
      have hbr : bb ≠ r := HB.out bb rfl
      have hbw : bb < w.heap.size := by
        obtain ⟨b2, o2, e2, hc2⟩ := HL.out.2.resolve_left (fun e => by rw [e] at hlt; simp at hlt)
        cases e2
        have := World.block_lt_of_cell? w _ (cellsSpace (Below.refl _ _) hc2 k hlt).1
        simpa using this
      have hx0 := (HE.out _ (List.getElem_mem hlt)).1
      clear hcb
      have c0k : ∀ W, KeptOut (fun b => b = r) wr W → W.cell? ⟨bb, ob + k * 5, none⟩ = some (.string L[k].1) := fun W hk => (hk.cell (p := ⟨bb, ob + k * 5, none⟩) (by have := World.block_lt_of_cell? wr _ c0; simpa using this) hbr).trans c0
      clear c0
      go_wp2_with fail
      refine wp_region_held_drew (S := fun W => W.cell? ⟨bb, ob + k * 5, none⟩ = some (.string L[k].1)) (by kernel_rfl) (c0k _ (KeptOut.of_below (Below.refl wr.heap.size wr).drew)) (fun hHeld => ?_)
      refine wpAnyH_take (i := 0) (oi := { dst := some 14, op := Op.move (Operand.tmp 5), type := 37, pos := "l13_draw.go:186", after := _, guard := none }) (v := ?_) rfl (by kernel_rfl) (by kernel_rfl) (by kernel_rfl) (fun _ _ _ h => h) (Or.inl ⟨by rfl, ?_⟩) (by assumption) ?_
      rotate_left
      · (intro w hSw; (try dsimp only at hSw); go_simp; (try with_reducible rfl))
      simp only [Act.put, List.setIfInBounds_toArray, List.set_cons_zero, List.set_cons_succ]
      refine wpAnyH_take (i := 1) (oi := { dst := some 15, op := Op.move (Operand.tmp 1), type := 27, pos := "l13_draw.go:186", after := _, guard := none }) (v := ?_) rfl (by kernel_rfl) (by kernel_rfl) (by kernel_rfl) (fun _ _ _ h => h) (Or.inl ⟨by rfl, ?_⟩) (by assumption) ?_
      rotate_left
      · (intro w hSw; (try dsimp only at hSw); go_simp; (try with_reducible rfl))
      simp only [Act.put, List.setIfInBounds_toArray, List.set_cons_zero, List.set_cons_succ]
      refine wpAnyH_take (i := 2) (oi := { dst := some 16, op := Op.move (Operand.tmp 6), type := 3, pos := "l13_draw.go:186", after := _, guard := none }) (v := ?_) rfl (by kernel_rfl) (by kernel_rfl) (by kernel_rfl) (fun _ _ _ h => h) (Or.inl ⟨by rfl, ?_⟩) (by assumption) ?_
      rotate_left
      · (intro w hSw; (try dsimp only at hSw); go_simp; (try with_reducible rfl))
      simp only [Act.put, List.setIfInBounds_toArray, List.set_cons_zero, List.set_cons_succ]
      refine wpAnyH_take (i := 3) (oi := { dst := some 17, op := Op.indexAddr 27 (Operand.tmp 15) (Operand.tmp 16), type := 0, pos := "l13_draw.go:186", after := _, guard := none }) (v := ?_) rfl (by kernel_rfl) (by kernel_rfl) (by kernel_rfl) (fun _ _ _ h => h) (Or.inl ⟨by rfl, ?_⟩) (by assumption) ?_
      rotate_left
      · (intro w hSw; (try dsimp only at hSw); go_simp; (try with_reducible rfl))
      simp only [Act.put, List.setIfInBounds_toArray, List.set_cons_zero, List.set_cons_succ]
      refine wpAnyH_take (i := 4) (oi := { dst := some 18, op := Op.fieldAddr 52 (Operand.tmp 17) 0, type := 0, pos := "l13_draw.go:186", after := _, guard := none }) (v := ?_) rfl (by kernel_rfl) (by kernel_rfl) (by kernel_rfl) (fun _ _ _ h => h) (Or.inl ⟨by rfl, ?_⟩) (by assumption) ?_
      rotate_left
      · (intro w hSw; (try dsimp only at hSw); go_simp; (try with_reducible rfl))
      simp only [Act.put, List.setIfInBounds_toArray, List.set_cons_zero, List.set_cons_succ]
      refine wpAnyH_take (i := 5) (oi := { dst := some 19, op := Op.load 9 (Operand.tmp 18), type := 9, pos := "l13_draw.go:186", after := _, guard := none }) (v := ?_) rfl (by kernel_rfl) (by kernel_rfl) (by kernel_rfl) (fun _ _ _ h => h) (Or.inl ⟨by rfl, ?_⟩) (by assumption) ?_
      rotate_left
      · (intro w hSw; (try dsimp only at hSw); go_simp; (try with_reducible rfl))
      simp only [Act.put, List.setIfInBounds_toArray, List.set_cons_zero, List.set_cons_succ]
      refine wpAnyH_take (i := 6) (oi := { dst := some 20, op := Op.move (Operand.tmp 0), type := 103, pos := "l13_draw.go:186", after := _, guard := none }) (v := ?_) rfl (by kernel_rfl) (by kernel_rfl) (by kernel_rfl) (fun _ _ _ h => h) (Or.inl ⟨by rfl, ?_⟩) (by assumption) ?_
      rotate_left
      · (intro w hSw; (try dsimp only at hSw); go_simp; (try with_reducible rfl))
      simp only [Act.put, List.setIfInBounds_toArray, List.set_cons_zero, List.set_cons_succ]
      refine wpAnyH_ready (rs := [7]) (by kernel_rfl) (by simp) ?_
      refine AllReadyH.cons (o := { dst := some 21, op := Op.call { callee := Callee.value (Operand.func 79), args := #[Operand.tmp 20, Operand.const (Value.int IntKind.i64 25)], argTypes := #[103, 3] }, type := 3, pos := "l13_draw.go:186", after := _, guard := none }) rfl (fun K hK => ?_) AllReadyH.nil
      go_simp
      refine (pick_any 25 _ r a c l p' (by omega) (by omega) (by omega) (H3.out.below (Below.refl wr.heap.size wr).drew)).mono ?_
      rintro e w4 ⟨q, rfl, q0, q1, h4, k4⟩
      have K4 := Lib.hid ((KeptOut.of_below (S := fun b => b = r) (Below.refl wr.heap.size wr).drew).trans k4)
      have H4 := Lib.hid h4
      clear h4 k4
      have z4 := K4.out.size
      have O4 := Lib.hid (own_kept O3.out K4.out (fun q hq e => by have := (O3.out.lt q hq).1; omega))
      refine hK.out _ _ ?_ (fun hHeld => ?_)
      · exact c0k _ K4.out
      clear hK K
      (try simp only [Act.put, List.setIfInBounds_toArray, List.set_cons_zero, List.set_cons_succ])
      refine wpAnyH_take (i := 8) (oi := { dst := some 22, op := Op.build 69 #[(0, Operand.tmp 19), (1, Operand.tmp 21)], type := 69, pos := "l13_draw.go:186", after := _, guard := none }) (v := ?_) rfl (by kernel_rfl) (by kernel_rfl) (by kernel_rfl) (fun _ _ _ h => h) (Or.inl ⟨by rfl, ?_⟩) (by assumption) ?_
      rotate_left
      · (intro w hSw; (try dsimp only at hSw); go_simp; (try with_reducible rfl))
      simp only [Act.put, List.setIfInBounds_toArray, List.set_cons_zero, List.set_cons_succ]
      refine wpAnyH_ready (rs := [9]) (by kernel_rfl) (by simp) ?_
      refine AllReadyH.cons (o := { dst := some 23, op := Op.buildSlice 37 1 #[(0, Operand.tmp 22)], type := 37, pos := "l13_draw.go:186", after := _, guard := none }) rfl (fun K hK => ?_) AllReadyH.nil
      go_simp
      refine hK.out _ _ ?_ (fun hHeld => ?_)
      · exact c0k _ (K4.out.trans (KeptOut.of_below (below_alloc w4 _)))
      clear hK K
      (try simp only [Act.put, List.setIfInBounds_toArray, List.set_cons_zero, List.set_cons_succ])
      refine wpAnyH_ready (rs := [10]) (by kernel_rfl) (by simp) ?_
      refine AllReadyH.cons (o := { dst := some 24, op := Op.call { callee := Callee.builtin Builtin.append, args := #[Operand.tmp 14, Operand.tmp 23], argTypes := #[37, 37] }, type := 37, pos := "l13_draw.go:186", after := _, guard := none }) rfl (fun K hK => ?_) AllReadyH.nil
      refine step_append_src _ rfl (.tmp 14) (.tmp 23) 37 rfl w.heap.size 69 i0 (.agg #[.string ⟨#[]⟩, .int .i64 0]) 2 24 Try.underlying37 hi hz0 hz1 hz2 rfl (by decide) _ k _ rfl (O4.out.alloc _) (some ⟨w4.heap.size, 0, none⟩) 1 1 [.string L[k].1, .int .i64 q] rfl (src_new w4 _ _ 1 2 _ rfl rfl) (by simp [Value.oneCell']) (by unfold maxLen; omega) (by omega) (by simp; omega) ?_
      intro v5 w5 o5 g5 _
      obtain ⟨a5, c5, rfl⟩ := own_shape o5
      have B5 : Below w.heap.size w4 w5 := ((Below.refl w.heap.size w4).alloc (by omega) _).grown g5 (by simp; omega) (fun q hq => (O4.out.lt q hq).1)
      have KS : KeptOut (fun b => w.heap.size ≤ b) w4 w5 := ⟨B5.os, B5.tape, B5.output, by have := (kept_of_grown g5).size; simp at this; omega, fun q hq hn => B5.block q (by omega)⟩
      have O5 := Lib.hid o5
      have H5 := Lib.hid (H4.out.kept2 KS (by omega) (fun hn x hx => by have := HAR.out hn x hx; omega))
      have K5 := Lib.hid ((K3.out.trans K4.out).step KS (fun b hb => .inl hb))
      clear o5 g5
      refine hK.out _ _ ?_ (fun hHeld => ?_)
      · exact (KS.cell (p := ⟨bb, ob + k * 5, none⟩) (by show bb < w4.heap.size; omega) (by show ¬ w.heap.size ≤ bb; omega)).trans (c0k _ K4.out)
      clear hK K
      (try simp only [Act.put, List.setIfInBounds_toArray, List.set_cons_zero, List.set_cons_succ])
      refine wpAnyH_take (i := 11) (oi := { dst := some 5, op := Op.assign (Operand.tmp 24), type := 37, pos := "l13_draw.go:186", after := _, guard := none }) (v := ?_) rfl (by kernel_rfl) (by kernel_rfl) (by kernel_rfl) (fun _ _ _ h => h) (Or.inl ⟨by rfl, ?_⟩) (by assumption) ?_
      rotate_left
      · (intro w hSw; (try dsimp only at hSw); go_simp; (try with_reducible rfl))
      simp only [Act.put, List.setIfInBounds_toArray, List.set_cons_zero, List.set_cons_succ]
      refine wpAnyH_done (by kernel_rfl) ?_ _
      go_wp2_with fail
      go_roundw
      case rel => exact ⟨k + 1, U ++ [(L[k].1, q)], p' + 1, a5, c5, by omega, by go_num, by simp [hUk], rfl, by rw [List.flatMap_append, List.flatMap_singleton]; exact O5.out, (fun x hx => (List.mem_append.1 hx).elim (HU.out x) (fun h => by rw [List.mem_singleton.1 h]; exact hx0)), H5.out, by omega, K5.out⟩
      case measure => simp [intOf]; omega
    · have hd : decide (k < L.length) = false := decide_eq_false hlt
      have hkk : k = L.length := by omega
      subst hkk
      by_cases h0 : 0 < L.length
      · have h0i : (0 : Int) < (L.length : Int) := by omega
        go_wp2_with fail
        refine (pick_any 16 _ r a c l p' (by omega) (by omega) (by omega) H3.out).mono ?_
        rintro e w4 ⟨q, rfl, q0, q1, h4, k4⟩
        have z4 := k4.size
        have H4 := Lib.hid h4
        have K4 := Lib.hid (K3.out.trans k4)
        have O4 := Lib.hid (own_kept O3.out k4 (fun q hq e => by have := (O3.out.lt q hq).1; omega))
        clear h4 k4 q1 H3 K3 O3
        by_cases hq : q = 0
        · subst hq
          obtain ⟨g, rfl, hgc, hg0, hg1⟩ := own_partsS O4.out (by omega)
          obtain ⟨⟨vo, co4⟩, fo⟩ := own_cells O4.out (Below.refl _ _) (0 * 2 + 1) (by omega)
          have co4 : w4.cell? ⟨g, 1, none⟩ = some vo := co4
          have fo : w4.frozen? ⟨g, 1, none⟩ = false := fo
          go_wp2
          go_ret
          have KS := (KeptOut.refl (fun b => b = g) w4).setCell (p := ⟨g, 1, none⟩) rfl (.int .i64 (-1))
          have hU0 : 0 < U.length := by omega
          have hS := flat_set U 0 hU0 (-1)
          rw [Nat.zero_mul, Nat.zero_add] at hS
          exact drawUs_of (U := U.set 0 (U[0].1, -1)) (by simp [hUk]) (by rw [← hS]; exact (O4.out.stored _ _).1) (fun x hx => (List.mem_or_eq_of_mem_set hx).elim (HU.out x) (fun e => by rw [e]; exact HU.out U[0] (List.getElem_mem _))) (H4.out.kept2 KS (by omega) (fun hn x hx => by have := HAR.out hn x hx; omega)) (by omega) (K4.out.step KS (fun b hb => .inl (by omega)))
        · have hq' : (q == 0) = false := by simp [hq]
          clear hq
          go_wp2
          go_ret
          exact drawUs_of hUk O4.out HU.out H4.out (by omega) K4.out
      · have h0i : ¬ (0 : Int) < (L.length : Int) := by omega
        go_wp2_with fail
        go_ret
        exact drawUs_of hUk O3.out HU.out H3.out (by omega) K3.out
end Go.Proofs.Ytlaehhdbagiciab

/- XSlots once more, where an operation may name a later one that does not bind it. -/
namespace Go.Proofs.Ytlaehhdbagiciab
open Go Go.RowKit
variable {P : Program}

/-- every operation waits only for such as stand ahead of it: so none is left behind -/
theorem fin_ofB {md : Region.Mode} {ops : Array Oper} (h : ∀ (i : Nat) (o : Oper), ops[i]? = some o → ∀ e ∈ o.after, Region.binds md e = true → e.on < i) (listed : Array Bool) (hl : listed.size = ops.size) (hr : Region.ready md ops listed = []) : ∀ i, i < ops.size → listed.getD i false = true := by
  intro i
  induction i using Nat.strongRecOn with
  | ind i ih =>
    intro hi
    cases hq : listed.getD i false with
    | true => rfl
    | false =>
      exfalso
      have hm : i ∈ Region.ready md ops listed := by
        unfold Region.ready
        rw [List.mem_filter, List.mem_range, Bool.and_eq_true]
        refine ⟨hi, ?_, ?_⟩
        · rw [Array.getD_eq_getD_getElem?, Array.getElem?_eq_getElem (by rw [hl]; exact hi), Option.getD_some] at hq ⊢
          rw [hq]; rfl
        · rw [Array.getElem?_eq_getElem hi]
          simp only [Option.map_some, Option.getD_some, Array.all_eq_true']
          intro e he
          cases hb : Region.binds md e with
          | false => simp
          | true =>
            have := h i _ (Array.getElem?_eq_getElem hi) e he hb
            rw [ih e.on this (by omega)]
            simp
      rw [hr] at hm
      cases hm
theorem wpAny_slotsB {md : Region.Mode} {ops : Array Oper} {Q : Exit → Act → World → Prop} {ds : Nat → Nat} {G : Nat → Value → World → Prop} {S : Nat → World → Prop} {a0 : Act} (R : World → World → Prop) (m : Nat) (hm : m ≤ ops.size)
    (hG : ∀ i v w w', G i v w → R w w' → G i v w')
    (hord : ∀ (i : Nat) (o : Oper), i < m → ops[i]? = some o → o.guard = none ∧ o.dst = some (ds i) ∧ ds i < a0.tmps.size) (hdj : ∀ i j, i < m → j < m → i ≠ j → ds i ≠ ds j)
    (hback : ∀ (i : Nat) (o : Oper), ops[i]? = some o → ∀ e ∈ o.after, Region.binds md e = true → e.on < i)
    (hsz : ∀ o : Oper, ops[m]? = some o → ops.size = m + 1 ∧ o.guard = none ∧ ∀ j, j < m → ∃ e ∈ o.after, Region.binds md e = true ∧ e.on = j)
    (hstep : ∀ (i : Nat) (o : Oper) (a : Act) (w : World) (k : Nat) (K : Act → World → Prop), i < m → ops[i]? = some o → Same ops a0 a → (∀ e ∈ o.after, Region.binds md e = true → G e.on (at_ a (ds e.on)) w) → S (k + 1) w →
      (∀ v w', R w w' → G i v w' → S k w' → K (a.put o.dst v) w') → o.wp P a w K Q)
    (hdone : ∀ a w, ops.size = m → Same ops a0 a → (∀ i, i < m → G i (at_ a (ds i)) w) → S 0 w → Q .normal a w)
    (hlast : ∀ (o : Oper) (a : Act) (w : World) (K : Act → World → Prop), ops[m]? = some o → Same ops a0 a → (∀ i, i < m → G i (at_ a (ds i)) w) → S 1 w → (∀ a' w', Q .normal a' w' → K a' w') → o.wp P a w K Q) :
    ∀ (fuel : Nat) (listed : Array Bool) (a : Act) (w : World), openN listed ≤ fuel → listed.getD m false = false → OnWay ops ds G S a0 listed a w → wpAny P md ops Q fuel listed a w := by
  have done : ∀ (listed : Array Bool) (a : Act) (w : World), listed.getD m false = false → OnWay ops ds G S a0 listed a w → Region.ready md ops listed = [] → Q .normal a w := by
    intro listed a w hmf h hr
    have hall := fin_ofB hback listed h.len hr
    have hsm : ops.size = m := by
      rcases Nat.lt_or_ge m ops.size with hlt | hge
      · rw [hall m hlt] at hmf; cases hmf
      · omega
    have h0 : openN listed = 0 := by
      unfold openN
      rw [List.count_eq_zero]
      intro hm
      obtain ⟨i, hi, e⟩ := List.mem_iff_getElem.1 hm
      have hi' : i < listed.size := by simpa using hi
      have := hall i (by rw [← h.len]; exact hi')
      rw [Array.getD_eq_getD_getElem?, Array.getElem?_eq_getElem hi', Option.getD_some] at this
      rw [Array.getElem_toList, this] at e
      cases e
    have hs := h.st
    rw [h0] at hs
    exact hdone a w hsm h.same (fun i hi => h.has i (hall i (by omega))) hs
  intro fuel
  induction fuel with
  | zero =>
    intro listed a w hf hmf h
    have hr : Region.ready md ops listed = [] := by
      cases hq : Region.ready md ops listed with
      | nil => rfl
      | cons i rest =>
        obtain ⟨hi, hl, _⟩ := ready_mem (md := md) (ops := ops) (listed := listed) (i := i) (by rw [hq]; exact List.mem_cons_self)
        have := openN_set (by rw [h.len]; exact hi) hl
        omega
    exact ⟨hr, done listed a w hmf h hr⟩
  | succ fuel ih =>
    intro listed a w hf hmf h
    refine ⟨done listed a w hmf h, fun i hi => ?_⟩
    obtain ⟨hil, hl, haf⟩ := ready_mem hi
    have hls : i < listed.size := by rw [h.len]; exact hil
    have hn := openN_set hls hl
    obtain ⟨o, ho⟩ : ∃ o, ops[i]? = some o := ⟨_, Array.getElem?_eq_getElem hil⟩
    refine wpOp_step ho fun K hK => ?_
    have hget : ∀ j, j ≠ i → (listed.setIfInBounds i true).getD j false = listed.getD j false := fun j hj => by
      rw [Array.getD_eq_getD_getElem?, Array.getD_eq_getD_getElem?, Array.getElem?_setIfInBounds_ne (fun e => hj e.symm)]
    by_cases him : i < m
    · obtain ⟨hg, hd, e2⟩ := hord i o him ho
      rw [if_pos (by simp [Region.wanted, hg])]
      refine hstep i o a w (openN (listed.setIfInBounds i true)) K him ho h.same (fun e he hb => h.has e.on (haf o ho e he hb)) (by rw [hn]; exact h.st) (fun v w' hR hv hS => hK _ _ (ih _ _ _ (by omega) (by rw [hget m (by omega)]; exact hmf) ⟨by simpa using h.len, h.same.put ho v, fun j hj => ?_, hS⟩))
      by_cases e : i = j
      · subst e
        rw [hd, at_put_self (by rw [h.same.size]; exact e2)]
        exact hv
      · rw [hget j (fun e' => e e'.symm)] at hj
        have hjl : j < ops.size := by
          rw [← h.len]
          rcases Nat.lt_or_ge j listed.size with hlt | hge
          · exact hlt
          · rw [Array.getD_eq_getD_getElem?, Array.getElem?_eq_none hge] at hj; cases hj
        have hjm : j < m := by
          rcases Nat.lt_or_ge j m with hlt | hge
          · exact hlt
          · exfalso
            have hjm : j = m := by
              have h1 : m < ops.size := by omega
              have := (hsz _ (Array.getElem?_eq_getElem h1)).1
              omega
            rw [hjm] at hj
            rw [hj] at hmf; cases hmf
        rw [hd, at_put (hdj i j him hjm e)]
        exact hG j _ _ _ (h.has j hj) hR
    · have him' : i = m := by
        have h1 : m < ops.size := by omega
        have := (hsz _ (Array.getElem?_eq_getElem h1)).1
        omega
      subst him'
      obtain ⟨hs1, hg, hall⟩ := hsz o ho
      rw [if_pos (by simp [Region.wanted, hg])]
      have hothers : ∀ j, j < i → listed.getD j false = true := fun j hj => by
        obtain ⟨e, he, hb, rfl⟩ := hall j hj
        exact haf o ho e he hb
      have hone : openN listed = 1 := by
        have h0 : openN (listed.setIfInBounds i true) = 0 := by
          unfold openN
          rw [List.count_eq_zero]
          intro hm
          obtain ⟨j, hj, e⟩ := List.mem_iff_getElem.1 hm
          have hj' : j < listed.size := by simpa using hj
          have hji : j < ops.size := by rw [← h.len]; exact hj'
          have : (listed.setIfInBounds i true).getD j false = true := by
            by_cases e2 : j = i
            · subst e2
              simp [Array.getD_eq_getD_getElem?, hls]
            · rw [hget j e2]
              exact hothers j (by omega)
          rw [Array.getD_eq_getD_getElem?, Array.getElem?_eq_getElem (by simpa using hj'), Option.getD_some] at this
          rw [Array.getElem_toList, this] at e
          cases e
        omega
      refine hlast o a w K ho h.same (fun j hj => h.has j (hothers j hj)) (by have := h.st; rwa [hone] at this) (fun a' w' hq => hK _ _ (wpAny_done ?_ hq fuel))
      cases hq' : Region.ready md ops (listed.setIfInBounds i true) with
      | nil => rfl
      | cons j rest =>
        exfalso
        obtain ⟨hj, hjl, _⟩ := ready_mem (md := md) (ops := ops) (listed := listed.setIfInBounds i true) (i := j) (by rw [hq']; exact List.mem_cons_self)
        by_cases e : j = i
        · subst e
          rw [Array.getD_eq_getD_getElem?] at hjl
          simp [hls] at hjl
        · have h1 := hothers j (by omega)
          rw [← hget j e, Array.getD_eq_getD_getElem?] at h1
          rw [Array.getD_eq_getD_getElem?] at hjl
          cases hz : (listed.setIfInBounds i true)[j]? with
          | none => rw [hz] at h1; cases h1
          | some b => rw [hz] at h1 hjl; simp at h1 hjl; rw [h1] at hjl; cases hjl
/-- what must be of a region that is walked so: m operations with slots of their own, and perhaps one without behind all of them -/
def slotsW (md : Region.Mode) (ops : Array Oper) (m n : Nat) : Bool :=
  decide (m ≤ ops.size) &&
  ((List.range m).all fun i => match ops[i]? with | some o => o.guard.isNone && (match o.dst with | some d => decide (d < n) && (List.range i).all (fun j => decide (dstOf ops j ≠ d)) | none => false) | none => false) &&
  ((List.range ops.size).all fun i => match ops[i]? with | some o => o.after.all fun e => !Region.binds md e || decide (e.on < i) | none => true) &&
  (match ops[m]? with | some o => decide (ops.size = m + 1) && o.guard.isNone && (List.range m).all (fun j => o.after.any fun e => Region.binds md e && decide (e.on = j)) | none => true)
theorem wp_region_slotsW {id : Nat} {ops : Array Oper} {Q : Exit → Act → World → Prop} {G : Nat → Value → World → Prop} {S : Nat → World → Prop} {a0 : Act} {w0 : World} (hmo : P.follows .mixedOrders = true) (m n : Nat) (hn : a0.tmps.size = n) (hB : slotsW .any ops m n = true) (R : World → World → Prop)
    (hG : ∀ i v w w', G i v w → R w w' → G i v w') (hS : S ops.size w0.drew)
    (hstep : ∀ (i : Nat) (o : Oper) (a : Act) (w : World) (k : Nat) (K : Act → World → Prop), i < m → ops[i]? = some o → Same ops a0 a → (∀ e ∈ o.after, Region.binds .any e = true → G e.on (at_ a (dstOf ops e.on)) w) → S (k + 1) w →
      (∀ v w', R w w' → G i v w' → S k w' → K (a.put o.dst v) w') → o.wp P a w K Q)
    (hdone : ∀ a w, ops.size = m → Same ops a0 a → (∀ i, i < m → G i (at_ a (dstOf ops i)) w) → S 0 w → Q .normal a w)
    (hlast : ∀ (o : Oper) (a : Act) (w : World) (K : Act → World → Prop), ops[m]? = some o → Same ops a0 a → (∀ i, i < m → G i (at_ a (dstOf ops i)) w) → S 1 w → (∀ a' w', Q .normal a' w' → K a' w') → o.wp P a w K Q) :
    (Code.region id ops true).wp P Q a0 w0 := by
  unfold slotsW at hB
  simp only [Bool.and_eq_true, decide_eq_true_eq, List.all_eq_true, List.mem_range] at hB
  obtain ⟨⟨⟨h1, h2⟩, h3⟩, h4⟩ := hB
  have hord : ∀ (i : Nat) (o : Oper), i < m → ops[i]? = some o → o.guard = none ∧ o.dst = some (dstOf ops i) ∧ dstOf ops i < a0.tmps.size ∧ ∀ j, j < i → dstOf ops j ≠ dstOf ops i := fun i o hi ho => by
    have := h2 i hi
    rw [ho] at this
    simp only [Bool.and_eq_true] at this
    obtain ⟨g1, g2⟩ := this
    cases hd : o.dst with
    | none => rw [hd] at g2; cases g2
    | some d =>
      rw [hd] at g2
      simp only [Bool.and_eq_true, decide_eq_true_eq, List.all_eq_true, List.mem_range] at g2
      have e : dstOf ops i = d := by simp [dstOf, ho, hd]
      exact ⟨Option.isNone_iff_eq_none.1 g1, by rw [e], by rw [e, hn]; exact g2.1, fun j hj => by rw [e]; exact g2.2 j hj⟩
  refine wp_region_any hmo (wpAny_slotsB (ds := dstOf ops) (G := G) (S := S) (a0 := a0) R m h1 hG (fun i o hi ho => ⟨(hord i o hi ho).1, (hord i o hi ho).2.1, (hord i o hi ho).2.2.1⟩) (fun i j hi hj hne => ?_) (fun i o ho e he hb => ?_) (fun o ho => ?_) hstep hdone ?_ ops.size _ a0 _ ?_ ?_ ⟨by simp, ⟨rfl, rfl, fun _ _ => rfl⟩, fun i hi => ?_, ?_⟩)
  · rcases Nat.lt_or_gt_of_ne hne with h | h
    · exact (hord j _ hj (Array.getElem?_eq_getElem (by omega))).2.2.2 i h
    · exact fun e => (hord i _ hi (Array.getElem?_eq_getElem (by omega))).2.2.2 j h e.symm
  · have hi : i < ops.size := by
      rcases Nat.lt_or_ge i ops.size with h | h
      · exact h
      · rw [Array.getElem?_eq_none h] at ho; cases ho
    have := h3 i hi
    rw [ho] at this
    simp only [Array.all_eq_true'] at this
    have := this e he
    rw [hb] at this
    simpa using this
  · rw [ho] at h4
    simp only [Bool.and_eq_true, decide_eq_true_eq, List.all_eq_true, List.mem_range, Array.any_eq_true'] at h4
    refine ⟨h4.1.1, Option.isNone_iff_eq_none.1 h4.1.2, fun j hj => ?_⟩
    obtain ⟨e, he, hb, hq⟩ := h4.2 j hj
    exact ⟨e, he, hb, hq⟩
  · exact hlast
  · rw [openN_all]; exact Nat.le_refl _
  · exact getD_all _ _
  · rw [getD_all] at hi; cases hi
  · rw [openN_all]; exact hS
end Go.Proofs.Ytlaehhdbagiciab

/- Drawn spaces, uses, a name and how much more. -/
namespace Go.Proofs.Ytlaehhdbagiciab
open Go Go.RowKit

def litU5 : List ByteArray := [⟨#[97, 108, 108]⟩, ⟨#[97]⟩, ⟨#[98]⟩, ⟨#[99]⟩, ⟨#[120]⟩]
theorem litU5_size : ∀ s ∈ litU5, s.size ≤ 24 := by
  intro s hs
  simp only [litU5, List.mem_cons, List.not_mem_nil, or_false] at hs
  rcases hs with rfl | rfl | rfl | rfl | rfl <;> simp [ByteArray.size]
theorem ints_new (w : World) (zs : List Int) (e : TypeId) : ∀ j, j < zs.length → ∃ v : Int, (w.alloc (.cells (zs.map fun z => Value.int .i64 z).toArray e)).cell? ⟨w.heap.size, 0 + j, none⟩ = some (.int .i64 v) := by
  intro j hj
  rw [World.cell?_alloc_at _ _ _ _ rfl]
  exact ⟨zs[j], by simp [hj]⟩
/-- uses of one's own -/
def UsAt (base n : Nat) (v : Value) (w : World) : Prop := ∃ (U : List UseD) (b : Option Addr) (c : Nat), v = .slice b n c ∧ w.ownsRow base 69 2 (.slice b n c) n (U.flatMap encUse) ∧ AnyUs U ∧ U.length = n
theorem UsAt.kept {r base n : Nat} {v : Value} {w w' : World} (hr : r < base) (h : UsAt base n v w) (hk : KeptOut (fun b => b = r) w w') : UsAt base n v w' := by
  obtain ⟨U, b, c, e, ho, h1, h2⟩ := h
  exact ⟨U, b, c, e, own_kept ho hk (fun q hq e => by have := (ho.lt q hq).1; omega), h1, h2⟩
def UseDraw (w : World) (e : Ending) (w' : World) : Prop :=
  ∃ (v v' : Value) (L : List SpaceD) (U : List UseD) (s : ByteArray) (z : Int), e = .returned (.tuple #[v, v', .string s, .int .i64 z]) ∧ OwSpaceS w' w.heap.size w'.heap.size v L ∧ AnySp L ∧ L.length ≤ 7 ∧ OwUseS w' w.heap.size w'.heap.size v' U ∧ AnyUs U ∧ U.length = L.length ∧ s.size ≤ 24 ∧ Below w.heap.size w w'
theorem drawn_us {w w' : World} {base n : Nat} {b : Option Addr} {c : Nat} {U : List UseD} (h : w'.ownsRow base 69 2 (.slice b n c) n (U.flatMap encUse)) (hl : U.length = n) (hb : w.heap.size ≤ base) (hn : n ≤ 7) (hE : AnyUs U) : OwUseS w' w.heap.size w'.heap.size (.slice b n c) U := by
  subst hl
  exact owUseS_of (own_mono hb h) (by unfold maxLen; omega) hE.ok
def SUs (w0 : World) (r : Nat) (a : Option Addr) (c : Nat) (l : List UInt8) (p : Nat) (k : Nat) (w : World) : Prop := KeptOut (fun b => b = r) w0 w ∧ ∃ p', p' + 10 * k ≤ p ∧ Rd w r a c l p'
def GuMay (r n cb base : Nat) (b : Option Addr) : Nat → Value → World → Prop
  | 0, v, _ => v = .slice b n cb
  | 1, v, _ => v = .pointer (some ⟨r, 0, none⟩)
  | 2, v, _ => v = .slice b n cb
  | 3, v, w => UsAt base n v w
  | 4, v, _ => v = .pointer (some ⟨r, 0, none⟩)
  | 5, v, w => LitAt r litU5 v w
  | 6, v, _ => SomeStr 24 v
  | 7, v, _ => v = .pointer (some ⟨r, 0, none⟩)
  | 8, v, _ => SomeInt v
  | 9, v, w => IntsAt r 4 v w
  | 10, v, _ => v = .pointer (some ⟨r, 0, none⟩)
  | 11, v, _ => SomeNat 12 v
  | 12, v, _ => ∃ q : Nat, q < 12 ∧ v = .int .i64 ((q : Int) * 4)
  | 13, v, _ => SomeNat 4 v
  | 14, v, w => IntAt r v w
  | 15, v, _ => SomeInt v
  | 16, v, _ => v = .slice b n cb
  | 17, v, w => UsAt base n v w
  | 18, v, _ => SomeStr 24 v
  | 19, v, _ => SomeInt v
  | _, _, _ => True
theorem GuMay_kept {r n cb base : Nat} {b : Option Addr} (hr : r < base) (i : Nat) (v : Value) (w w' : World) (h : GuMay r n cb base b i v w) (hk : KeptOut (fun b => b = r) w w') : GuMay r n cb base b i v w' := by
  unfold GuMay at h ⊢
  split at h <;> first | exact h | exact LitAt.kept h hk | exact IntsAt.kept h hk | exact IntAt.kept h hk | exact UsAt.kept hr h hk
set_option maxRecDepth 100000 in
set_option maxHeartbeats 4000000 in
theorem drawMay_any (a : Option Addr) (c : Nat) (l : List UInt8) (w : World) (hl : l.length ≤ c) (hc : c ≤ maxLen) (h : BytesS w a l) :
    Calls Try.prog 46 #[.slice a l.length c] w (UseDraw w) := by
  go_enter Try.func46, Try.ntmps46
  go_wp2_with fail
  refine (open_any a c l _ hl hc h).mono ?_
  rintro e w1 ⟨c1, l1, rfl, h1, b1⟩
  have z1 : w.heap.size < w1.heap.size := h1.lt
  have H1 := Lib.hid h1
  clear h1
  go_wp2_with fail
  refine (anySp_any _ w.heap.size a c1 l1 0 (by omega) H1.out).mono ?_
  rintro e w2 ⟨v2, L, p2, rfl, o2, hE, hn, h2, hp2, k2⟩
  obtain ⟨b, cb, rfl⟩ := own_shape o2
  have z2 := k2.size
  have O2 := Lib.hid o2
  have HE := Lib.hid hE
  have H2 := Lib.hid h2
  have K2 := Lib.hid k2
  clear o2 hE h2 k2 H1
  have hrw : w.heap.size < w2.heap.size := by omega
  go_wp2_with fail
  refine wp_region_slotsW (G := GuMay w.heap.size L.length cb w2.heap.size b) (S := SUs w2 w.heap.size a c1 l1 (p2 + 200)) (by kernel_rfl) 20 28 rfl (by kernel_rfl) (fun W W' => KeptOut (fun b => b = w.heap.size) W W') (GuMay_kept hrw) ⟨(KeptOut.refl _ _).drew, p2, Nat.le_refl _, H2.out⟩ ?step ?done ?last
  case step =>
    intro i o A W kk K him ho hs hd hS hK
    obtain ⟨hkw, p3, hp3, hrd⟩ := hS
    have hr2 : w.heap.size < W.heap.size := hrd.lt
    have hszW := hkw.size
    match i, him, ho, hd, hK with
    | 0, _, ho, hd, hK =>
      obtain rfl := Option.some.inj ho
      have e : A.tmps.getD 7 undef = .slice b L.length cb := hs.keep (by kernel_rfl)
      go_simp
      exact hK _ _ (KeptOut.refl _ _) rfl ⟨hkw, p3, by omega, hrd⟩
    | 1, _, ho, hd, hK =>
      obtain rfl := Option.some.inj ho
      have e : A.tmps.getD 6 undef = .pointer (some ⟨w.heap.size, 0, none⟩) := hs.keep (by kernel_rfl)
      go_simp
      exact hK _ _ (KeptOut.refl _ _) rfl ⟨hkw, p3, by omega, hrd⟩
    | 2, _, ho, hd, hK =>
      obtain rfl := Option.some.inj ho
      have e : A.tmps.getD 7 undef = .slice b L.length cb := hs.keep (by kernel_rfl)
      go_simp
      exact hK _ _ (KeptOut.refl _ _) rfl ⟨hkw, p3, by omega, hrd⟩
    | 3, _, ho, hd, hK =>
      obtain rfl := Option.some.inj ho
      have e0 : A.tmps.getD 13 undef = .pointer (some ⟨w.heap.size, 0, none⟩) := hd ⟨1, .data⟩ (by simp) rfl
      have e1 : A.tmps.getD 14 undef = .slice b L.length cb := hd ⟨2, .data⟩ (by simp) rfl
      go_simp
      have ow := own_kept O2.out hkw (fun q hq e => by have := (O2.out.lt q hq).1; omega)
      refine (l13Uses_any _ w.heap.size a c1 l1 p3 (by omega) hrd b cb L HE.out hn (own_el encSpace_len (by unfold maxLen; omega) ow) (fun q hq e => by have := (O2.out.lt q (blk_map hq)).1; omega)).mono ?_
      rintro e w' ⟨v, U, p4, rfl, o4, hU, hUl, h1, hp4, k1⟩
      rw [hUl] at o4
      obtain ⟨b4, c4, rfl⟩ := own_shape o4
      exact hK _ _ k1 ⟨U, b4, c4, rfl, own_mono hszW o4, hU, hUl⟩ ⟨hkw.trans k1, p4, by omega, h1⟩
    | 4, _, ho, hd, hK =>
      obtain rfl := Option.some.inj ho
      have e : A.tmps.getD 6 undef = .pointer (some ⟨w.heap.size, 0, none⟩) := hs.keep (by kernel_rfl)
      go_simp
      exact hK _ _ (KeptOut.refl _ _) rfl ⟨hkw, p3, by omega, hrd⟩
    | 5, _, ho, hd, hK =>
      obtain rfl := Option.some.inj ho
      go_simp
      exact hK _ _ (.of_below (below_alloc _ _)) ⟨W.heap.size, rfl, by omega, lit_cells W litU5 _⟩ ⟨hkw.trans (.of_below (below_alloc _ _)), p3, by omega, hrd.below (below_alloc _ _)⟩
    | 6, _, ho, hd, hK =>
      obtain rfl := Option.some.inj ho
      have e0 : A.tmps.getD 16 undef = .pointer (some ⟨w.heap.size, 0, none⟩) := hd ⟨4, .data⟩ (by simp) rfl
      obtain ⟨b9, e1, hb, hc⟩ := (show LitAt w.heap.size litU5 (A.tmps.getD 17 undef) W from hd ⟨5, .data⟩ (by simp) rfl)
      go_simp
      refine (of_any _ w.heap.size a c1 l1 p3 (by omega) hrd b9 0 litU5.length litU5 (by decide) (by decide) hb hc).mono ?_
      rintro e w' ⟨s, hsm, rfl, h1, k1⟩
      exact hK _ _ k1 ⟨s, litU5_size s hsm, rfl⟩ ⟨hkw.trans k1, p3 + 1, by omega, h1⟩
    | 7, _, ho, hd, hK =>
      obtain rfl := Option.some.inj ho
      have e : A.tmps.getD 6 undef = .pointer (some ⟨w.heap.size, 0, none⟩) := hs.keep (by kernel_rfl)
      go_simp
      exact hK _ _ (KeptOut.refl _ _) rfl ⟨hkw, p3, by omega, hrd⟩
    | 8, _, ho, hd, hK =>
      obtain rfl := Option.some.inj ho
      have e0 : A.tmps.getD 19 undef = .pointer (some ⟨w.heap.size, 0, none⟩) := hd ⟨7, .data⟩ (by simp) rfl
      go_simp
      refine (pick_any 20 _ w.heap.size a c1 l1 p3 (by omega) (by omega) (by omega) hrd).mono ?_
      rintro e w' ⟨q, rfl, q0, q1, h1, k1⟩
      obtain ⟨q, rfl⟩ := Int.eq_ofNat_of_zero_le q0
      have q2 := q1 (by omega)
      exact hK _ _ k1 ⟨_, rfl⟩ ⟨hkw.trans k1, p3 + 1, by omega, h1⟩
    | 9, _, ho, hd, hK =>
      obtain rfl := Option.some.inj ho
      obtain ⟨z0, f0⟩ := (show SomeInt (A.tmps.getD 20 undef) from hd ⟨8, .data⟩ (by simp) rfl)
      have f0' := (Array.getD_eq_getD_getElem? ..).symm.trans f0
      go_simp
      exact hK _ _ (.of_below (below_alloc _ _)) ⟨W.heap.size, rfl, by omega, ints_new W [z0, 0, -1, 99999] _⟩ ⟨hkw.trans (.of_below (below_alloc _ _)), p3, by omega, hrd.below (below_alloc _ _)⟩
    | 10, _, ho, hd, hK =>
      obtain rfl := Option.some.inj ho
      have e : A.tmps.getD 6 undef = .pointer (some ⟨w.heap.size, 0, none⟩) := hs.keep (by kernel_rfl)
      go_simp
      exact hK _ _ (KeptOut.refl _ _) rfl ⟨hkw, p3, by omega, hrd⟩
    | 11, _, ho, hd, hK =>
      obtain rfl := Option.some.inj ho
      have e0 : A.tmps.getD 22 undef = .pointer (some ⟨w.heap.size, 0, none⟩) := hd ⟨10, .data⟩ (by simp) rfl
      go_simp
      refine (pick_any 12 _ w.heap.size a c1 l1 p3 (by omega) (by omega) (by omega) hrd).mono ?_
      rintro e w' ⟨q, rfl, q0, q1, h1, k1⟩
      obtain ⟨q, rfl⟩ := Int.eq_ofNat_of_zero_le q0
      have q2 := q1 (by omega)
      exact hK _ _ k1 ⟨q, by omega, rfl⟩ ⟨hkw.trans k1, p3 + 1, by omega, h1⟩
    | 12, _, ho, hd, hK =>
      obtain rfl := Option.some.inj ho
      obtain ⟨q, hq, e0⟩ := (show SomeNat 12 (A.tmps.getD 23 undef) from hd ⟨11, .data⟩ (by simp) rfl)
      have e0' := (Array.getD_eq_getD_getElem? ..).symm.trans e0
      have hw : IntKind.i64.wrap ((q : Int) * 4) = (q : Int) * 4 := wrap_small _ (by omega) (by omega)
      go_simp
      exact hK _ _ (KeptOut.refl _ _) ⟨q, hq, rfl⟩ ⟨hkw, p3, by omega, hrd⟩
    | 13, _, ho, hd, hK =>
      obtain rfl := Option.some.inj ho
      obtain ⟨q, hq, e0⟩ := (show ∃ q : Nat, q < 12 ∧ (A.tmps.getD 24 undef) = .int .i64 ((q : Int) * 4) from hd ⟨12, .data⟩ (by simp) rfl)
      have e0' := (Array.getD_eq_getD_getElem? ..).symm.trans e0
      obtain ⟨n5, hn5⟩ : ∃ n5, n5 = q * 4 / 12 := ⟨_, rfl⟩
      have hdiv : ((q : Int) * 4).tdiv 12 = (n5 : Int) := by rw [Int.tdiv_eq_ediv_of_nonneg (by omega)]; omega
      have hw5 : IntKind.i64.wrap (n5 : Int) = (n5 : Int) := wrap_small _ (by omega) (by omega)
      go_simp
      exact hK _ _ (KeptOut.refl _ _) ⟨n5, by omega, by first | rfl | rw [show ((q : Int) * 4 / 12) = (n5 : Int) from by omega, hw5]⟩ ⟨hkw, p3, by omega, hrd⟩
    | 14, _, ho, hd, hK =>
      obtain rfl := Option.some.inj ho
      obtain ⟨b9, e0, hb, hc⟩ := (show IntsAt w.heap.size 4 (A.tmps.getD 21 undef) W from hd ⟨9, .data⟩ (by simp) rfl)
      obtain ⟨q, hq, e1⟩ := (show SomeNat 4 (A.tmps.getD 25 undef) from hd ⟨13, .data⟩ (by simp) rfl)
      obtain ⟨z, hz⟩ := hc q hq
      have q0 : (0 : Int) ≤ (q : Int) := by omega
      have q1 : (q : Int) < 4 := by omega
      go_simp
      exact hK _ _ (KeptOut.refl _ _) ⟨b9, _, z, rfl, hb, by rwa [Nat.zero_add] at hz⟩ ⟨hkw, p3, by omega, hrd⟩
    | 15, _, ho, hd, hK =>
      obtain rfl := Option.some.inj ho
      obtain ⟨b9, o9, z, e0, hb, hz⟩ := (show IntAt w.heap.size (A.tmps.getD 26 undef) W from hd ⟨14, .data⟩ (by simp) rfl)
      go_simp
      exact hK _ _ (KeptOut.refl _ _) ⟨z, rfl⟩ ⟨hkw, p3, by omega, hrd⟩
    | 16, _, ho, hd, hK =>
      obtain rfl := Option.some.inj ho
      have e0 : A.tmps.getD 12 undef = .slice b L.length cb := hd ⟨0, .data⟩ (by simp) rfl
      have e0' := (Array.getD_eq_getD_getElem? ..).symm.trans e0
      go_simp
      exact hK _ _ (KeptOut.refl _ _) rfl ⟨hkw, p3, by omega, hrd⟩
    | 17, _, ho, hd, hK =>
      obtain rfl := Option.some.inj ho
      obtain ⟨U, b9, c9, e0, ho9, hu9⟩ := (show UsAt w2.heap.size L.length (A.tmps.getD 15 undef) W from hd ⟨3, .data⟩ (by simp) rfl)
      have e0' := (Array.getD_eq_getD_getElem? ..).symm.trans e0
      go_simp
      exact hK _ _ (KeptOut.refl _ _) ⟨U, b9, c9, rfl, ho9, hu9⟩ ⟨hkw, p3, by omega, hrd⟩
    | 18, _, ho, hd, hK =>
      obtain rfl := Option.some.inj ho
      obtain ⟨s9, hs9, e0⟩ := (show SomeStr 24 (A.tmps.getD 18 undef) from hd ⟨6, .data⟩ (by simp) rfl)
      have e0' := (Array.getD_eq_getD_getElem? ..).symm.trans e0
      go_simp
      exact hK _ _ (KeptOut.refl _ _) ⟨s9, hs9, rfl⟩ ⟨hkw, p3, by omega, hrd⟩
    | 19, _, ho, hd, hK =>
      obtain rfl := Option.some.inj ho
      obtain ⟨z9, e0⟩ := (show SomeInt (A.tmps.getD 27 undef) from hd ⟨15, .data⟩ (by simp) rfl)
      have e0' := (Array.getD_eq_getD_getElem? ..).symm.trans e0
      go_simp
      exact hK _ _ (KeptOut.refl _ _) ⟨z9, rfl⟩ ⟨hkw, p3, by omega, hrd⟩
    | n + 20, him, ho, hd, hK => omega
  case done =>
    intro A W _ hs hG hS
    obtain ⟨hkw, p3, hp3, hrd⟩ := hS
    have k2 : at_ A 2 = .slice b L.length cb := hG 16 (by decide)
    obtain ⟨U, b9, c9, k3, ho9, hu9, hul⟩ := (show UsAt w2.heap.size L.length (at_ A 3) W from hG 17 (by decide))
    obtain ⟨s9, hs9, k4⟩ := (show SomeStr 24 (at_ A 4) from hG 18 (by decide))
    obtain ⟨z9, k5⟩ := (show SomeInt (at_ A 5) from hG 19 (by decide))
    rw [act_lit (n := 28) hs.size hs.defers]
    change Exit.then _ _ _ { tmps := #[at_ A 0, at_ A 1, at_ A 2, at_ A 3, at_ A 4, at_ A 5, at_ A 6, at_ A 7, at_ A 8, at_ A 9, at_ A 10, at_ A 11, at_ A 12, at_ A 13, at_ A 14, at_ A 15, at_ A 16, at_ A 17, at_ A 18, at_ A 19, at_ A 20, at_ A 21, at_ A 22, at_ A 23, at_ A 24, at_ A 25, at_ A 26, at_ A 27], defers := [] } _
    (try dsimp only)
    rw [k2, k3, k4, k5]
    generalize at_ A 0 = y0
    generalize at_ A 1 = y1
    generalize at_ A 6 = y6
    generalize at_ A 7 = y7
    generalize at_ A 8 = y8
    generalize at_ A 9 = y9
    generalize at_ A 10 = y10
    generalize at_ A 11 = y11
    generalize at_ A 12 = y12
    generalize at_ A 13 = y13
    generalize at_ A 14 = y14
    generalize at_ A 15 = y15
    generalize at_ A 16 = y16
    generalize at_ A 17 = y17
    generalize at_ A 18 = y18
    generalize at_ A 19 = y19
    generalize at_ A 20 = y20
    generalize at_ A 21 = y21
    generalize at_ A 22 = y22
    generalize at_ A 23 = y23
    generalize at_ A 24 = y24
    generalize at_ A 25 = y25
    generalize at_ A 26 = y26
    generalize at_ A 27 = y27
    have O9 := own_kept O2.out hkw (fun q hq e => by have := (O2.out.lt q hq).1; omega)
    have KK := K2.out.trans hkw
    clear hG hs k2 k3 k4 k5
    go_wp2
    go_returns
    exact ⟨_, _, L, U, s9, z9, rfl, drawn_own O9 (by omega) hn HE.out, HE.out, hn, drawn_us ho9 hul (by omega) hn hu9, hu9, hul, hs9, KK.below b1 b1.size (fun q hq => by omega)⟩
  case last =>
    intro o A W K ho
    exact absurd ho (by simp)
def GuAdd (r n cb base : Nat) (b : Option Addr) : Nat → Value → World → Prop
  | 0, v, _ => v = .slice b n cb
  | 1, v, _ => v = .pointer (some ⟨r, 0, none⟩)
  | 2, v, _ => v = .slice b n cb
  | 3, v, w => UsAt base n v w
  | 4, v, _ => v = .pointer (some ⟨r, 0, none⟩)
  | 5, v, w => LitAt r litU5 v w
  | 6, v, _ => SomeStr 24 v
  | 7, v, _ => v = .pointer (some ⟨r, 0, none⟩)
  | 8, v, _ => SomeInt v
  | 9, v, _ => v = .pointer (some ⟨r, 0, none⟩)
  | 10, v, _ => SomeInt v
  | 11, v, _ => SomeInt v
  | 12, v, w => IntsAt r 3 v w
  | 13, v, _ => v = .pointer (some ⟨r, 0, none⟩)
  | 14, v, _ => SomeNat 12 v
  | 15, v, _ => ∃ q : Nat, q < 12 ∧ v = .int .i64 ((q : Int) * 3)
  | 16, v, _ => SomeNat 3 v
  | 17, v, w => IntAt r v w
  | 18, v, _ => SomeInt v
  | 19, v, _ => v = .slice b n cb
  | 20, v, w => UsAt base n v w
  | 21, v, _ => SomeStr 24 v
  | 22, v, _ => SomeInt v
  | _, _, _ => True
theorem GuAdd_kept {r n cb base : Nat} {b : Option Addr} (hr : r < base) (i : Nat) (v : Value) (w w' : World) (h : GuAdd r n cb base b i v w) (hk : KeptOut (fun b => b = r) w w') : GuAdd r n cb base b i v w' := by
  unfold GuAdd at h ⊢
  split at h <;> first | exact h | exact LitAt.kept h hk | exact IntsAt.kept h hk | exact IntAt.kept h hk | exact UsAt.kept hr h hk
set_option maxRecDepth 100000 in
set_option maxHeartbeats 4000000 in
theorem drawAdd_any (a : Option Addr) (c : Nat) (l : List UInt8) (w : World) (hl : l.length ≤ c) (hc : c ≤ maxLen) (h : BytesS w a l) :
    Calls Try.prog 47 #[.slice a l.length c] w (UseDraw w) := by
  go_enter Try.func47, Try.ntmps47
  go_wp2_with fail
  refine (open_any a c l _ hl hc h).mono ?_
  rintro e w1 ⟨c1, l1, rfl, h1, b1⟩
  have z1 : w.heap.size < w1.heap.size := h1.lt
  have H1 := Lib.hid h1
  clear h1
  go_wp2_with fail
  refine (anySp_any _ w.heap.size a c1 l1 0 (by omega) H1.out).mono ?_
  rintro e w2 ⟨v2, L, p2, rfl, o2, hE, hn, h2, hp2, k2⟩
  obtain ⟨b, cb, rfl⟩ := own_shape o2
  have z2 := k2.size
  have O2 := Lib.hid o2
  have HE := Lib.hid hE
  have H2 := Lib.hid h2
  have K2 := Lib.hid k2
  clear o2 hE h2 k2 H1
  have hrw : w.heap.size < w2.heap.size := by omega
  go_wp2_with fail
  refine wp_region_slotsW (G := GuAdd w.heap.size L.length cb w2.heap.size b) (S := SUs w2 w.heap.size a c1 l1 (p2 + 230)) (by kernel_rfl) 23 31 rfl (by kernel_rfl) (fun W W' => KeptOut (fun b => b = w.heap.size) W W') (GuAdd_kept hrw) ⟨(KeptOut.refl _ _).drew, p2, Nat.le_refl _, H2.out⟩ ?step ?done ?last
  case step =>
    intro i o A W kk K him ho hs hd hS hK
    obtain ⟨hkw, p3, hp3, hrd⟩ := hS
    have hr2 : w.heap.size < W.heap.size := hrd.lt
    have hszW := hkw.size
    match i, him, ho, hd, hK with
    | 0, _, ho, hd, hK =>
      obtain rfl := Option.some.inj ho
      have e : A.tmps.getD 7 undef = .slice b L.length cb := hs.keep (by kernel_rfl)
      go_simp
      exact hK _ _ (KeptOut.refl _ _) rfl ⟨hkw, p3, by omega, hrd⟩
    | 1, _, ho, hd, hK =>
      obtain rfl := Option.some.inj ho
      have e : A.tmps.getD 6 undef = .pointer (some ⟨w.heap.size, 0, none⟩) := hs.keep (by kernel_rfl)
      go_simp
      exact hK _ _ (KeptOut.refl _ _) rfl ⟨hkw, p3, by omega, hrd⟩
    | 2, _, ho, hd, hK =>
      obtain rfl := Option.some.inj ho
      have e : A.tmps.getD 7 undef = .slice b L.length cb := hs.keep (by kernel_rfl)
      go_simp
      exact hK _ _ (KeptOut.refl _ _) rfl ⟨hkw, p3, by omega, hrd⟩
    | 3, _, ho, hd, hK =>
      obtain rfl := Option.some.inj ho
      have e0 : A.tmps.getD 13 undef = .pointer (some ⟨w.heap.size, 0, none⟩) := hd ⟨1, .data⟩ (by simp) rfl
      have e1 : A.tmps.getD 14 undef = .slice b L.length cb := hd ⟨2, .data⟩ (by simp) rfl
      go_simp
      have ow := own_kept O2.out hkw (fun q hq e => by have := (O2.out.lt q hq).1; omega)
      refine (l13Uses_any _ w.heap.size a c1 l1 p3 (by omega) hrd b cb L HE.out hn (own_el encSpace_len (by unfold maxLen; omega) ow) (fun q hq e => by have := (O2.out.lt q (blk_map hq)).1; omega)).mono ?_
      rintro e w' ⟨v, U, p4, rfl, o4, hU, hUl, h1, hp4, k1⟩
      rw [hUl] at o4
      obtain ⟨b4, c4, rfl⟩ := own_shape o4
      exact hK _ _ k1 ⟨U, b4, c4, rfl, own_mono hszW o4, hU, hUl⟩ ⟨hkw.trans k1, p4, by omega, h1⟩
    | 4, _, ho, hd, hK =>
      obtain rfl := Option.some.inj ho
      have e : A.tmps.getD 6 undef = .pointer (some ⟨w.heap.size, 0, none⟩) := hs.keep (by kernel_rfl)
      go_simp
      exact hK _ _ (KeptOut.refl _ _) rfl ⟨hkw, p3, by omega, hrd⟩
    | 5, _, ho, hd, hK =>
      obtain rfl := Option.some.inj ho
      go_simp
      exact hK _ _ (.of_below (below_alloc _ _)) ⟨W.heap.size, rfl, by omega, lit_cells W litU5 _⟩ ⟨hkw.trans (.of_below (below_alloc _ _)), p3, by omega, hrd.below (below_alloc _ _)⟩
    | 6, _, ho, hd, hK =>
      obtain rfl := Option.some.inj ho
      have e0 : A.tmps.getD 16 undef = .pointer (some ⟨w.heap.size, 0, none⟩) := hd ⟨4, .data⟩ (by simp) rfl
      obtain ⟨b9, e1, hb, hc⟩ := (show LitAt w.heap.size litU5 (A.tmps.getD 17 undef) W from hd ⟨5, .data⟩ (by simp) rfl)
      go_simp
      refine (of_any _ w.heap.size a c1 l1 p3 (by omega) hrd b9 0 litU5.length litU5 (by decide) (by decide) hb hc).mono ?_
      rintro e w' ⟨s, hsm, rfl, h1, k1⟩
      exact hK _ _ k1 ⟨s, litU5_size s hsm, rfl⟩ ⟨hkw.trans k1, p3 + 1, by omega, h1⟩
    | 7, _, ho, hd, hK =>
      obtain rfl := Option.some.inj ho
      have e : A.tmps.getD 6 undef = .pointer (some ⟨w.heap.size, 0, none⟩) := hs.keep (by kernel_rfl)
      go_simp
      exact hK _ _ (KeptOut.refl _ _) rfl ⟨hkw, p3, by omega, hrd⟩
    | 8, _, ho, hd, hK =>
      obtain rfl := Option.some.inj ho
      have e0 : A.tmps.getD 19 undef = .pointer (some ⟨w.heap.size, 0, none⟩) := hd ⟨7, .data⟩ (by simp) rfl
      go_simp
      refine (pick_any 20 _ w.heap.size a c1 l1 p3 (by omega) (by omega) (by omega) hrd).mono ?_
      rintro e w' ⟨q, rfl, q0, q1, h1, k1⟩
      obtain ⟨q, rfl⟩ := Int.eq_ofNat_of_zero_le q0
      have q2 := q1 (by omega)
      exact hK _ _ k1 ⟨_, rfl⟩ ⟨hkw.trans k1, p3 + 1, by omega, h1⟩
    | 9, _, ho, hd, hK =>
      obtain rfl := Option.some.inj ho
      have e : A.tmps.getD 6 undef = .pointer (some ⟨w.heap.size, 0, none⟩) := hs.keep (by kernel_rfl)
      go_simp
      exact hK _ _ (KeptOut.refl _ _) rfl ⟨hkw, p3, by omega, hrd⟩
    | 10, _, ho, hd, hK =>
      obtain rfl := Option.some.inj ho
      have e0 : A.tmps.getD 21 undef = .pointer (some ⟨w.heap.size, 0, none⟩) := hd ⟨9, .data⟩ (by simp) rfl
      go_simp
      refine (pick_any 20 _ w.heap.size a c1 l1 p3 (by omega) (by omega) (by omega) hrd).mono ?_
      rintro e w' ⟨q, rfl, q0, q1, h1, k1⟩
      obtain ⟨q, rfl⟩ := Int.eq_ofNat_of_zero_le q0
      have q2 := q1 (by omega)
      exact hK _ _ k1 ⟨_, rfl⟩ ⟨hkw.trans k1, p3 + 1, by omega, h1⟩
    | 11, _, ho, hd, hK =>
      obtain rfl := Option.some.inj ho
      obtain ⟨z, e0⟩ := (show SomeInt (A.tmps.getD 22 undef) from hd ⟨10, .data⟩ (by simp) rfl)
      have e0' := (Array.getD_eq_getD_getElem? ..).symm.trans e0
      go_simp
      exact hK _ _ (KeptOut.refl _ _) ⟨_, rfl⟩ ⟨hkw, p3, by omega, hrd⟩
    | 12, _, ho, hd, hK =>
      obtain rfl := Option.some.inj ho
      obtain ⟨z0, f0⟩ := (show SomeInt (A.tmps.getD 20 undef) from hd ⟨8, .data⟩ (by simp) rfl)
      have f0' := (Array.getD_eq_getD_getElem? ..).symm.trans f0
      obtain ⟨z1, f1⟩ := (show SomeInt (A.tmps.getD 23 undef) from hd ⟨11, .data⟩ (by simp) rfl)
      have f1' := (Array.getD_eq_getD_getElem? ..).symm.trans f1
      go_simp
      exact hK _ _ (.of_below (below_alloc _ _)) ⟨W.heap.size, rfl, by omega, ints_new W [z0, z1, 99999] _⟩ ⟨hkw.trans (.of_below (below_alloc _ _)), p3, by omega, hrd.below (below_alloc _ _)⟩
    | 13, _, ho, hd, hK =>
      obtain rfl := Option.some.inj ho
      have e : A.tmps.getD 6 undef = .pointer (some ⟨w.heap.size, 0, none⟩) := hs.keep (by kernel_rfl)
      go_simp
      exact hK _ _ (KeptOut.refl _ _) rfl ⟨hkw, p3, by omega, hrd⟩
    | 14, _, ho, hd, hK =>
      obtain rfl := Option.some.inj ho
      have e0 : A.tmps.getD 25 undef = .pointer (some ⟨w.heap.size, 0, none⟩) := hd ⟨13, .data⟩ (by simp) rfl
      go_simp
      refine (pick_any 12 _ w.heap.size a c1 l1 p3 (by omega) (by omega) (by omega) hrd).mono ?_
      rintro e w' ⟨q, rfl, q0, q1, h1, k1⟩
      obtain ⟨q, rfl⟩ := Int.eq_ofNat_of_zero_le q0
      have q2 := q1 (by omega)
      exact hK _ _ k1 ⟨q, by omega, rfl⟩ ⟨hkw.trans k1, p3 + 1, by omega, h1⟩
    | 15, _, ho, hd, hK =>
      obtain rfl := Option.some.inj ho
      obtain ⟨q, hq, e0⟩ := (show SomeNat 12 (A.tmps.getD 26 undef) from hd ⟨14, .data⟩ (by simp) rfl)
      have e0' := (Array.getD_eq_getD_getElem? ..).symm.trans e0
      have hw : IntKind.i64.wrap ((q : Int) * 3) = (q : Int) * 3 := wrap_small _ (by omega) (by omega)
      go_simp
      exact hK _ _ (KeptOut.refl _ _) ⟨q, hq, rfl⟩ ⟨hkw, p3, by omega, hrd⟩
    | 16, _, ho, hd, hK =>
      obtain rfl := Option.some.inj ho
      obtain ⟨q, hq, e0⟩ := (show ∃ q : Nat, q < 12 ∧ (A.tmps.getD 27 undef) = .int .i64 ((q : Int) * 3) from hd ⟨15, .data⟩ (by simp) rfl)
      have e0' := (Array.getD_eq_getD_getElem? ..).symm.trans e0
      obtain ⟨n5, hn5⟩ : ∃ n5, n5 = q * 3 / 12 := ⟨_, rfl⟩
      have hdiv : ((q : Int) * 3).tdiv 12 = (n5 : Int) := by rw [Int.tdiv_eq_ediv_of_nonneg (by omega)]; omega
      have hw5 : IntKind.i64.wrap (n5 : Int) = (n5 : Int) := wrap_small _ (by omega) (by omega)
      go_simp
      exact hK _ _ (KeptOut.refl _ _) ⟨n5, by omega, by first | rfl | rw [show ((q : Int) * 3 / 12) = (n5 : Int) from by omega, hw5]⟩ ⟨hkw, p3, by omega, hrd⟩
    | 17, _, ho, hd, hK =>
      obtain rfl := Option.some.inj ho
      obtain ⟨b9, e0, hb, hc⟩ := (show IntsAt w.heap.size 3 (A.tmps.getD 24 undef) W from hd ⟨12, .data⟩ (by simp) rfl)
      obtain ⟨q, hq, e1⟩ := (show SomeNat 3 (A.tmps.getD 28 undef) from hd ⟨16, .data⟩ (by simp) rfl)
      obtain ⟨z, hz⟩ := hc q hq
      have q0 : (0 : Int) ≤ (q : Int) := by omega
      have q1 : (q : Int) < 3 := by omega
      go_simp
      exact hK _ _ (KeptOut.refl _ _) ⟨b9, _, z, rfl, hb, by rwa [Nat.zero_add] at hz⟩ ⟨hkw, p3, by omega, hrd⟩
    | 18, _, ho, hd, hK =>
      obtain rfl := Option.some.inj ho
      obtain ⟨b9, o9, z, e0, hb, hz⟩ := (show IntAt w.heap.size (A.tmps.getD 29 undef) W from hd ⟨17, .data⟩ (by simp) rfl)
      go_simp
      exact hK _ _ (KeptOut.refl _ _) ⟨z, rfl⟩ ⟨hkw, p3, by omega, hrd⟩
    | 19, _, ho, hd, hK =>
      obtain rfl := Option.some.inj ho
      have e0 : A.tmps.getD 12 undef = .slice b L.length cb := hd ⟨0, .data⟩ (by simp) rfl
      have e0' := (Array.getD_eq_getD_getElem? ..).symm.trans e0
      go_simp
      exact hK _ _ (KeptOut.refl _ _) rfl ⟨hkw, p3, by omega, hrd⟩
    | 20, _, ho, hd, hK =>
      obtain rfl := Option.some.inj ho
      obtain ⟨U, b9, c9, e0, ho9, hu9⟩ := (show UsAt w2.heap.size L.length (A.tmps.getD 15 undef) W from hd ⟨3, .data⟩ (by simp) rfl)
      have e0' := (Array.getD_eq_getD_getElem? ..).symm.trans e0
      go_simp
      exact hK _ _ (KeptOut.refl _ _) ⟨U, b9, c9, rfl, ho9, hu9⟩ ⟨hkw, p3, by omega, hrd⟩
    | 21, _, ho, hd, hK =>
      obtain rfl := Option.some.inj ho
      obtain ⟨s9, hs9, e0⟩ := (show SomeStr 24 (A.tmps.getD 18 undef) from hd ⟨6, .data⟩ (by simp) rfl)
      have e0' := (Array.getD_eq_getD_getElem? ..).symm.trans e0
      go_simp
      exact hK _ _ (KeptOut.refl _ _) ⟨s9, hs9, rfl⟩ ⟨hkw, p3, by omega, hrd⟩
    | 22, _, ho, hd, hK =>
      obtain rfl := Option.some.inj ho
      obtain ⟨z9, e0⟩ := (show SomeInt (A.tmps.getD 30 undef) from hd ⟨18, .data⟩ (by simp) rfl)
      have e0' := (Array.getD_eq_getD_getElem? ..).symm.trans e0
      go_simp
      exact hK _ _ (KeptOut.refl _ _) ⟨z9, rfl⟩ ⟨hkw, p3, by omega, hrd⟩
    | n + 23, him, ho, hd, hK => omega
  case done =>
    intro A W _ hs hG hS
    obtain ⟨hkw, p3, hp3, hrd⟩ := hS
    have k2 : at_ A 2 = .slice b L.length cb := hG 19 (by decide)
    obtain ⟨U, b9, c9, k3, ho9, hu9, hul⟩ := (show UsAt w2.heap.size L.length (at_ A 3) W from hG 20 (by decide))
    obtain ⟨s9, hs9, k4⟩ := (show SomeStr 24 (at_ A 4) from hG 21 (by decide))
    obtain ⟨z9, k5⟩ := (show SomeInt (at_ A 5) from hG 22 (by decide))
    rw [act_lit (n := 31) hs.size hs.defers]
    change Exit.then _ _ _ { tmps := #[at_ A 0, at_ A 1, at_ A 2, at_ A 3, at_ A 4, at_ A 5, at_ A 6, at_ A 7, at_ A 8, at_ A 9, at_ A 10, at_ A 11, at_ A 12, at_ A 13, at_ A 14, at_ A 15, at_ A 16, at_ A 17, at_ A 18, at_ A 19, at_ A 20, at_ A 21, at_ A 22, at_ A 23, at_ A 24, at_ A 25, at_ A 26, at_ A 27, at_ A 28, at_ A 29, at_ A 30], defers := [] } _
    (try dsimp only)
    rw [k2, k3, k4, k5]
    generalize at_ A 0 = y0
    generalize at_ A 1 = y1
    generalize at_ A 6 = y6
    generalize at_ A 7 = y7
    generalize at_ A 8 = y8
    generalize at_ A 9 = y9
    generalize at_ A 10 = y10
    generalize at_ A 11 = y11
    generalize at_ A 12 = y12
    generalize at_ A 13 = y13
    generalize at_ A 14 = y14
    generalize at_ A 15 = y15
    generalize at_ A 16 = y16
    generalize at_ A 17 = y17
    generalize at_ A 18 = y18
    generalize at_ A 19 = y19
    generalize at_ A 20 = y20
    generalize at_ A 21 = y21
    generalize at_ A 22 = y22
    generalize at_ A 23 = y23
    generalize at_ A 24 = y24
    generalize at_ A 25 = y25
    generalize at_ A 26 = y26
    generalize at_ A 27 = y27
    generalize at_ A 28 = y28
    generalize at_ A 29 = y29
    generalize at_ A 30 = y30
    have O9 := own_kept O2.out hkw (fun q hq e => by have := (O2.out.lt q hq).1; omega)
    have KK := K2.out.trans hkw
    clear hG hs k2 k3 k4 k5
    go_wp2
    go_returns
    exact ⟨_, _, L, U, s9, z9, rfl, drawn_own O9 (by omega) hn HE.out, HE.out, hn, drawn_us ho9 hul (by omega) hn hu9, hu9, hul, hs9, KK.below b1 b1.size (fun q hq => by omega)⟩
  case last =>
    intro o A W K ho
    exact absurd ho (by simp)
end Go.Proofs.Ytlaehhdbagiciab

/- What the laws of uses need of the specification. -/
namespace Go.Proofs.Ytlaehhdbagiciab
open Go Go.RowKit

theorem addO_ne {l : List SpaceD} {u : List UseD} {name : ByteArray} {more : Int} (h : addO l u name more ≠ []) : addOk l u name more = true := by
  cases e : addOk l u name more with
  | true => rfl
  | false => exact absurd (addO_no e) h
theorem addOk_parts {l : List SpaceD} {u : List UseD} {name : ByteArray} {more : Int} (h : addOk l u name more = true) : spsOk l = true ∧ usesB l u = true ∧ (-99999 ≤ more ∧ more ≤ 99999) ∧ usesB l (addU l u name more) = true := by
  unfold addOk at h
  simp only [Bool.and_eq_true] at h
  refine ⟨h.1, h.2.1, ?_, h.2.2.2⟩
  have := h.2.2.1
  unfold inB at this
  simpa using this
theorem addO_len {l : List SpaceD} {u : List UseD} {name : ByteArray} {more : Int} (h : addOk l u name more = true) : (addO l u name more).length = u.length := by
  rw [addO_yes h]
  simp [addU]
theorem addO_at {l : List SpaceD} {u : List UseD} {name : ByteArray} {more : Int} (h : addOk l u name more = true) {k : Nat} (hk : k < (addO l u name more).length) (hu : k < u.length) : (addO l u name more)[k] = addN l name more u[k] := by
  simp only [addO_yes h, addU, List.getElem_map]
theorem addN_name (l : List SpaceD) (name : ByteArray) (more : Int) (x : UseD) : (addN l name more x).1 = x.1 := by
  unfold addN
  split <;> rfl
theorem addN_units (l : List SpaceD) (name : ByteArray) (more : Int) (x : UseD) : (addN l name more x).2 = x.2 + if inSp l name x.1 then more else 0 := by
  unfold addN
  split
  · rfl
  · simp
theorem addN_back (l : List SpaceD) (name : ByteArray) (more : Int) (x : UseD) : addN l name (-more) (addN l name more x) = x := by
  have h1 : (addN l name (-more) (addN l name more x)).1 = x.1 := by rw [addN_name, addN_name]
  have h2 : (addN l name (-more) (addN l name more x)).2 = x.2 := by
    rw [addN_units, addN_units, addN_name]
    split <;> omega
  exact Prod.ext h1 h2
theorem addO_back {l : List SpaceD} {u : List UseD} {name : ByteArray} {more : Int} (h : addOk l u name more = true) : addO l (addO l u name more) name (-more) = u := by
  obtain ⟨h1, h2, h3, h4⟩ := addOk_parts h
  have e : addU l (addU l u name more) name (-more) = u := by
    unfold addU
    rw [List.map_map]
    conv => rhs; rw [← List.map_id u]
    exact List.map_congr_left fun x _ => addN_back l name more x
  have hk : addOk l (addU l u name more) name (-more) = true := by
    unfold addOk
    rw [e, h1, h2, h4]
    unfold inB
    simp
    omega
  rw [addO_yes h, addO_yes hk, e]
theorem upO_none {l : List SpaceD} {name : ByteArray} (h : idxS l name = none) : upO l name = [] := by
  unfold upO upS
  rw [h, trail_none]
  split <;> rfl
/-- what is told at a space around it -/
theorem may_ex {l : List SpaceD} {u : List UseD} {name : ByteArray} {more : Int} (h : addOk l u name more = true) {i : Nat} (hi : i < (upO l name).length) {k : Nat} (hk : k < l.length) (hx : k < (addO l u name more).length) (hn : l[k].1 = (upO l name)[i]) :
    exN l u more (upO l name)[i] = (decide (0 ≤ l[k].2.2.1) && decide (l[k].2.2.1 < (addO l u name more)[k].2)) := by
  obtain ⟨h1, h2, h3, h4⟩ := addOk_parts h
  obtain ⟨-, hl, hnm⟩ := usesB_ub h2
  have hln := (sps_len h1).2.2
  have hku : k < u.length := by omega
  have hid : ∀ j (hj : j < l.length), idxS l l[j].1 = some j := fun j hj => by have := line_idx hln hj; rwa [nmS_at hj] at this
  have hin : inSp l name u[k].1 = true := by
    have := upO_in (List.getElem_mem hi)
    rw [h1, Bool.true_and, ← hn] at this
    rw [hnm k hku, nmS_at hk]
    exact this
  have huse : useN u (nmS l k) = u[k].2 := by
    refine useN_at hku (hnm k hku) (fun j hj hl e => ?_)
    rw [hnm j hl, nmS_at (by omega), nmS_at hk] at e
    have e1 := hid j (by omega)
    rw [e, hid k hk] at e1
    cases e1
    omega
  have hu2 : (addO l u name more)[k].2 = u[k].2 + more := by
    rw [addO_at h hx hku, addN_units, if_pos hin]
  rw [hu2, ← hn]
  unfold exN
  rw [hid k hk]
  show exI l u more k = _
  unfold exI limS
  rw [huse, getD_sp hk]
/-- the one that is told is the first around it that cannot -/
theorem may_hit {l : List SpaceD} {u : List UseD} {name : ByteArray} {more : Int} (h : addOk l u name more = true) (hm : 0 ≤ more) {i : Nat} (hi : i < (upO l name).length) (he : exN l u more (upO l name)[i] = true) (hb : ∀ j, j < i → ∀ (hj : j < (upO l name).length), exN l u more (upO l name)[j] = false) : mayO l u name more = (upO l name)[i] := by
  obtain ⟨h1, h2, h3, h4⟩ := addOk_parts h
  have hsome : (idxS l name).isSome = true := by
    cases e : idxS l name with
    | some j => rfl
    | none => rw [upO_none e] at hi; simp at hi
  have hok : mayOk l u name more = true := by
    unfold mayOk inB
    rw [h1, h2, hsome]
    simp
    omega
  have hf := find_hit (p := exN l u more) hi he hb
  have e : upO l name = upS l name := by unfold upO; rw [if_pos h1]
  rw [mayO_yes hok]
  unfold mayN
  rw [← e, hf]
  rfl
theorem may_miss {l : List SpaceD} {u : List UseD} {name : ByteArray} {more : Int} (h : addOk l u name more = true) (hm : 0 ≤ more) (h0 : upO l name ≠ []) (hb : ∀ j (hj : j < (upO l name).length), exN l u more (upO l name)[j] = false) : mayO l u name more = ⟨#[]⟩ := by
  obtain ⟨h1, h2, h3, h4⟩ := addOk_parts h
  have hsome : (idxS l name).isSome = true := by
    cases e : idxS l name with
    | some j => rfl
    | none => exact absurd (upO_none e) h0
  have hok : mayOk l u name more = true := by
    unfold mayOk inB
    rw [h1, h2, hsome]
    simp
    omega
  have hf := find_miss (p := exN l u more) hb
  have e : upO l name = upS l name := by unfold upO; rw [if_pos h1]
  rw [mayO_yes hok]
  unfold mayN
  rw [← e, hf]
  rfl
/-- each one around it is one of the spaces -/
theorem upO_some {l : List SpaceD} {name : ByteArray} {i : Nat} (hi : i < (upO l name).length) : ∃ k, ∃ hk : k < l.length, l[k].1 = (upO l name)[i] := by
  have hm := List.getElem_mem hi
  have hk : spsOk l = true := by
    cases e : spsOk l with
    | true => rfl
    | false => rw [upO, e] at hi; simp at hi
  have e : upO l name = upS l name := by unfold upO; rw [if_pos hk]
  generalize (upO l name)[i] = y at hm ⊢
  rw [e] at hm
  obtain ⟨k, hk, he⟩ := upS_mem hm
  exact ⟨k, hk, he.symm⟩
end Go.Proofs.Ytlaehhdbagiciab

/- The walk of FnUseMay. -/
namespace Go.Proofs.Ytlaehhdbagiciab
open Go Go.RowKit

theorem implMay_is {b bu : Option Addr} {cb cu : Nat} {L : List SpaceD} {U : List UseD} {x : ByteArray} {m : Int} {w : World} (hl : ElS 5 encSpace w b L) (hE : AnySp L) (hu : ElS 2 encUse w bu U) {n : Nat} (hn : U.length = n) {z : ByteArray} (hz : mayO L U x m = z) :
    Calls Try.prog 23 #[.slice b L.length cb, .slice bu n cu, .string x, .int .i64 m] w fun e w' => e = .returned (.string z) ∧ Below w.heap.size w w' := by
  subst hn
  subst hz
  exact implUseMay_any b bu cb cu L U x m w hl hE.ok hu
theorem specMay_is {b bu : Option Addr} {cb cu : Nat} {L : List SpaceD} {U : List UseD} {x : ByteArray} {m : Int} {w : World} (hl : ElS 5 encSpace w b L) (hE : AnySp L) (hL : L.length ≤ 7) (hu : ElS 2 encUse w bu U) {n : Nat} (hn : U.length = n) {z : ByteArray} (hz : mayO L U x m = z) :
    Calls Try.prog 21 #[.slice b L.length cb, .slice bu n cu, .string x, .int .i64 m] w fun e w' => e = .returned (.string z) ∧ Below w.heap.size w w' := by
  subst hn
  subst hz
  exact specUseMay_any b bu cb cu L U x m w hl hE.ok (by omega) hu
theorem implAdd_is {b bu : Option Addr} {cb cu : Nat} {L : List SpaceD} {U : List UseD} {x : ByteArray} {m : Int} {w : World} (hl : ElS 5 encSpace w b L) (hE : AnySp L) (hu : ElS 2 encUse w bu U) (hU : AnyUs U) {n : Nat} (hn : U.length = n) {X : List UseD} (hX : addO L U x m = X) :
    Calls Try.prog 26 #[.slice b L.length cb, .slice bu n cu, .string x, .int .i64 m] w (AddPost w X) := by
  subst hn
  subst hX
  exact implUseAdd_any b bu cb cu L U x m w hl hE.ok hu hU.ok
theorem implSps_is {b : Option Addr} {cb : Nat} {L : List SpaceD} {w : World} (hl : ElS 5 encSpace w b L) (hE : AnySp L) {q : Bool} (hq : spsOk L = q) :
    Calls Try.prog 34 #[.slice b L.length cb] w fun e w' => e = .returned (.bool q) ∧ Below w.heap.size w w' := by
  subst hq
  exact implSpaces_any b cb L w hl hE.ok
theorem strNe {x y : ByteArray} (h : x = y) : (x.toList == y.toList) = true := by rw [h]; simp
theorem isB_no {y : ByteArray} {L : List ByteArray} {i : Nat} (hi : i < L.length) (h : y = L[i]) : (y.toList == L[i].toList) = true := strNe h
set_option maxRecDepth 100000 in
set_option maxHeartbeats 4000000 in
theorem fnUseMayWalk (a : Option Addr) (c : Nat) (l : List UInt8) {w : World} (hl : l.length ≤ c) (hc : c ≤ maxLen) (h : BytesS w a l) :
    Calls Try.prog 10 #[.slice a l.length c] w fun e w' => e = .returned (.bool true) ∧ Below w.heap.size w w' := by
  have hcl := hc
  unfold maxLen at hcl
  by_cases hb : (1048576 : Int) < (l.length : Int)
  · go_enter Try.func10, Try.ntmps10
    go_wp2
    go_ret
    exact ⟨rfl, Below.refl _ _⟩
  have hb1 : (l.length : Int) ≤ 1048576 := by omega
  clear hb
  go_enter Try.func10, Try.ntmps10
  go_wp2_with fail
  refine (drawMay_any a c l _ hl hc h).mono ?_
  rintro e w1 ⟨v, v', L, U, x, m, rfl, ow, hE, hn, ou, hU, hUl, hs, b1⟩
  obtain ⟨b, cb, rfl, -, -⟩ := id ow
  obtain ⟨bu, cu, rfl, -, -⟩ := id ou
  have E1 := Lib.hid (show ElS 5 encSpace w1 b L by obtain ⟨a', c', e, hl, _⟩ := ow.vw; cases e; exact hl)
  have V1 := Lib.hid (show ElS 2 encUse w1 bu U by obtain ⟨a', c', e, hl, _⟩ := ou.vw; cases e; exact hl)
  have HE := Lib.hid hE
  have HU := Lib.hid hU
  have B1 := Lib.hid b1
  clear ow hE ou hU b1
  obtain ⟨z, hz⟩ : ∃ z, mayO L U x m = z := ⟨_, rfl⟩
  have HZ := Lib.hid hz
  obtain ⟨q, hq⟩ : ∃ q, spsOk L = q := ⟨_, rfl⟩
  have HQ := Lib.hid hq
  clear hz hq
  have hqq : (q != q) = false := by simp
  go_wp2_with fail
  refine (implMay_is E1.out HE.out V1.out hUl HZ.out).mono ?_
  rintro e w2 ⟨rfl, b2⟩
  have B2 := Lib.hid (B1.out.trans (b2.mono B1.out.size))
  have E2 := Lib.hid (E1.out.below b2)
  have V2 := Lib.hid (V1.out.below b2)
  clear b2 E1 V1 B1
  go_wp2_with fail
  refine (specMay_is E2.out HE.out hn V2.out hUl HZ.out).mono ?_
  rintro e w3 ⟨rfl, b3⟩
  have B3 := Lib.hid (B2.out.trans (b3.mono B2.out.size))
  have E3 := Lib.hid (E2.out.below b3)
  have V3 := Lib.hid (V2.out.below b3)
  clear b3 E2 V2 B2
  go_wp2_with fail
  refine (implSps_is E3.out HE.out HQ.out).mono ?_
  rintro e w4 ⟨rfl, b4⟩
  have B4 := Lib.hid (B3.out.trans (b4.mono B3.out.size))
  have E4 := Lib.hid (E3.out.below b4)
  have V4 := Lib.hid (V3.out.below b4)
  clear b4 E3 V3 B3
  go_wp2_with fail
  refine (specSpaces_is E4.out HE.out.ok (by omega) HQ.out cb).mono ?_
  rintro e w5 ⟨rfl, b5⟩
  have B5 := Lib.hid (B4.out.trans (b5.mono B4.out.size))
  have E5 := Lib.hid (E4.out.below b5)
  have V5 := Lib.hid (V4.out.below b5)
  clear b5 E4 V4 B4
  obtain ⟨X, hX⟩ : ∃ X, addO L U x m = X := ⟨_, rfl⟩
  have HX := Lib.hid hX
  clear hX
  go_wp2_with fail
  refine (implAdd_is E5.out HE.out V5.out HU.out hUl HX.out).mono ?_
  rintro e w6 ⟨v6, rfl, o6, b6⟩
  obtain ⟨bx, cx, rfl, -, -⟩ := id o6
  have B6 := Lib.hid (B5.out.trans (b6.mono B5.out.size))
  have E6 := Lib.hid (E5.out.below b6)
  have X6 := Lib.hid (show ElS 2 encUse w6 bx X by obtain ⟨a', c', e, hl, _⟩ := o6.vw; cases e; exact hl)
  clear b6 E5 V5 B5 o6
  by_cases h0 : X = []
  · have h0b : ((X.length : Int) == 0) = true := by rw [h0]; rfl
    clear h0
    go_wp2_with fail
    go_ret
    exact ⟨rfl, B6.out⟩
  have HA := Lib.hid (show addOk L U x m = true from addO_ne (by rw [HX.out]; exact h0))
  have hXl : X.length = L.length := by rw [← HX.out, addO_len HA.out]; exact hUl
  have hXp : 0 < X.length := List.length_pos_iff.2 h0
  have hLp : 0 < L.length := by omega
  have h0b : ((L.length : Int) == 0) = false := by rw [beq_eq_false_iff_ne]; omega
  have hLn : ¬ L.length = 0 := by omega
  have hLe : ¬ L = [] := List.length_pos_iff.1 hLp
  have hqt : q = true := HQ.out.symm.trans (addOk_parts HA.out).1
  subst hqt
  clear h0
  go_wp2_with fail
  refine (specSpaces_is E6.out HE.out.ok (by omega) HQ.out cb).mono ?_
  rintro e w7 ⟨rfl, b7⟩
  have B7 := Lib.hid (B6.out.trans (b7.mono B6.out.size))
  have E7 := Lib.hid (E6.out.below b7)
  have X7 := Lib.hid (X6.out.below b7)
  clear b7 E6 X6 B6
  by_cases hm : m < 0
  · go_wp2_with fail
    go_ret
    exact ⟨rfl, B7.out⟩
  have hm0 : 0 ≤ m := by omega
  obtain ⟨R, hR⟩ : ∃ R, upO L x = R := ⟨_, rfl⟩
  have HR := Lib.hid hR
  have hRn : R.length ≤ 8 := by rw [← hR]; exact upO_len9 L x
  have HRS := Lib.hid (show ∀ x ∈ R, x.size ≤ maxLen by rw [← hR]; exact upO_sz HE.out.ok x)
  have HEX := Lib.hid (show ∀ (i : Nat) (hi : i < R.length) (k : Nat) (hk : k < L.length) (hx : k < X.length), L[k].1 = R[i] → exN L U m R[i] = (decide (0 ≤ L[k].2.2.1) && decide (L[k].2.2.1 < X[k].2)) from by
    have hx := HX.out
    subst hx; subst hR
    exact fun i hi k hk hx hn => may_ex HA.out hi hk hx hn)
  have HHI := Lib.hid (show ∀ (i : Nat) (hi : i < R.length), exN L U m R[i] = true → (∀ j, j < i → ∀ (hj : j < R.length), exN L U m R[j] = false) → z = R[i] from by
    have hz := HZ.out
    subst hR; subst hz
    exact fun i hi he hb => may_hit HA.out hm0 hi he hb)
  have HMI := Lib.hid (show R ≠ [] → (∀ j (hj : j < R.length), exN L U m R[j] = false) → z = ⟨#[]⟩ from by
    have hz := HZ.out
    subst hR; subst hz
    exact fun h0 hb => may_miss HA.out hm0 h0 hb)
  have HSO := Lib.hid (show ∀ (i : Nat) (hi : i < R.length), ∃ k, ∃ hk : k < L.length, L[k].1 = R[i] from by
    subst hR
    exact fun i hi => upO_some hi)
  clear hR
  go_wp2_with fail
  refine (implSpaceUp_any _ _ L x _ E7.out HE.out.ok).mono ?_
  rintro e w8 ⟨v8, rfl, o8, b8⟩
  rw [HR.out] at o8
  obtain ⟨a8, c8, rfl⟩ := own_shpU o8
  have B8 := Lib.hid (B7.out.trans (b8.mono B7.out.size))
  have E8 := Lib.hid (E7.out.below b8)
  have X8 := Lib.hid (X7.out.below b8)
  have S8 := Lib.hid (own_str (by unfold maxLen; omega) HRS.out o8)
  clear o8 b8 E7 X7 B7
  go_wp2_with fail
  go_loopw [10, 11] (fun i _ wr => ∃ k : Nat, k ≤ R.length ∧ i = .int .i64 k ∧ (∀ j, j < k → ∀ (hj : j < R.length), exN L U m R[j] = false) ∧ Below w8.heap.size w8 wr) (fun i _ _ => R.length - (intOf i).toNat)
  case atStart => exact ⟨0, Nat.zero_le _, rfl, fun j hj => absurd hj (Nat.not_lt_zero _), Below.refl _ _⟩
  case round =>
    obtain ⟨i, hi, rfl, hno, hbel⟩ := hrel
    have HNO := Lib.hid hno
    have HB := Lib.hid hbel
    clear hno hbel
    by_cases hlt : i < R.length
    · have hd : decide (i < R.length) = true := decide_eq_true hlt
      go_wp2_with fail
      go_loopw [11] (fun kk wr' => ∃ k : Nat, k ≤ L.length ∧ kk = .int .i64 k ∧ (∀ j, j < k → ∀ (hj : j < L.length), L[j].1 = R[i] → exN L U m R[i] = false) ∧ Below w8.heap.size w8 wr') (fun kk _ => L.length - (intOf kk).toNat)
      case atStart => exact ⟨0, Nat.zero_le _, rfl, fun j hj => absurd hj (Nat.not_lt_zero _), HB.out⟩
      case round =>
        obtain ⟨k, hk, rfl, hno2, hbel2⟩ := hrel
        have HN2 := Lib.hid hno2
        have HB2 := Lib.hid hbel2
        have E9 := Lib.hid (E8.out.below hbel2)
        have X9 := Lib.hid (X8.out.below hbel2)
        have S9 := Lib.hid (S8.out.below hbel2)
        have B9 := Lib.hid (B8.out.trans (hbel2.mono B8.out.size))
        clear hno2 hbel2
        by_cases hlt2 : k < L.length
        · have hkX : k < X.length := by omega
          have hd2 : decide (k < L.length) = true := decide_eq_true hlt2
          obtain ⟨bb, ob, rfl, hcb⟩ := E9.out.2.resolve_left (fun e => by rw [e] at hlt2; simp at hlt2)
          obtain ⟨c0, -, c2, -, -⟩ := cellsSpace (Below.refl _ _) hcb k hlt2
          obtain ⟨bd, od, rfl, hcd⟩ := X9.out.2.resolve_left (fun e => by rw [e] at hkX; simp at hkX)
          obtain ⟨-, d1⟩ := cellsUse (Below.refl _ _) hcd k hkX
          obtain ⟨bs, os, rfl, hcs⟩ := S9.out.2.2.resolve_left (fun e => by rw [e] at hlt; simp at hlt)
          have s0 := hcs i hlt
          have hkXi : (k : Int) < (X.length : Int) := by omega
          have hex := HEX.out i hlt k hlt2 hkX
          clear hcb hcd hcs
          by_cases hnm : L[k].1 = R[i]
          · have q1 : (L[k].1.toList == R[i].toList) = true := strNe hnm
            have hex := hex hnm
            by_cases hlm : 0 ≤ L[k].2.2.1
            · by_cases hgt : L[k].2.2.1 < X[k].2
              · have hzr : z = R[i] := HHI.out i hlt (by rw [hex, decide_eq_true hlm, decide_eq_true hgt]; rfl) HNO.out
                subst hzr
                go_wp2_with fail
                go_quiet (fail)
                go_wp2_with fail
                go_ret
                exact ⟨by simp, B9.out.trans (below_drewN (Below.refl _ _) _)⟩
              · have hex2 : exN L U m R[i] = false := by rw [hex, decide_eq_false hgt, Bool.and_false]
                have hgt2 : decide (L[k].2.2.1 < X[k].2) = false := decide_eq_false hgt
                have hgt3 : X[k].2 ≤ L[k].2.2.1 := by omega
                go_wp2_with fail
                go_quiet (fail)
                go_wp2_with fail
                go_roundw
                case rel => exact ⟨k + 1, by omega, by go_num, fun j hj hjl hjn => (by by_cases e : j < k; exact HN2.out j e hjl hjn; obtain rfl : j = k := (by omega); exact hex2), HB2.out.trans (below_drewN (Below.refl _ _) _)⟩
                case measure => simp [intOf]; omega
            · have hex2 : exN L U m R[i] = false := by rw [hex, decide_eq_false hlm, Bool.false_and]
              have hlm2 : decide (0 ≤ L[k].2.2.1) = false := decide_eq_false hlm
              have hlm3 : L[k].2.2.1 < 0 := by omega
              go_wp2_with fail
              go_quiet (fail)
              go_wp2_with fail
              go_roundw
              case rel => exact ⟨k + 1, by omega, by go_num, fun j hj hjl hjn => (by by_cases e : j < k; exact HN2.out j e hjl hjn; obtain rfl : j = k := (by omega); exact hex2), HB2.out.trans (below_drewN (Below.refl _ _) _)⟩
              case measure => simp [intOf]; omega
          · have q1 : (L[k].1.toList == R[i].toList) = false := toList_no hnm
            go_wp2_with fail
            go_quiet (fail)
            go_wp2_with fail
            go_roundw
            case rel => exact ⟨k + 1, by omega, by go_num, fun j hj hjl hjn => (by by_cases e : j < k; exact HN2.out j e hjl hjn; obtain rfl : j = k := (by omega); exact absurd hjn hnm), HB2.out.trans (below_drewN (Below.refl _ _) _)⟩
            case measure => simp [intOf]; omega
        · have hd2 : decide (k < L.length) = false := decide_eq_false hlt2
          go_wp2_with fail
          go_roundw
          case rel =>
            refine ⟨i + 1, by omega, by go_num, fun j hj hjl => ?_, HB2.out⟩
            by_cases e : j < i
            · exact HNO.out j e hjl
            · obtain rfl : j = i := by omega
              obtain ⟨k0, hk0, he0⟩ := HSO.out j hlt
              exact HN2.out k0 (by omega) hk0 he0
          case measure => simp [intOf]; omega
    · have hd : decide (i < R.length) = false := decide_eq_false hlt
      by_cases hR0 : R = []
      · have hr0 : ((R.length : Int) == 0) = true := by rw [hR0]; rfl
        have hr1 : R.length = 0 := by rw [hR0]; rfl
        by_cases hz : z = ⟨#[]⟩
        · subst hz
          go_wp2_with fail
          go_ret
          exact ⟨rfl, B8.out.trans (HB.out.mono B8.out.size)⟩
        · have hz1 : z.toList.isEmpty = false := isEmpty_no hz
          have hz2 : ¬ z.toList = [] := List.isEmpty_eq_false_iff.1 hz1
          go_wp2_with fail
          go_ret
          exact ⟨rfl, B8.out.trans (HB.out.mono B8.out.size)⟩
      · have hz : z = ⟨#[]⟩ := HMI.out hR0 (fun j hj => HNO.out j (by omega) hj)
        subst hz
        go_wp2_with fail
        go_ret
        exact ⟨rfl, B8.out.trans (HB.out.mono B8.out.size)⟩
end Go.Proofs.Ytlaehhdbagiciab
