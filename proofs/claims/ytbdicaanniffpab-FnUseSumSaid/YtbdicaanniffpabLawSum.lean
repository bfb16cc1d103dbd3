import Derived.Test.YtbdicaanniffpabDrawUseSum
import Derived.Test.YtbdicaanniffpabUseSumP
import Derived.Test.YtbdicaanniffpabLawCost
/- The walk of FnUseSum. -/
namespace Go.Proofs.Ytbdicaanniffpab
open Go Go.RowKit

theorem eqN_no {x y : ByteArray} (e : ¬ x = y) : (x.toList == y.toList) = false := by
  rw [beq_eq_false_iff_ne]
  intro h
  rw [ByteArray.toList_eq, ByteArray.toList_eq] at h
  exact e (by cases x; cases y; simpa [Array.toList_inj] using h)
theorem eqN_yes {x y : ByteArray} (e : x = y) : (x.toList == y.toList) = true := by rw [e]; simp
/-- drawn spaces and things, read only -/
def SumIn (w : World) (b : Option Addr) (L : List SpaceD) (bt : Option Addr) (xs : List ThX) : Prop := (ElS 5 encSpace w b L ∧ (∀ x ∈ L, OkSpace x)) ∧ ElS 7 encT w bt xs ∧ (∀ x ∈ xs, ThIn w x.1 x.2.1 x.2.2.marks) ∧ (∀ x ∈ xs, AnyTh x.2.2)
theorem SumIn.below {w w' : World} {b bt : Option Addr} {L : List SpaceD} {xs : List ThX} (h : SumIn w b L bt xs) (hb : Below w.heap.size w w') : SumIn w' b L bt xs :=
  ⟨⟨h.1.1.below hb, h.1.2⟩, h.2.1.below hb, fun x hx => (h.2.2.1 x hx).below hb, h.2.2.2⟩
theorem anyTh_okT {t : ThingD} (h : AnyTh t) : OkThing t := okTh t h.1 h.2.1 (by have := h.2.2.1; omega)
theorem sum_zero_le {α : Type} (f : α → Nat) (c : Nat) : ∀ (l : List α), (∀ x ∈ l, f x ≤ c) → (l.map f).sum ≤ l.length * c
  | [], _ => by simp
  | x :: l, h => by
    have h1 := sum_zero_le f c l (fun y hy => h y (List.mem_cons_of_mem _ hy))
    have h2 := h x List.mem_cons_self
    rw [List.map_cons, List.sum_cons, List.length_cons, Nat.add_mul]
    omega
theorem sumSize_max : ∀ (ms : List ByteArray), (∀ s ∈ ms, s.size ≤ 24) → sumSize ms ≤ ms.length * 24
  | [], _ => by simp [sumSize]
  | x :: ms, h => by
    have h1 := sumSize_max ms (fun y hy => h y (List.mem_cons_of_mem _ hy))
    have h2 := h x List.mem_cons_self
    have e : sumSize (x :: ms) = x.size + sumSize ms := by simp [sumSize]
    rw [e, List.length_cons, Nat.add_mul]
    omega
theorem marks_bulk {ms : List ByteArray} (h : ∀ s ∈ ms, s.size ≤ 24) (hl : ms.length ≤ 3) : bulkS ms ≤ 100 := by
  unfold bulkS
  have h1 := sumSize_max ms h
  omega
theorem ths_bulk {xs : List ThX} (h : ∀ x ∈ xs, AnyTh x.2.2) (hl : xs.length ≤ 6) : (bulkThingS (thsOf xs) : Int) ≤ 1048576 := by
  have h1 : ∀ t ∈ thsOf xs, bulkThing t ≤ 220 := fun t ht => by
    obtain ⟨x, hx, rfl⟩ := List.mem_map.1 ht
    have h2 := h x hx
    have h3 := marks_bulk h2.2.2.2.1 h2.2.2.2.2
    obtain ⟨a1, a2, a3, -, -⟩ := h2
    unfold bulkThing
    omega
  have h4 := sumTo_max bulkThing (thsOf xs) 220 h1 (thsOf xs).length
  have h5 := thsOf_len xs
  have h6 : (thsOf xs).length * 220 ≤ 1320 := by omega
  unfold bulkThingS
  omega
theorem useA_le {l : List SpaceD} {xs : List ThX} (h : ∀ x ∈ xs, AnyTh x.2.2) (hl : xs.length ≤ 6) (s : ByteArray) : useA l (thsOf xs) s ≤ 400 := by
  unfold useA
  split
  · have h1 := sumTo_max (addsN l s) (thsOf xs) 65 (fun t ht => by
      obtain ⟨x, hx, rfl⟩ := List.mem_map.1 ht
      have h2 := (h x hx).2.2.1
      unfold addsN
      split <;> omega) (thsOf xs).length
    have h5 := thsOf_len xs
    have h6 : (thsOf xs).length * 65 ≤ 390 := by omega
    omega
  · omega
theorem implSum_is {b bt : Option Addr} {cb ct : Nat} {L : List SpaceD} {xs : List ThX} {w : World} (h : SumIn w b L bt xs) (hl : xs.length ≤ 6) (nm : ByteArray) {n : Nat} (hn : useA L (thsOf xs) nm = n) :
    Calls Try.prog 14 #[.slice b L.length cb, .slice bt xs.length ct, .string nm] w fun e w' => e = .returned (.int .i64 (n : Int)) ∧ Below w.heap.size w w' := by
  subst hn
  have := implUseSum_c (v0 := .slice b L.length cb) (v1 := .slice bt xs.length ct) (l := L) (ths := thsOf xs) nm (w := w) ⟨b, cb, rfl, h.1.1, h.1.2⟩ ⟨bt, ct, xs, rfl, h.2.1, rfl, fun x hx => ⟨(h.2.2.1 x hx).1, anyTh_okT (h.2.2.2 x hx)⟩, fun x hx => (h.2.2.1 x hx).2.2⟩ (ths_bulk h.2.2.2 hl)
  rwa [useA_eq] at this
theorem specSum_is {b bt : Option Addr} {cb ct : Nat} {L : List SpaceD} {xs : List ThX} {w : World} (h : SumIn w b L bt xs) (hl : xs.length ≤ 6) (hb : (bulkSpaceS L : Int) ≤ 1048576) (nm : ByteArray) {n : Nat} (hn : useA L (thsOf xs) nm = n) :
    Calls Try.prog 15 #[.slice b L.length cb, .slice bt xs.length ct, .string nm] w fun e w' => e = .returned (.int .i64 (n : Int)) ∧ Below w.heap.size w w' := by
  subst hn
  have := specUseSum_c (v0 := .slice b L.length cb) (v1 := .slice bt xs.length ct) (l := L) (ths := thsOf xs) nm (w := w) ⟨b, cb, rfl, h.1.1, h.1.2⟩ ⟨bt, ct, xs, rfl, h.2.1, rfl, fun x hx => ⟨(h.2.2.1 x hx).1, anyTh_okT (h.2.2.2 x hx)⟩⟩ hb (ths_bulk h.2.2.2 hl)
  rwa [useA_eq] at this
theorem implSpsQ {b : Option Addr} {cb : Nat} {L : List SpaceD} {w : World} (hl : ElS 5 encSpace w b L) (hE : ∀ x ∈ L, OkSpace x) {q : Bool} (hq : spsOk L = q) :
    Calls Try.prog 16 #[.slice b L.length cb] w fun e w' => e = .returned (.bool q) ∧ Below w.heap.size w w' := by
  subst hq
  exact implSpaces_any b cb L w hl hE
theorem sps_bulk {L : List SpaceD} (h : AnySp L) (hl : L.length ≤ 7) : (bulkSpaceS L : Int) ≤ 1048576 := by
  have h1 := sumTo_max bulkSpace L 6000 (fun x hx => by have := h x hx; unfold bulkSpace; omega) L.length
  have h2 : L.length * 6000 ≤ 42000 := by omega
  unfold bulkSpaceS
  omega
/-- a space of that name is among the first ones -/
def thereK (L : List SpaceD) (nm : ByteArray) (k : Nat) : Bool := (L.take k).any (named nm)
theorem thereK_zero (L : List SpaceD) (nm : ByteArray) : thereK L nm 0 = false := by simp [thereK]
theorem thereK_succ {L : List SpaceD} {nm : ByteArray} {k : Nat} (h : k < L.length) : thereK L nm (k + 1) = (thereK L nm k || decide (L[k].1 = nm)) := by
  unfold thereK
  rw [List.take_succ_eq_append_getElem h, List.any_append]
  simp [named]
theorem thereK_all {L : List SpaceD} {nm : ByteArray} {k : Nat} (h : L.length ≤ k) : thereK L nm k = (idxS L nm).isSome := by
  unfold thereK idxS
  rw [List.take_of_length_le h, List.findIdx?_isSome]

set_option maxRecDepth 100000 in
set_option maxHeartbeats 4000000 in
theorem fnUseSumWalk (a : Option Addr) (c : Nat) (l : List UInt8) {w : World} (hl : l.length ≤ c) (hc : c ≤ maxLen) (h : BytesS w a l) :
    Calls Try.prog 4 #[.slice a l.length c] w fun e w' => e = .returned (.bool true) ∧ Below w.heap.size w w' := by
  have hcl := hc
  unfold maxLen at hcl
  by_cases hb : (1048576 : Int) < (l.length : Int)
  · go_enter Try.func4, Try.ntmps4
    go_wp2
    go_ret
    exact ⟨rfl, Below.refl _ _⟩
  have hb1 : (l.length : Int) ≤ 1048576 := by omega
  clear hb
  go_enter Try.func4, Try.ntmps4
  go_wp2_with fail
  refine (drawUseSum_any a c l _ hl hc h).mono ?_
  rintro e w1 ⟨b, cb, L, bt, ct, xs, nm, rfl, hL, hE, hnL, hX, hG, hnx, hnm, hne, b1⟩
  have HIN := Lib.hid (show SumIn w1 b L bt xs from ⟨⟨hL, hE.ok⟩, hX, fun x hx => thIn_of (hG x hx).1 (hG x hx).2.2.2.2.1 (hG x hx).2.2.2.2.2, fun x hx => (hG x hx).2⟩)
  have HBK := Lib.hid (sps_bulk hE hnL)
  have HLE := Lib.hid (show ∀ s, useA L (thsOf xs) s ≤ 400 from fun s => useA_le (fun x hx => (hG x hx).2) hnx s)
  have HAT := Lib.hid (show ∀ x ∈ xs, AnyTh x.2.2 from fun x hx => (hG x hx).2)
  have HNE := Lib.hid hne
  have HB1 := Lib.hid b1
  have z1 := b1.size
  clear hL hE hX hG hne b1
  obtain ⟨n, hn⟩ : ∃ n, useA L (thsOf xs) nm = n := ⟨_, rfl⟩
  have HN := Lib.hid hn
  have hn4 : n ≤ 400 := by rw [← hn]; exact HLE.out nm
  obtain ⟨q, hq⟩ : ∃ q, spsOk L = q := ⟨_, rfl⟩
  have HQ := Lib.hid hq
  clear hn hq
  go_wp2_with fail
  refine (implSum_is HIN.out hnx nm HN.out).mono ?_
  rintro e w2 ⟨rfl, b2⟩
  have z2 := b2.size
  have HB2 := Lib.hid b2
  clear b2
  go_wp2_with fail
  refine (specSum_is (HIN.out.below HB2.out) hnx HBK.out nm HN.out).mono ?_
  rintro e w3 ⟨rfl, b3⟩
  have HB3 := Lib.hid (HB2.out.trans (b3.mono z2))
  have z3 := b3.size
  clear b3 HB2
  go_wp2_with fail
  refine (implSpsQ (HIN.out.below HB3.out).1.1 HIN.out.1.2 HQ.out).mono ?_
  rintro e w4 ⟨rfl, b4⟩
  have HB4 := Lib.hid (HB3.out.trans (b4.mono (by omega)))
  have z4 := b4.size
  clear b4 HB3
  go_wp2_with fail
  refine (specSpaces_is (HIN.out.below HB4.out).1.1 HIN.out.1.2 (by omega) HQ.out cb).mono ?_
  rintro e w5 ⟨rfl, b5⟩
  have HB5 := Lib.hid (HB4.out.trans (b5.mono (by omega)))
  have z5 := b5.size
  clear b5 HB4
  cases q with
  | false =>
    go_wp2_with fail
    refine (specSpaces_is (HIN.out.below HB5.out).1.1 HIN.out.1.2 (by omega) HQ.out cb).mono ?_
    rintro e w6 ⟨rfl, b6⟩
    have HB6 := Lib.hid (HB5.out.trans (b6.mono (by omega)))
    have z6 := b6.size
    clear b6 HB5
    go_wp2_with fail
    refine (specSum_is (HIN.out.below HB6.out) hnx HBK.out nm HN.out).mono ?_
    rintro e w7 ⟨rfl, b7⟩
    have HB7 := Lib.hid (HB6.out.trans (b7.mono (by omega)))
    have z7 := b7.size
    clear b7 HB6
    go_wp2_with fail
    refine (implSpsQ (HIN.out.below HB7.out).1.1 HIN.out.1.2 HQ.out).mono ?_
    rintro e w8 ⟨rfl, b8⟩
    have HB8 := Lib.hid (HB7.out.trans (b8.mono (by omega)))
    have z8 := b8.size
    clear b8 HB7
    go_wp2_with fail
    refine (specSpaces_is (HIN.out.below HB8.out).1.1 HIN.out.1.2 (by omega) HQ.out cb).mono ?_
    rintro e w9 ⟨rfl, b9⟩
    have HB9 := Lib.hid (HB8.out.trans (b9.mono (by omega)))
    clear b9 HB8
    go_wp2
    go_ret
    exact ⟨rfl, HB1.out.trans (HB9.out.mono z1)⟩
  | true =>
    go_wp2_with fail
    refine (specSpaces_is (HIN.out.below HB5.out).1.1 HIN.out.1.2 (by omega) HQ.out cb).mono ?_
    rintro e w6 ⟨rfl, b6⟩
    have HB6 := Lib.hid (HB5.out.trans (b6.mono (by omega)))
    have z6 := b6.size
    clear b6 HB5
    have HKB := Lib.hid (show ∀ k, k ≤ L.length → sumTo (kidN (useA L (thsOf xs)) nm) L k ≤ 2800 from fun k hk => by
      have h1 := sumTo_max (kidN (useA L (thsOf xs)) nm) L 400 (fun s _ => by unfold kidN; split; exact HLE.out _; omega) k
      have h2 : k * 400 ≤ 2800 := by omega
      omega)
    have HOB := Lib.hid (show ∀ k, k ≤ xs.length → sumTo (ownN L nm) (thsOf xs) k ≤ 400 from fun k hk => by
      have h1 := sumTo_max (ownN L nm) (thsOf xs) 65 (fun t ht => by
        obtain ⟨x, hx, rfl⟩ := List.mem_map.1 ht
        have h2 := (HAT.out x hx).2.2.1
        unfold ownN ownC
        split <;> omega) k
      have h2 : k * 65 ≤ 390 := by omega
      omega)
    go_wp2_with fail
    go_loopw [7, 8] (fun v7 v8 wr => ∃ k : Nat, k ≤ L.length ∧ v8 = .int .i64 k ∧ v7 = .int .i64 (sumTo (kidN (useA L (thsOf xs)) nm) L k : Nat) ∧ Below w1.heap.size w1 wr) (fun _ v8 _ => L.length - (intOf v8).toNat)
    case atStart => exact ⟨0, Nat.zero_le _, rfl, by rw [sumTo_zero]; rfl, HB6.out⟩
    case round =>
      obtain ⟨k, hk, rfl, rfl, hbel⟩ := hrel
      have HB := Lib.hid hbel
      have zb := hbel.size
      have hk1 := HKB.out k hk
      by_cases hlt : k < L.length
      · obtain ⟨bb, ob, rfl, hcb⟩ := HIN.out.1.1.2.resolve_left (fun e => by rw [e] at hlt; simp at hlt)
        obtain ⟨c0, c1, -, -, -⟩ := cellsSpace hbel hcb k hlt
        have hk2 := HKB.out (k + 1) hlt
        have HS := Lib.hid (sumTo_succ (kidN (useA L (thsOf xs)) nm) L k hlt)
        clear hcb hbel
        by_cases e : L[k].2.1 = nm
        · have q1 := eqN_yes e
          have HS2 := Lib.hid (show sumTo (kidN (useA L (thsOf xs)) nm) L (k + 1) = sumTo (kidN (useA L (thsOf xs)) nm) L k + useA L (thsOf xs) L[k].1 by rw [HS.out]; unfold kidN; rw [if_pos e])
          rw [HS2.out] at hk2
          obtain ⟨m, hm⟩ : ∃ m, useA L (thsOf xs) L[k].1 = m := ⟨_, rfl⟩
          have HM := Lib.hid hm
          rw [hm] at hk2
          clear e hm
          go_wp2_with (go_at_call 14; refine (implSum_is (HIN.out.below HB.out) hnx L[k].1 HM.out).mono ?_; rintro e w7 ⟨rfl, b7⟩)
          go_roundw
          case rel => exact ⟨k + 1, by omega, by go_num, by rw [HS2.out, HM.out]; go_num, HB.out.trans (b7.mono (by omega))⟩
          case measure => simp [intOf]; omega
        · have q1 := eqN_no e
          have HS2 := Lib.hid (show sumTo (kidN (useA L (thsOf xs)) nm) L (k + 1) = sumTo (kidN (useA L (thsOf xs)) nm) L k by rw [HS.out]; unfold kidN; rw [if_neg e]; rfl)
          clear e
          go_wp2
          go_roundw
          case rel => exact ⟨k + 1, by omega, by go_num, by rw [HS2.out], HB.out⟩
          case measure => simp [intOf]; omega
      · obtain rfl : k = L.length := by omega
        obtain ⟨S, hS⟩ : ∃ S, sumTo (kidN (useA L (thsOf xs)) nm) L L.length = S := ⟨_, rfl⟩
        have HSS := Lib.hid hS
        rw [hS] at hk1 ⊢
        clear hS hlt hbel hk
        go_wp2_with fail
        go_loopw [9, 10] (fun v9 v10 wr => ∃ k : Nat, k ≤ L.length ∧ v10 = .int .i64 k ∧ v9 = .bool (thereK L nm k) ∧ Below w1.heap.size w1 wr) (fun _ v10 _ => L.length - (intOf v10).toNat)
        case atStart => exact ⟨0, Nat.zero_le _, rfl, by rw [thereK_zero], HB.out⟩
        case round =>
          obtain ⟨k, hk, rfl, rfl, hbel⟩ := hrel
          have HB := Lib.hid hbel
          have zb := hbel.size
          obtain ⟨th, hth⟩ : ∃ th, thereK L nm k = th := ⟨_, rfl⟩
          have HTH := Lib.hid hth
          rw [hth]
          by_cases hlt : k < L.length
          · obtain ⟨bb, ob, rfl, hcb⟩ := HIN.out.1.1.2.resolve_left (fun e => by rw [e] at hlt; simp at hlt)
            obtain ⟨c0, c1, -, -, -⟩ := cellsSpace hbel hcb k hlt
            have HS := Lib.hid (show thereK L nm (k + 1) = (th || decide (L[k].1 = nm)) by rw [thereK_succ hlt, hth])
            clear hcb hbel hth
            cases th with
            | true =>
              go_wp2
              go_roundw
              case rel => exact ⟨k + 1, by omega, by go_num, by rw [HS.out, Bool.true_or], HB.out⟩
              case measure => simp [intOf]; omega
            | false =>
              by_cases e : L[k].1 = nm
              · have q1 := eqN_yes e
                have HS2 := Lib.hid (show thereK L nm (k + 1) = true by rw [HS.out, decide_eq_true e]; rfl)
                clear e
                go_wp2
                go_roundw
                case rel => exact ⟨k + 1, by omega, by go_num, by rw [HS2.out], HB.out⟩
                case measure => simp [intOf]; omega
              · have q1 := eqN_no e
                have HS2 := Lib.hid (show thereK L nm (k + 1) = false by rw [HS.out, decide_eq_false e]; rfl)
                clear e
                go_wp2
                go_roundw
                case rel => exact ⟨k + 1, by omega, by go_num, by rw [HS2.out], HB.out⟩
                case measure => simp [intOf]; omega
          · have HTA := Lib.hid (show (idxS L nm).isSome = th by rw [← hth, thereK_all (by omega)])
            clear hth hbel
            go_wp2_with fail
            clear hlt
            go_loopw [7, 11] (fun v7 v11 wr => ∃ k : Nat, k ≤ xs.length ∧ v11 = .int .i64 k ∧ v7 = .int .i64 ((S + sumTo (ownN L nm) (thsOf xs) k : Nat) : Int) ∧ (∀ j (hj : j < xs.length), j < k → thingB xs[j].2.2 = true) ∧ Below w1.heap.size w1 wr) (fun _ v11 _ => xs.length - (intOf v11).toNat)
            case atStart => exact ⟨0, Nat.zero_le _, rfl, by rw [sumTo_zero]; rfl, fun j hj h => absurd h (Nat.not_lt_zero _), HB.out⟩
            case round =>
              obtain ⟨k, hk, rfl, rfl, hto, hbel⟩ := hrel
              have HTO := Lib.hid hto
              have HB := Lib.hid hbel
              have zb := hbel.size
              have hk1 := HOB.out k hk
              clear hto
              by_cases hlt : k < xs.length
              · obtain ⟨bb, ob, rfl, hcb⟩ := HIN.out.2.1.2.resolve_left (fun e => by rw [e] at hlt; simp at hlt)
                obtain ⟨c0, c1, c2, c3, c4, c5, c6⟩ := cellsThing hbel hcb k hlt
                have HTI := Lib.hid ((HIN.out.2.2.1 _ (List.getElem_mem hlt)).below hbel)
                have HAK := HAT.out _ (List.getElem_mem hlt)
                obtain ⟨t1, t2, t3, -, -⟩ := HAK
                have t3' : xs[k].2.2.body.size ≤ 70 := by omega
                have hk2 := HOB.out (k + 1) hlt
                have HCB := Lib.hid hcb
                have HS := Lib.hid (show sumTo (ownN L nm) (thsOf xs) (k + 1) = sumTo (ownN L nm) (thsOf xs) k + ownN L nm xs[k].2.2 by rw [sumTo_succ _ _ k (by rw [thsOf_len]; exact hlt), thsOf_get xs k hlt])
                clear hcb hbel
                cases hq : thingB xs[k].2.2 with
                | false =>
                  have HQ2 := Lib.hid hq
                  have hn0 : n = 0 := by
                    rw [← HN.out]
                    unfold useA
                    rw [allT_no (k := k) (by rw [thsOf_len]; exact hlt) (by rw [thsOf_get xs k hlt]; exact hq)]
                    simp
                  subst hn0
                  clear hq
                  go_wp2_with (go_at_call 10; refine (implTh_is HQ2.out t1 t2 t3' _ HTI.out).mono ?_; rintro e w7 ⟨rfl, b7⟩)
                  go_ret
                  exact ⟨rfl, HB1.out.trans ((HB.out.trans (b7.mono (by omega))).mono z1)⟩
                | true =>
                  have HQ2 := Lib.hid hq
                  have HTN := Lib.hid (show ∀ j (hj : j < xs.length), j < k + 1 → thingB xs[j].2.2 = true from fun j hj hjk => by
                    by_cases e : j < k
                    · exact HTO.out j hj e
                    · obtain rfl : j = k := by omega
                      exact hq)
                  have HC := Lib.hid (costN_ok hq)
                  clear hq
                  by_cases e : xs[k].2.2.sp = nm
                  · have q1 := eqN_yes e
                    cases th with
                    | true =>
                      have HS2 := Lib.hid (show sumTo (ownN L nm) (thsOf xs) (k + 1) = sumTo (ownN L nm) (thsOf xs) k + (1 + xs[k].2.2.body.size) by rw [HS.out]; unfold ownN ownC; rw [if_pos ⟨e, HTA.out⟩])
                      rw [HS2.out] at hk2
                      clear e
                      go_wp2_with (first
                        | (go_at_call 10; refine (implTh_is HQ2.out t1 t2 t3' _ HTI.out).mono ?_; rintro e w7 ⟨rfl, b7⟩; have B7 := HB.out.trans (b7.mono (by omega)); have HTI7 := Lib.hid (HTI.out.below b7); obtain ⟨d0, d1, d2, d3, d4, d5, d6⟩ := cellsThing B7 HCB.out k hlt)
                        | (go_at_call 8; refine (implCost_is HC.out t1 t2 t3' _ HTI7.out).mono ?_; rintro e w8 ⟨rfl, b8⟩; have B8 := B7.trans (b8.mono B7.size)))
                      go_roundw
                      case rel => exact ⟨k + 1, by omega, by go_num, by rw [HS2.out]; go_num, HTN.out, B8⟩
                      case measure => simp [intOf]; omega
                    | false =>
                      have HS2 := Lib.hid (show sumTo (ownN L nm) (thsOf xs) (k + 1) = sumTo (ownN L nm) (thsOf xs) k by rw [HS.out]; unfold ownN ownC; rw [if_neg (fun q => by rw [HTA.out] at q; cases q.2)]; rfl)
                      clear e
                      go_wp2_with (go_at_call 10; refine (implTh_is HQ2.out t1 t2 t3' _ HTI.out).mono ?_; rintro e w7 ⟨rfl, b7⟩; have B7 := HB.out.trans (b7.mono (by omega)); have HTI7 := Lib.hid (HTI.out.below b7); obtain ⟨d0, d1, d2, d3, d4, d5, d6⟩ := cellsThing B7 HCB.out k hlt)
                      go_roundw
                      case rel => exact ⟨k + 1, by omega, by go_num, by rw [HS2.out]; go_num, HTN.out, B7⟩
                      case measure => simp [intOf]; omega
                  · have q1 := eqN_no e
                    have HS2 := Lib.hid (show sumTo (ownN L nm) (thsOf xs) (k + 1) = sumTo (ownN L nm) (thsOf xs) k by rw [HS.out]; unfold ownN ownC; rw [if_neg (fun q => e q.1)]; rfl)
                    clear e
                    go_wp2_with (go_at_call 10; refine (implTh_is HQ2.out t1 t2 t3' _ HTI.out).mono ?_; rintro e w7 ⟨rfl, b7⟩; have B7 := HB.out.trans (b7.mono (by omega)); have HTI7 := Lib.hid (HTI.out.below b7); obtain ⟨d0, d1, d2, d3, d4, d5, d6⟩ := cellsThing B7 HCB.out k hlt)
                    go_roundw
                    case rel => exact ⟨k + 1, by omega, by go_num, by rw [HS2.out]; go_num, HTN.out, B7⟩
                    case measure => simp [intOf]; omega
              · have hall : (thsOf xs).all thingB = true := all_upto (k := k) (by rw [thsOf_len]; omega) (fun j hj hjk => by
                  rw [thsOf_get xs j (by rw [thsOf_len] at hj; exact hj)]
                  exact HTO.out j (by rw [thsOf_len] at hj; exact hj) hjk)
                have hfin : n = S + sumTo (ownN L nm) (thsOf xs) k := by
                  rw [← HN.out, use_split HQ.out HNE.out hall, HSS.out, sumTo_full _ _ k (by rw [thsOf_len]; omega)]
                subst hfin
                clear hall hbel
                go_wp2
                go_ret
                exact ⟨rfl, HB1.out.trans (HB.out.mono z1)⟩
end Go.Proofs.Ytbdicaanniffpab
