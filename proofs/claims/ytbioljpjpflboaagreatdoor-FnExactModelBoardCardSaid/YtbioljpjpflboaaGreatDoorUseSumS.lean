import Derived.Test.YtbioljpjpflboaaGreatDoorThs
import Derived.Test.YtbioljpjpflboaaGreatDoorKitSpaceS
import Derived.Test.YtbioljpjpflboaaGreatDoorSpaceInS
import Derived.Test.YtbioljpjpflboaaGreatDoorSpaceI
import Derived.Test.YtbioljpjpflboaaGreatDoorSpaceG
/- UseSum, of the model and of the program. -/
namespace Go.Proofs.YtbioljpjpflboaaGreatDoor
open Go Go.RowKit

/-- what a thing adds to what a space uses -/
def addsN (l : List SpaceD) (name : ByteArray) (t : ThingD) : Nat := if inSp l t.sp name then 1 + t.body.size else 0
def sumS (l : List SpaceD) (ths : List ThingD) (name : ByteArray) : Int := (sumTo (addsN l name) ths ths.length : Nat)
def useSum (l : List SpaceD) (ths : List ThingD) (name : ByteArray) : Int := if spsOk l && ths.all thingB then sumS l ths name else 0
theorem useSum_no {l : List SpaceD} {ths : List ThingD} {name : ByteArray} (h : (spsOk l && ths.all thingB) = false) : useSum l ths name = 0 := by unfold useSum; rw [h]; rfl
theorem useSum_yes {l : List SpaceD} {ths : List ThingD} {name : ByteArray} (h : (spsOk l && ths.all thingB) = true) : useSum l ths name = sumS l ths name := by unfold useSum; rw [h]; rfl
theorem adds_le (l : List SpaceD) (name : ByteArray) : ∀ (ths : List ThingD) (k : Nat), sumTo (addsN l name) ths k ≤ ths.length + sumTo bulkThing ths ths.length
  | [], k => by rw [sumTo_nil]; omega
  | t :: ths, 0 => by rw [sumTo_zero]; omega
  | t :: ths, k + 1 => by
    have ih := adds_le l name ths k
    have e1 : sumTo (addsN l name) (t :: ths) (k + 1) = addsN l name t + sumTo (addsN l name) ths k := by simp [sumTo]
    have e2 : sumTo bulkThing (t :: ths) (t :: ths).length = bulkThing t + sumTo bulkThing ths ths.length := by simp [sumTo]
    have e3 : addsN l name t ≤ 1 + bulkThing t := by unfold addsN bulkThing; split <;> omega
    rw [e1, e2]
    simp only [List.length_cons]
    omega
theorem sumTo_small {l : List SpaceD} {name : ByteArray} {ths : List ThingD} (h : (bulkThingS ths : Int) ≤ 1048576) (k : Nat) : (sumTo (addsN l name) ths k : Int) ≤ 1048576 := by
  have := adds_le l name ths k
  unfold bulkThingS at h
  omega
theorem allT_no {ths : List ThingD} {k : Nat} (hk : k < ths.length) (h : thingB ths[k] = false) : ths.all thingB = false := List.all_eq_false.2 ⟨_, List.getElem_mem hk, by rw [h]; simp⟩
theorem all_upto {ths : List ThingD} {k : Nat} (h : ths.length ≤ k) (ht : ∀ j (hj : j < ths.length), j < k → thingB ths[j] = true) : ths.all thingB = true := List.all_eq_true.2 fun x hx => by
  obtain ⟨j, hj, rfl⟩ := List.mem_iff_getElem.1 hx
  exact ht j hj (by omega)

set_option maxRecDepth 100000 in
set_option maxHeartbeats 2000000 in
theorem l8Sum_any (a b : Option Addr) (ca cb : Nat) (l : List SpaceD) (xs : List ThX) (name : ByteArray) (w : World) (hl : ElS 5 encSpace w a l) (hok : ∀ x ∈ l, OkSpace x) (hu : ElS 7 encT w b xs) (hxk : ∀ x ∈ xs, OkX w x) (hb : (bulkThingS (thsOf xs) : Int) ≤ 1048576) :
    Calls Tryz.prog 58 #[.slice a l.length ca, .slice b xs.length cb, .string name] w fun e w' => e = .returned (.int .i64 (sumS l (thsOf xs) name)) ∧ Below w.heap.size w w' := by
  obtain ⟨hu1, hu⟩ := hu
  unfold maxLen at hu1
  have hlen := bulkThingS_len hb
  have HLN := Lib.hid (thsOf_len xs)
  rw [thsOf_len] at hlen
  have HX := Lib.hid hl
  have HK := Lib.hid hok
  have HXK := Lib.hid hxk
  have HS := Lib.hid (show ∀ k, (sumTo (addsN l name) (thsOf xs) k : Int) ≤ 1048576 from fun k => sumTo_small hb k)
  clear hl hok hxk hb
  rcases hu with rfl | ⟨bb, ob, rfl, hcb⟩
  · have HN := Lib.hid (show sumS l (thsOf []) name = 0 by simp [sumS, thsOf, sumTo_nil])
    go_enter Tryz.func58, Tryz.ntmps58
    go_wp2
    refine wp_loop_rounds 1 ?_
    rw [rounds_succ]
    go_wp2
    go_ret
    exact ⟨ret_int HN.out.symm, (by repeat (first | exact Below.refl _ _ | (refine Below.alloc ?_ (by first | (simp; done) | (simp; omega)) _) | (refine Below.setCell ?_ (by first | (simp; done) | (simp; omega)) _) | (refine Below.drew ?_)))⟩
  have HC := Lib.hid hcb
  clear hcb
  go_enter Tryz.func58, Tryz.ntmps58
  go_wp2
  go_loopw [7, 8] (fun n i wr => ∃ k : Nat, k ≤ xs.length ∧ i = .int .i64 k ∧ n = .int .i64 (sumTo (addsN l name) (thsOf xs) k : Nat) ∧ Below w.heap.size w wr) (fun _ i _ => xs.length - (intOf i).toNat)
  case atStart => exact ⟨0, Nat.zero_le _, rfl, by rw [sumTo_zero]; rfl, Below.refl _ _⟩
  case round =>
    obtain ⟨k, hk, rfl, rfl, hbel⟩ := hrel
    by_cases hlt : k < xs.length
    · obtain ⟨c0, -, -, -, -, -, c6⟩ := cellsThing hbel HC.out k hlt
      have HB := Lib.hid hbel
      have hs1 := HS.out k
      have hs2 := HS.out (k + 1)
      have hz := (HXK.out _ (List.getElem_mem hlt)).2.2.2
      unfold maxLen at hz
      cases hq : inSp l xs[k].2.2.sp name with
      | true =>
        have HQ := Lib.hid hq
        have hsu := Lib.hid (show sumTo (addsN l name) (thsOf xs) (k + 1) = sumTo (addsN l name) (thsOf xs) k + (1 + xs[k].2.2.body.size) by
          rw [sumTo_succ _ _ k (by rw [thsOf_len]; exact hlt), thsOf_get xs k hlt]
          unfold addsN
          rw [hq]; simp)
        rw [hsu.out] at hs2
        clear hq hbel
        go_wp2_with (go_at_call 92; refine (l8In_any _ ca l xs[k].2.2.sp name _ (HX.out.below HB.out) HK.out).mono ?_; rintro e w4 ⟨rfl, b4⟩; rw [HQ.out]; have B4 := HB.out.trans (b4.mono HB.out.size); have d6 := (b4.cell (p := ⟨bb, ob + k * 7 + 6, none⟩) (by have := World.block_lt_of_cell? wr _ c6; simpa using this)).trans c6)
        go_roundw
        case rel => exact ⟨k + 1, by omega, by go_num, by rw [hsu.out]; go_num, B4⟩
        case measure => simp [intOf]; omega
      | false =>
        have HQ := Lib.hid hq
        have hsu := Lib.hid (show sumTo (addsN l name) (thsOf xs) (k + 1) = sumTo (addsN l name) (thsOf xs) k by
          rw [sumTo_succ _ _ k (by rw [thsOf_len]; exact hlt), thsOf_get xs k hlt]
          unfold addsN
          rw [hq]; simp)
        clear hq hbel
        go_wp2_with (go_at_call 92; refine (l8In_any _ ca l xs[k].2.2.sp name _ (HX.out.below HB.out) HK.out).mono ?_; rintro e w4 ⟨rfl, b4⟩; rw [HQ.out]; have B4 := HB.out.trans (b4.mono HB.out.size))
        go_roundw
        case rel => exact ⟨k + 1, by omega, by go_num, by rw [hsu.out], B4⟩
        case measure => simp [intOf]; omega
    · have HN := Lib.hid (show sumS l (thsOf xs) name = (sumTo (addsN l name) (thsOf xs) k : Nat) by unfold sumS; rw [sumTo_full _ _ k (by rw [thsOf_len]; omega)])
      go_wp2
      go_ret
      exact ⟨ret_int HN.out.symm, hbel⟩


theorem upo_any {l : List SpaceD} {m : Nat} (h : m = (treeOf l).length) (name over : ByteArray) : (trail (nxF (treeOf l) m) (finO m (idxS (treeOf l) name)) 7).any (isN (nmF (treeOf l) m) over) = (spsOk l && inSp l name over) := by
  by_cases hk : spsOk l = true
  · have e1 : treeOf l = l := by unfold treeOf; rw [hk]; rfl
    rw [e1] at h ⊢
    rw [(trail_end (end_fin h hk name) (sps_len hk).2.1).1, isIn_names h hk, hk, Bool.true_and]
  · have e1 : treeOf l = [] := by unfold treeOf; rw [if_neg hk]
    rw [e1, show idxS [] name = none from rfl, show finO m none = none from rfl, trail_none]
    rw [Bool.not_eq_true] at hk
    rw [hk]; rfl
def addsO (ok : Bool) (l : List SpaceD) (name : ByteArray) (t : ThingD) : Nat := if ok && inSp l t.sp name then 1 + t.body.size else 0
theorem addsO_le (ok : Bool) (l : List SpaceD) (name : ByteArray) : ∀ (ths : List ThingD) (k : Nat), sumTo (addsO ok l name) ths k ≤ sumTo (addsN l name) ths k
  | [], k => by rw [sumTo_nil]; omega
  | t :: ths, 0 => by rw [sumTo_zero]; omega
  | t :: ths, k + 1 => by
    have ih := addsO_le ok l name ths k
    have e1 : sumTo (addsO ok l name) (t :: ths) (k + 1) = addsO ok l name t + sumTo (addsO ok l name) ths k := by simp [sumTo]
    have e2 : sumTo (addsN l name) (t :: ths) (k + 1) = addsN l name t + sumTo (addsN l name) ths k := by simp [sumTo]
    have e3 : addsO ok l name t ≤ addsN l name t := by
      unfold addsO addsN
      cases ok
      · simp
      · simp
    omega
theorem sumO {ok : Bool} {l : List SpaceD} {name : ByteArray} {ths : List ThingD} : sumTo (addsO ok l name) ths ths.length = if ok then sumTo (addsN l name) ths ths.length else 0 := by
  cases ok with
  | true => simp [show addsO true l name = addsN l name from funext fun t => by simp [addsO, addsN]]
  | false =>
    rw [show addsO false l name = fun _ => 0 from funext fun t => by simp [addsO]]
    unfold sumTo
    rw [if_neg (by simp)]
    generalize ths.take ths.length = q
    induction q with
    | nil => rfl
    | cons x q ih => simpa using ih
theorem costN_ok {t : ThingD} (h : thingB t = true) : costN t = 1 + (t.body.size : Int) := by unfold costN; rw [h]; rfl
set_option maxRecDepth 100000 in
set_option maxHeartbeats 2000000 in
theorem implUseSum_c {v0 v1 : Value} {l : List SpaceD} {ths : List ThingD} (name : ByteArray) {w : World} (h0 : VwSpaceS w v0 l) (h1 : VnThingS w v1 ths) (hb : (bulkThingS ths : Int) ≤ 1048576) :
    Calls Tryz.prog 103 #[v0, v1, .string name] w fun e w' => e = .returned (.int .i64 (useSum l ths name)) ∧ Below w.heap.size w w' := by
  obtain ⟨a, ca, rfl, hl, hok⟩ := h0
  obtain ⟨b, cb, xs, rfl, hu, rfl, hxk, hxn⟩ := h1
  have hxl := bulkThingS_len hb
  rw [thsOf_len] at hxl
  have HX := Lib.hid hl
  have HK := Lib.hid hok
  have HXK := Lib.hid hxk
  have HXN := Lib.hid hxn
  have HU := Lib.hid hu
  have HS := Lib.hid (show ∀ k, (sumTo (addsN l name) (thsOf xs) k : Int) ≤ 1048576 from fun k => sumTo_small hb k)
  clear hl hok hxk hxn hu hb
  obtain ⟨tl, htl⟩ : ∃ tl, treeOf l = tl := ⟨_, rfl⟩
  -- what is told of a space at the tree
  have HIN := Lib.hid (show ∀ (m : Nat) (_ : m = tl.length) (sp : ByteArray), (trail (nxF tl m) (finO m (idxS tl sp)) 7).any (isN (nmF tl m) name) = (spsOk l && inSp l sp name) from fun m hm sp => by
    rw [← htl] at hm ⊢
    have := upo_any hm sp name
    exact this)
  have HEN := Lib.hid (show ∀ (m : Nat) (_ : m = tl.length) (sp : ByteArray), after (nxF tl m) (finO m (idxS tl sp)) 7 = none from fun m hm sp => by
    rw [← htl] at hm ⊢
    exact treeOf_end hm sp)
  go_enter Tryz.func103, Tryz.ntmps103
  go_wp2_with fail
  refine (spaceLink_any a ca l _ (HX.out.below (by repeat (first | exact Below.refl _ _ | (refine Below.alloc ?_ (by first | (simp; done) | (simp; omega)) _) | (refine Below.setCell ?_ (by first | (simp; done) | (simp; omega)) _) | (refine Below.drew ?_)))) HK.out).mono ?_
  rintro e w1 hlp
  obtain ⟨a1, ct, nbl, hln, rfl, ht, b1⟩ := link_uni hlp
  rw [htl] at hln ht
  clear hlp htl
  have HT := Lib.hid ht
  have HLN := Lib.hid hln
  have HB1 := Lib.hid b1
  have HIN2 := Lib.hid (HIN.out nbl.length hln)
  have HEN2 := Lib.hid (HEN.out nbl.length hln)
  obtain ⟨ok0, hok0⟩ : ∃ ok0, spsOk l = ok0 := ⟨_, rfl⟩
  have HO := Lib.hid hok0
  rw [hok0]
  clear ht hln b1 hok0 HIN HEN
  go_wp2_with fail
  obtain ⟨W1, hW1⟩ : ∃ W1, w1.alloc (.cells #[.slice a1 nbl.length ct] 142) = W1 := ⟨_, rfl⟩
  have HBW := Lib.hid (show Below w.heap.size w W1 by rw [← hW1]; exact HB1.out.alloc HB1.out.size _)
  have HTW := Lib.hid (show TreeS W1 w.heap.size a1 nbl tl by rw [← hW1]; exact HT.out.below (below_alloc _ _))
  have HCW := Lib.hid (show W1.cell? ⟨w1.heap.size, 0, none⟩ = some (.slice a1 nbl.length ct) by rw [← hW1]; exact (Boxed.new w1 _ _).cell)
  have hsW : w1.heap.size < W1.heap.size := by rw [← hW1]; simp
  rw [hW1]
  clear hW1
  go_loopw [9, 19] (fun n i wr => ∃ k : Nat, k ≤ xs.length ∧ i = .int .i64 k ∧ n = .int .i64 (sumTo (addsO ok0 l name) (thsOf xs) k : Nat) ∧ (∀ j (hj : j < xs.length), j < k → thingB xs[j].2.2 = true) ∧ Below W1.heap.size W1 wr) (fun _ i _ => xs.length - (intOf i).toNat)
  case atStart => exact ⟨0, Nat.zero_le _, rfl, by rw [sumTo_zero]; rfl, fun j hj h => absurd h (Nat.not_lt_zero _), Below.refl _ _⟩
  case round =>
    obtain ⟨k, hk, rfl, rfl, hto, hbel⟩ := hrel
    have HTO := Lib.hid hto
    have HB := Lib.hid hbel
    have HBA := Lib.hid (HBW.out.trans (hbel.mono HBW.out.size))
    clear hto
    by_cases hlt : k < xs.length
    · obtain ⟨bb, ob, rfl, hcb⟩ := HU.out.2.resolve_left (fun e => by rw [e] at hlt; simp at hlt)
      obtain ⟨c0, c1, c2, c3, c4, c5, c6⟩ := cellsThing HBA.out hcb k hlt
      have HZ := Lib.hid ((HXK.out _ (List.getElem_mem hlt)).below HBA.out)
      have HN := Lib.hid (HXN.out _ (List.getElem_mem hlt))
      have hs1 := Int.le_trans (Int.ofNat_le.2 (addsO_le ok0 l name (thsOf xs) k)) (HS.out k)
      have hs2 := Int.le_trans (Int.ofNat_le.2 (addsO_le ok0 l name (thsOf xs) (k + 1))) (HS.out (k + 1))
      have hsz := hbel.size
      obtain ⟨tt, htt⟩ : ∃ tt, xs[k] = tt := ⟨_, rfl⟩
      have HTT := Lib.hid htt
      rw [htt] at c0 c1 c2 c3 c4 c5 c6 HZ HN
      have bx := Box.alloc wr #[.string tt.2.2.sp, .string tt.2.2.nm, .int .i64 tt.2.2.uid, .int .i64 tt.2.2.rev, .bool tt.2.2.gone, .slice tt.1 tt.2.2.marks.length tt.2.1, .string tt.2.2.body] 57
      have HBX := Lib.hid bx
      clear hcb hbel htt bx
      cases hq : thingB tt.2.2 with
      | false =>
        have HQ := Lib.hid hq
        have HF := Lib.hid (useSum_no (name := name) (show (spsOk l && (thsOf xs).all thingB) = false by rw [allT_no (k := k) (by rw [thsOf_len]; exact hlt) (by rw [thsOf_get xs k hlt, HTT.out]; exact hq)]; simp))
        clear hq
        go_wp2_with fail
        refine (implThing_any tt.1 tt.2.1 tt.2.2 _ (HZ.out.below (below_alloc _ _)).1 HZ.out.2 HN.out).mono ?_
        rintro e w4 ⟨rfl, b4⟩
        rw [HQ.out]
        go_wp2_with fail
        go_ret
        exact ⟨ret_int HF.out.symm, (HBA.out.alloc HBA.out.size _).trans (b4.mono (by have := HBA.out.size; simp; omega))⟩
      | true =>
        have HQ := Lib.hid hq
        have HTN := Lib.hid (show ∀ j (hj : j < xs.length), j < k + 1 → thingB xs[j].2.2 = true from fun j hj hjk => by
          by_cases e : j < k
          · exact HTO.out j hj e
          · obtain rfl : j = k := by omega
            rw [HTT.out]; exact hq)
        have HC := Lib.hid (costN_ok hq)
        clear hq
        have hsu : sumTo (addsO ok0 l name) (thsOf xs) (k + 1) = sumTo (addsO ok0 l name) (thsOf xs) k + addsO ok0 l name tt.2.2 := by
          rw [sumTo_succ _ _ k (by rw [thsOf_len]; exact hlt), thsOf_get xs k hlt, HTT.out]
        have HSU := Lib.hid hsu
        clear hsu
        go_wp2_with fail
        refine (implThing_any tt.1 tt.2.1 tt.2.2 _ (HZ.out.below (below_alloc _ _)).1 HZ.out.2 HN.out).mono ?_
        rintro e w4 ⟨rfl, b4⟩
        rw [HQ.out]
        have A4 := (below_alloc wr (.cells #[.string tt.2.2.sp, .string tt.2.2.nm, .int .i64 tt.2.2.uid, .int .i64 tt.2.2.rev, .bool tt.2.2.gone, .slice tt.1 tt.2.2.marks.length tt.2.1, .string tt.2.2.body] 57)).trans (b4.mono (by simp))
        have B4 := HB.out.trans (A4.mono HB.out.size)
        have HAW := Lib.hid A4
        have bx4 := HBX.out.below b4
        have z0 := (bx4 0 _ rfl).1
        have y0 := (B4.cell (p := ⟨w1.heap.size, 0, none⟩) hsW).trans HCW.out
        have HB4 := Lib.hid B4
        have HBX4 := Lib.hid bx4
        clear bx4 b4 A4
        have hz4 := B4.size
        clear B4
        go_wp2_with fail
        refine (find_any a1 ct nbl tl HLN.out tt.2.2.sp _ (HTW.out.below HB4.out).pts (HTW.out.below HB4.out).nms).mono ?_
        rintro e w5 ⟨rfl, b5⟩
        obtain ⟨o, ho⟩ : ∃ o, finO nbl.length (idxS tl tt.2.2.sp) = o := ⟨_, rfl⟩
        have HA := Lib.hid (show adrO nbl (idxS tl tt.2.2.sp) = adrN nbl o by rw [← ho]; exact (adrN_fin (fun j hj => by rw [HLN.out]; exact idxS_lt hj)).symm)
        have HE := Lib.hid (show after (nxF tl nbl.length) o 7 = none by rw [← ho]; exact HEN2.out tt.2.2.sp)
        have HR := Lib.hid (show (trail (nxF tl nbl.length) o 7).any (isN (nmF tl nbl.length) name) = (ok0 && inSp l tt.2.2.sp name) by rw [← ho, HIN2.out tt.2.2.sp, HO.out])
        rw [HA.out]
        have HB5 := Lib.hid (HB4.out.trans (b5.mono HB4.out.size))
        have bx5 := HBX4.out.below b5
        have HBX5 := Lib.hid bx5
        have hz5 := b5.size
        have hb5 := b5
        clear ho bx5 b5 y0 z0
        go_wp2_with fail
        refine (isIn_any nbl (nmF tl nbl.length) (nxF tl nbl.length) o 7 HE.out name _ (nodesS_of HLN.out (HTW.out.below HB5.out).nod)).mono ?_
        rintro e w6 ⟨rfl, b6⟩
        rw [HR.out]
        have HB6 := Lib.hid (HB5.out.trans (b6.mono HB5.out.size))
        have bx6 := HBX5.out.below b6
        have z0 := (bx6 0 _ rfl).1
        have z1 := (bx6 1 _ rfl).1
        have z2 := (bx6 2 _ rfl).1
        have z3 := (bx6 3 _ rfl).1
        have z4 := (bx6 4 _ rfl).1
        have z5 := (bx6 5 _ rfl).1
        have z6 := (bx6 6 _ rfl).1
        have hz6 := b6.size
        have HZ6 := Lib.hid (HZ.out.1.below ((HAW.out.trans (hb5.mono HAW.out.size)).trans (b6.mono (Nat.le_trans HAW.out.size hz5))))
        clear b6 bx6
        obtain ⟨q2, hq2⟩ : ∃ q2, (ok0 && inSp l tt.2.2.sp name) = q2 := ⟨_, rfl⟩
        rw [hq2]
        cases q2 with
        | false =>
          have HSU2 := Lib.hid (show sumTo (addsO ok0 l name) (thsOf xs) (k + 1) = sumTo (addsO ok0 l name) (thsOf xs) k by rw [HSU.out]; unfold addsO; rw [hq2]; simp)
          clear hq2
          go_wp2_with fail
          go_roundw
          case rel => exact ⟨k + 1, by omega, by go_num, by rw [HSU2.out], HTN.out, HB6.out⟩
          case measure => simp [intOf]; omega
        | true =>
          have HSU2 := Lib.hid (show sumTo (addsO ok0 l name) (thsOf xs) (k + 1) = sumTo (addsO ok0 l name) (thsOf xs) k + (1 + tt.2.2.body.size) by rw [HSU.out]; unfold addsO; rw [hq2]; simp)
          rw [HSU2.out] at hs2
          clear hq2
          go_wp2_with fail
          refine (implCost_any tt.1 tt.2.1 tt.2.2 _ HZ6.out HZ.out.2 HN.out).mono ?_
          rintro e w7 ⟨rfl, b7⟩
          rw [HC.out]
          go_wp2_with fail
          go_roundw
          case rel => exact ⟨k + 1, by omega, by go_num, by rw [HSU2.out]; go_num, HTN.out, HB6.out.trans (b7.mono HB6.out.size)⟩
          case measure => simp [intOf]; omega
    · have HF := Lib.hid (show useSum l (thsOf xs) name = (sumTo (addsO ok0 l name) (thsOf xs) k : Nat) by
        have hall : (thsOf xs).all thingB = true := all_upto (k := k) (by rw [thsOf_len]; omega) (fun j hj hjk => by
          rw [thsOf_get xs j (by rw [thsOf_len] at hj; exact hj)]
          exact HTO.out j (by rw [thsOf_len] at hj; exact hj) hjk)
        rw [sumTo_full _ _ k (by rw [thsOf_len]; omega), sumO]
        unfold useSum sumS
        rw [hall, HO.out, Bool.and_true]
        cases ok0 <;> rfl)
      clear hbel
      go_wp2_with fail
      go_ret
      exact ⟨ret_int HF.out.symm, HBA.out⟩
end Go.Proofs.YtbioljpjpflboaaGreatDoor
