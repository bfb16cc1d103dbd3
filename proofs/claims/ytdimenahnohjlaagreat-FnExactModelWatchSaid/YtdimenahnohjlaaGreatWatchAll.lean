import Derived.Test.YtdimenahnohjlaaGreatProg
import Derived.Test.YtdimenahnohjlaaGreatBase
import Derived.Test.YtdimenahnohjlaaGreatMark
import Derived.Deep.RegionHeld3
import Derived.Test.YtdimenahnohjlaaGreatModelK
import Derived.Test.YtdimenahnohjlaaGreatModelOkS
import Derived.Test.YtdimenahnohjlaaGreatModelAll2
/- markStringS writes marks into a list of strings; heldStringS finds them there. -/
namespace Go.Proofs.YtdimenahnohjlaaGreat
open Go Go.RowKit

def marksS (k : Int) (n : Nat) : List ByteArray := marks markB k n
theorem marksS_len (k : Int) (n : Nat) : (marksS k n).length = n := by simp [marksS, marks]
theorem marksS_get (k : Int) (n j : Nat) (h : j < (marksS k n).length) : (marksS k n)[j] = markB (k + (j : Int)) := by simp [marksS, marks]

set_option maxRecDepth 100000 in
set_option maxHeartbeats 400000 in
theorem markStr_any (base : Nat) (v : Value) (n : Nat) (xs : List Value) (k : Int) (w : World) (hn : n ≤ 1099511627776) (hk0 : 0 ≤ k) (hk : k ≤ 1099511627776) (hown : w.ownsRow base 9 1 v n xs) :
    Calls Tryz.prog 12 #[v, .int .i64 k] w fun e w' => e = .returned (.int .i64 (k + n)) ∧
      w'.ownsRow base 9 1 v n ((marksS k n).map .string) ∧ KeptOut (fun b => v.ownBlock = some b) w w' := by
  rcases hown.2 with ⟨rfl, rfl⟩ | ⟨g, cap, cur, rfl, hrest⟩
  · go_enter Tryz.func12, Tryz.ntmps12
    go_wp2
    refine wp_loop_rounds 1 ?_
    rw [rounds_succ]
    go_wp2
    go_ret
    obtain rfl : xs = [] := List.eq_nil_of_length_eq_zero hown.1
    exact ⟨ret_int (by omega), hown, KeptOut.refl _ _⟩
  · clear hrest
    have hlen := marksS_len k n
    go_enter Tryz.func12, Tryz.ntmps12
    go_wp2
    go_loopw [1, 5] (fun kk i wr => ∃ j : Nat, j ≤ n ∧ i = .int .i64 j ∧ kk = .int .i64 (k + j) ∧ ∃ ys, wr.ownsRow base 9 1 (.slice (some ⟨g, 0, none⟩) n cap) n ys ∧ ys.take j = ((marksS k n).map Value.string).take j ∧ KeptOut (fun b => b = g) w wr) (fun _ i _ => n - (intOf i).toNat)
    case atStart => exact ⟨0, Nat.zero_le _, rfl, by simp, xs, hown, rfl, KeptOut.refl _ _⟩
    case round =>
      clear hown
      obtain ⟨j, hj, rfl, rfl, ys, hown, ht, hkept⟩ := hrel
      have HT := Lib.hid ht
      have HL := Lib.hid hlen
      clear ht hlen
      by_cases hlt : j < n
      · obtain ⟨v2, c2⟩ : ∃ v, wr.cell? ⟨g, j, none⟩ = some v := ⟨_, (hown.cellAt j (by omega)).trans (List.getElem?_eq_getElem (by have := hown.1; omega))⟩
        have c3 := hown.frozenAt j
        have HO := Lib.hid hown
        have hlt' := (hown.lt g rfl).2
        clear hown
        go_wp2_with (go_at_call 36; refine (mark_any _ _ (by omega)).mono ?_; rintro e w1 ⟨rfl, hb⟩; have d2 := (hb.cell (p := ⟨g, j, none⟩) hlt').trans c2; have d3 := (hb.frozen (p := ⟨g, j, none⟩) hlt').trans c3)
        have hb1 : Below wr.heap.size wr w1 := by assumption
        have h1 := own_below HO.out hb1
        go_roundw
        case rel => exact ⟨j + 1, by omega, by go_num, by go_num, ys.set j (.string (markB (k + (j : Int)))), (h1.stored j _).1, set_take (l := (marksS k n).map Value.string) (by simp [HL.out]; omega) (by have := HO.out.1; simp [HL.out]; omega) HT.out (by simp [marksS_get]), (hkept.trans (.of_below hb1)).setCell rfl _⟩
        case measure => simp [intOf]; omega
      · have HO := Lib.hid hown
        clear hown
        go_wp2
        go_ret
        have hx : ys = (marksS k n).map Value.string := by
          have h1 := HO.out.1
          have h2 := HT.out
          rwa [List.take_of_length_le (by omega), List.take_of_length_le (by simp [HL.out]; omega)] at h2
        exact ⟨ret_int (by omega), by rw [← hx]; exact HO.out, hkept.mono (fun b _ hb => by subst hb; rfl)⟩

set_option maxRecDepth 100000 in
set_option maxHeartbeats 400000 in
theorem heldStr_any (a : Option Addr) (ca : Nat) (n : Nat) (k : Int) (w : World) (hn : n ≤ 1099511627776) (hk0 : 0 ≤ k) (hk : k ≤ 1099511627776) (hl : StrS w a (marksS k n)) :
    Calls Tryz.prog 13 #[.slice a n ca, .int .i64 k] w fun e w' => e = .returned (.int .i64 (k + n)) ∧ Below w.heap.size w w' := by
  obtain ⟨_, _, hl⟩ := hl
  have hlen := marksS_len k n
  rcases hl with hl | ⟨ba, oa, rfl, hca⟩
  · obtain rfl : n = 0 := by rw [← hlen, hl]; rfl
    clear hl hlen
    go_enter Tryz.func13, Tryz.ntmps13
    go_wp2
    refine wp_loop_rounds 1 ?_
    rw [rounds_succ]
    go_wp2
    go_ret
    exact ⟨ret_int (by omega), Below.refl _ _⟩
  · have HL := Lib.hid hlen
    clear hlen
    go_enter Tryz.func13, Tryz.ntmps13
    go_wp2
    go_loopw [1, 5] (fun kk i wr => ∃ j : Nat, j ≤ n ∧ i = .int .i64 j ∧ kk = .int .i64 (k + j) ∧ Below w.heap.size w wr) (fun _ i _ => n - (intOf i).toNat)
    case atStart => exact ⟨0, Nat.zero_le _, rfl, by simp, Below.refl _ _⟩
    case round =>
      obtain ⟨j, hj, rfl, rfl, hbel⟩ := hrel
      by_cases hlt : j < n
      · have c0 := hca j (by rw [HL.out]; exact hlt)
        have c1 : wr.cell? ⟨ba, oa + j, none⟩ = some (.string (markB (k + (j : Int)))) := by
          rw [hbel.cell (by have := World.block_lt_of_cell? w _ c0; simpa using this), c0, marksS_get]
        clear c0
        have hblk : ba < wr.heap.size := by have := World.block_lt_of_cell? wr _ c1; simpa using this
        go_wp2
        go_region_held3 (fun w' => w'.cell? ⟨ba, oa + j, none⟩ = some (.string (markB (k + (j : Int)))) ∧ Below w.heap.size w w') (first | exact ⟨c1, hbel.drew⟩ | exact ⟨d2, hbel1⟩)
          (first | (go_at_call 36; refine (mark_any _ _ (by omega)).mono ?_; rintro e w1 ⟨rfl, hb⟩; have d2 := (hb.cell (p := ⟨ba, oa + j, none⟩) hblk).trans c1; have hbel1 := hbel.drew.trans (hb.mono hbel.size)))
        go_wp2
        go_roundw
        case rel => exact ⟨j + 1, by omega, by go_num, by go_num, hbel1⟩
        case measure => simp [intOf]; omega
      · go_wp2
        go_ret
        exact ⟨ret_int (by omega), hbel⟩
end Go.Proofs.YtdimenahnohjlaaGreat

/- markThingS and markModel: which number comes out at most, and that nothing else is written to. -/
namespace Go.Proofs.YtdimenahnohjlaaGreat
open Go Go.RowKit

/-- a thing of an own list that markThingS has not come to yet -/
def Left (w : World) (base lim g : Nat) (ys : List Value) (xs : List ThX) (j : Nat) : Prop :=
  ∀ i (h : i < xs.length), j ≤ i → ys[i * 7 + 5]? = some (.slice xs[i].1 xs[i].2.2.marks.length xs[i].2.1) ∧ OwX w base lim xs[i] ∧ blkX xs[i] ≠ some g
theorem Left.next {w w' : World} {base lim g j : Nat} {ys : List Value} {xs : List ThX} (h : Left w base lim g ys xs j) (hap : Apart xs) (hj : j < xs.length) (hk : KeptOut (fun b => b = g ∨ blkX xs[j] = some b) w w') {v0 v1 v2 v3 v4 v6 : Value} :
    Left w' base lim g ((((((ys.set (j * 7) v0).set (j * 7 + 1) v1).set (j * 7 + 2) v2).set (j * 7 + 3) v3).set (j * 7 + 4) v4).set (j * 7 + 6) v6) xs (j + 1) := by
  intro i hi hij
  obtain ⟨h1, h2, h3⟩ := h i hi (by omega)
  refine ⟨?_, h2.kept hk (fun k hkx e => ?_), h3⟩
  · rw [List.getElem?_set_ne (by omega), List.getElem?_set_ne (by omega), List.getElem?_set_ne (by omega), List.getElem?_set_ne (by omega), List.getElem?_set_ne (by omega), List.getElem?_set_ne (by omega)]
    exact h1
  · rcases e with e | e
    · exact h3 (by rw [hkx, e])
    · exact (List.pairwise_iff_getElem.1 hap j i hj hi (by omega)) k e hkx
set_option maxRecDepth 100000 in
set_option maxHeartbeats 4000000 in
theorem markThingS_c {v : Value} {l : List ThingD} {w : World} {base lim : Nat} (h : OwThingS w base lim v l) {k : Int} (hk0 : 0 ≤ k) (hk : k ≤ 68719476736) (hn : (bulkThingS l : Int) ≤ 1048576) :
    Calls Tryz.prog 35 #[v, .int .i64 k] w fun e w' => ∃ k' : Int, e = .returned (.int .i64 k') ∧ (k ≤ k' ∧ k' ≤ k + 68719476736) ∧ KeptOut (fun b => base ≤ b ∧ b < lim) w w' := by
  obtain ⟨a, ca, xs, rfl, ⟨ho, hlim⟩, hxl, hx, how, hap, hne⟩ := h
  have hln : xs.length ≤ 1048576 := by rw [← thsOf_len, hx]; exact bulkThingS_len hn
  subst hx
  have HSL := Lib.hid (show ∀ j, (sumTo bulkThing (thsOf xs) j : Int) ≤ 1048576 - xs.length from fun j => by
    have := sumTo_le bulkThing (thsOf xs) j
    unfold bulkThingS at hn
    rw [thsOf_len] at hn this
    omega)
  have HSS := Lib.hid (show ∀ j (h : j < xs.length), sumTo bulkThing (thsOf xs) (j + 1) = sumTo bulkThing (thsOf xs) j + bulkThing xs[j].2.2 from fun j h => by
    rw [sumTo_succ bulkThing (thsOf xs) j (by rw [thsOf_len]; exact h), thsOf_get])
  clear hn hxl
  obtain ⟨n, hnx⟩ : ∃ n, xs.length = n := ⟨_, rfl⟩
  have HN := Lib.hid hnx
  rw [hnx] at ho hlim hln
  rw [hnx]
  rcases ho.2 with ⟨hv, hnil⟩ | ⟨g, cap, cur, hv, hrest⟩
  · simp only [Value.slice.injEq] at hv
    obtain ⟨rfl, rfl, rfl⟩ := hv
    clear hnx
    go_enter Tryz.func35, Tryz.ntmps35
    go_wp2
    refine wp_loop_rounds 1 ?_
    rw [rounds_succ]
    go_wp2
    go_ret
    exact ⟨k, rfl, by omega, KeptOut.refl _ _⟩
  simp only [Value.slice.injEq] at hv
  obtain ⟨rfl, -, rfl⟩ := hv
  clear hrest
  have hg := ho.lt g rfl
  have hgl := hlim g rfl
  have HL0 := Lib.hid (show Left w base lim g (xs.flatMap encT) xs 0 from fun i hi _ => by
    refine ⟨?_, how _ (List.getElem_mem hi), fun e => hne _ (List.getElem_mem hi) g rfl e⟩
    have h1 := flat_get encT_len xs i hi 5 (.slice xs[i].1 xs[i].2.2.marks.length xs[i].2.1) (by rfl)
    exact h1)
  have HAP := Lib.hid hap
  clear how hne hap hnx
  go_enter Tryz.func35, Tryz.ntmps35
  go_wp2
  go_loopw [1, 5] (fun kk i wr => ∃ j : Nat, j ≤ n ∧ i = .int .i64 j ∧ (∃ q : Int, kk = .int .i64 q ∧ k ≤ q ∧ q ≤ k + 6 * j + sumTo bulkThing (thsOf xs) j) ∧ ∃ ys, wr.ownsRow base 58 7 (.slice (some ⟨g, 0, none⟩) n ca) n ys ∧ Left wr base lim g ys xs j ∧ KeptOut (fun b => base ≤ b ∧ b < lim) w wr) (fun _ i _ => n - (intOf i).toNat)
  case atStart => exact ⟨0, Nat.zero_le _, rfl, ⟨k, rfl, by omega, by rw [sumTo_zero]; simp⟩, _, ho, HL0.out, KeptOut.refl _ _⟩
  case round =>
    clear ho
    obtain ⟨j, hj, rfl, ⟨q, rfl, hq0, hq1⟩, ys, hown, hleft, hkept⟩ := hrel
    have HO := Lib.hid hown
    have HLF := Lib.hid hleft
    clear hown hleft
    have hsl := HSL.out j
    by_cases hlt : j < n
    · have hlx : j < xs.length := by rw [HN.out]; exact hlt
      have hss := HSS.out j hlx
      have hsl1 := HSL.out (j + 1)
      have hbk : xs[j].2.2.marks.length ≤ bulkThing xs[j].2.2 := by unfold bulkThing bulkS; omega
      obtain ⟨ht5, hox, hbx⟩ := HLF.out j hlx (Nat.le_refl _)
      obtain ⟨X, hX⟩ : ∃ X, xs[j] = X := ⟨_, rfl⟩
      have hqn : q + 6 + X.2.2.marks.length ≤ k + 6 * ((j + 1 : Nat) : Int) + sumTo bulkThing (thsOf xs) (j + 1) := by rw [hss, ← hX]; omega
      have hml : (X.2.2.marks.length : Int) ≤ 1048576 := by rw [← hX]; omega
      have HQN := Lib.hid hqn
      have HXX := Lib.hid hX
      rw [hX] at ht5 hox hbx
      have HT5 := Lib.hid ht5
      have HOX := Lib.hid hox
      have HBX := Lib.hid hbx
      have hq2 : q ≤ 70000000000 := by rw [HN.out] at hsl; omega
      clear ht5 hox hbx hX hss hsl1 hbk hsl hqn hq1
      have hk1 : j * 7 + 7 ≤ n * 7 := by rw [← Nat.succ_mul]; exact Nat.mul_le_mul_right _ hlt
      obtain ⟨⟨q0, d0⟩, f0⟩ := own_cells HO.out (Below.refl _ _) (j * 7) (by omega)
      go_wp2_with fail
      refine (mark_any _ _ (by omega)).mono ?_
      rintro e w1 ⟨rfl, hb1⟩
      have O1 := Lib.hid (own_below HO.out hb1)
      clear d0 f0
      obtain ⟨⟨q0, d0⟩, f0⟩ := own_cells O1.out (Below.refl _ _) (j * 7) (by omega)
      go_wp2_with fail
      refine (mark_any _ _ (by omega)).mono ?_
      rintro e w2 ⟨rfl, hb2⟩
      have O2 := Lib.hid (own_below (O1.out.stored (j * 7) (.string (markB q))).1 hb2)
      clear d0 f0
      obtain ⟨⟨q1, d1⟩, f1⟩ := own_cells O2.out (Below.refl _ _) (j * 7 + 1) (by omega)
      obtain ⟨⟨q2, d2⟩, f2⟩ := own_cells O2.out (Below.refl _ _) (j * 7 + 2) (by omega)
      obtain ⟨⟨q3, d3⟩, f3⟩ := own_cells O2.out (Below.refl _ _) (j * 7 + 3) (by omega)
      obtain ⟨⟨q4, d4⟩, f4⟩ := own_cells O2.out (Below.refl _ _) (j * 7 + 4) (by omega)
      have d5 := (O2.out.cellAt (j * 7 + 5) (by omega)).trans ((List.getElem?_set_ne (by omega)).trans HT5.out)
      have O4 := Lib.hid (((((O2.out.stored (j * 7 + 1) (.string (markB (q + 1)))).1.stored (j * 7 + 2) (.int .i64 (q + 1 + 1))).1.stored (j * 7 + 3) (.int .i64 (q + 1 + 1 + 1))).1.stored (j * 7 + 4) (.bool ((q + 1 + 1 + 1 + 1) % 3 == 0))).1)
      have K4 := Lib.hid (((((((KeptOut.of_below (S := fun b => b = g) hb1).setCell (p := ⟨g, j * 7, none⟩) rfl (.string (markB q))).trans (.of_below hb2)).setCell (p := ⟨g, j * 7 + 1, none⟩) rfl (.string (markB (q + 1)))).setCell (p := ⟨g, j * 7 + 2, none⟩) rfl (.int .i64 (q + 1 + 1))).setCell (p := ⟨g, j * 7 + 3, none⟩) rfl (.int .i64 (q + 1 + 1 + 1))).setCell (p := ⟨g, j * 7 + 4, none⟩) rfl (.bool ((q + 1 + 1 + 1 + 1) % 3 == 0)))
      have OM := Lib.hid (HOX.out.kept K4.out (fun k hk e => HBX.out (by rw [hk, e])))
      go_wp2_with fail
      refine (markStr_any base (.slice X.1 X.2.2.marks.length X.2.1) X.2.2.marks.length _ (q + 1 + 1 + 1 + 1 + 1) _ (by omega) (by omega) (by omega) OM.out.1).mono ?_
      rintro e w3 ⟨rfl, -, km⟩
      have O5 := Lib.hid (own_kept O4.out km (fun b hb e => HBX.out (by rw [own_blk hb] at e; exact e)))
      have KM := Lib.hid km
      clear d1 f1 d2 f2 d3 f3 d4 f4 d5 km
      obtain ⟨⟨q6, d6⟩, f6⟩ := own_cells O5.out (Below.refl _ _) (j * 7 + 6) (by omega)
      go_wp2_with fail
      refine (mark_any _ _ (by omega)).mono ?_
      rintro e w4 ⟨rfl, hb4⟩
      have O6 := Lib.hid (own_below O5.out hb4)
      clear d6 f6
      obtain ⟨⟨q6, d6⟩, f6⟩ := own_cells O6.out (Below.refl _ _) (j * 7 + 6) (by omega)
      have KK := Lib.hid (show KeptOut (fun b => b = g ∨ blkX xs[j] = some b) wr (w4.setCell ⟨g, j * 7 + 6, none⟩ (.string (markB (q + 1 + 1 + 1 + 1 + 1 + X.2.2.marks.length)))) from
        ((((K4.out.mono (fun b _ hb => .inl hb)).trans (KM.out.mono (fun b _ hb => .inr (by rw [HXX.out]; exact hb)))).trans (.of_below hb4)).setCell (.inl rfl) _))
      go_wp2
      go_roundw
      case rel =>
        refine ⟨j + 1, by omega, by go_num, ⟨_, rfl, by omega, by have := HQN.out; omega⟩, _, (O6.out.stored (j * 7 + 6) _).1, HLF.out.next HAP.out hlx KK.out, hkept.trans (KK.out.mono (fun b _ hb => ?_))⟩
        rcases hb with rfl | hb
        · exact ⟨hg.1, hgl⟩
        · rw [HXX.out] at hb
          exact HOX.out.lt hb
      case measure => simp [intOf]; omega
    · clear hsl
      go_wp2
      go_ret
      exact ⟨q, rfl, by have := HSL.out j; rw [HN.out] at this; omega, hkept⟩
set_option maxRecDepth 100000 in
set_option maxHeartbeats 4000000 in
theorem markModel_c {v : Value} {m : ModelD} {w : World} {base lim : Nat} (h : OwModel w base lim v m) (hl : lim ≤ w.heap.size) (hb : (bulkModel m : Int) ≤ 1048576) :
    Calls Tryz.prog 11 #[v, .int .i64 1] w fun e w' => ∃ k' : Int, e = .returned (.int .i64 k') ∧ 0 ≤ k' ∧ KeptOut (fun b => base ≤ b ∧ b < lim) w w' := by
  obtain ⟨v3, v4, v5, v6, b0, b1, b2, b3, b4, rfl, g, h3, h4, h5, h6⟩ := h
  have hBK : bulkModel m = bulkSpaceS m.sps + bulkUseS m.uses + bulkThingS m.ths + bulkPastS m.pasts := rfl
  have hc3 : (bulkSpaceS m.sps : Int) ≤ 1048576 := by omega
  have hc4 : (bulkUseS m.uses : Int) ≤ 1048576 := by omega
  have hc5 : (bulkThingS m.ths : Int) ≤ 1048576 := by omega
  have hc6 : (bulkPastS m.pasts : Int) ≤ 1048576 := by omega
  have n3 : numSpaceS m.sps ≤ 5242880 := by have := bulkSpaceS_len hc3; unfold numSpaceS; omega
  have n4 : numUseS m.uses ≤ 5242880 := by have := bulkUseS_len hc4; unfold numUseS; omega
  have n6 : numPastS m.pasts ≤ 68719476736 := numPastS_small hc6
  have p3 := numSpaceS_pos m.sps
  have p4 := numUseS_pos m.uses
  have p6 := numPastS_pos m.pasts
  have H3 := Lib.hid h3
  have H4 := Lib.hid h4
  have H5 := Lib.hid h5
  have H6 := Lib.hid h6
  have HG := Lib.hid g
  clear h3 h4 h5 h6 hBK g
  go_enter Tryz.func11, Tryz.ntmps11
  go_wp2_with fail
  obtain ⟨w2, hA⟩ : ∃ wA, w.alloc (.cells #[.int .i64 m.rev, .int .i64 m.uid, .int .i64 m.flo, v3, v4, v5, v6] 36) = wA := ⟨_, rfl⟩
  have BX := Lib.hid (show Box w2 w.heap.size [.int .i64 m.rev, .int .i64 m.uid, .int .i64 m.flo, v3, v4, v5, v6] by rw [← hA]; exact Box.alloc w _ _)
  have B2 := Lib.hid (show Below w.heap.size w w2 by rw [← hA]; exact below_alloc _ _)
  have K2 := Lib.hid (show KeptOut (fun b => base ≤ b ∧ b < lim) w w2 from .of_below B2.out)
  have z2 := B2.out.size
  rw [hA]
  clear hA
  refine (markSpaceS_c (H3.out.below B2.out) (k := (1 : Int)) (by omega) (by omega) (by omega)).mono ?_
  rintro e w3 ⟨rfl, -, km⟩
  have O4 := Lib.hid ((H4.out.below B2.out).kept km (fun b h1 h2 h3 => by have := HG.out; omega))
  have O5 := Lib.hid ((H5.out.below B2.out).kept km (fun b h1 h2 h3 => by have := HG.out; omega))
  have O6 := Lib.hid ((H6.out.below B2.out).kept km (fun b h1 h2 h3 => by have := HG.out; omega))
  have K3 := Lib.hid (K2.out.trans (km.mono (fun b _ hb => by have := HG.out; omega)))
  have BX3 := Lib.hid (BX.out.kept km (by have := HG.out; omega))
  have x4 := (BX3.out 4 _ rfl).1
  clear km
  go_wp2_with fail
  refine (markUseS_c O4.out (k := (1 : Int) + numSpaceS m.sps) (by omega) (by omega) (by omega)).mono ?_
  rintro e w4 ⟨rfl, -, km⟩
  have O5b := Lib.hid (O5.out.kept km (fun b h1 h2 h3 => by have := HG.out; omega))
  have O6b := Lib.hid (O6.out.kept km (fun b h1 h2 h3 => by have := HG.out; omega))
  have K4 := Lib.hid (K3.out.trans (km.mono (fun b _ hb => by have := HG.out; omega)))
  have BX4 := Lib.hid (BX3.out.kept km (by have := HG.out; omega))
  have x5 := (BX4.out 5 _ rfl).1
  clear km x4
  go_wp2_with fail
  refine (markThingS_c O5b.out (k := (1 : Int) + numSpaceS m.sps + numUseS m.uses) (by omega) (by omega) hc5).mono ?_
  rintro e w5 ⟨k5, rfl, hk5, km⟩
  have O6c := Lib.hid (O6b.out.kept km (fun b h1 h2 h3 => by have := HG.out; omega))
  have K5 := Lib.hid (K4.out.trans (km.mono (fun b _ hb => by have := HG.out; omega)))
  have BX5 := Lib.hid (BX4.out.kept km (by have := HG.out; omega))
  have x6 := (BX5.out 6 _ rfl).1
  clear km x5
  go_wp2_with fail
  refine (markPastS_c O6c.out (k := k5) (by omega) (by omega) n6).mono ?_
  rintro e w6 ⟨rfl, -, km⟩
  have K6 := Lib.hid (K5.out.trans (km.mono (fun b _ hb => by have := HG.out; omega)))
  clear km x6
  go_wp2
  go_ret
  exact ⟨_, rfl, by omega, K6.out⟩
end Go.Proofs.YtdimenahnohjlaaGreat

/- ModelWatch, of the model and of the program. -/
namespace Go.Proofs.YtdimenahnohjlaaGreat
open Go Go.RowKit

def seenP (sp : ByteArray) (since : Int) (p : PastD) : Bool := decide (since < p.1) && decide (p.2.2.1 = sp)
def watOf (l : List PastD) (sp : ByteArray) (since : Int) : List PastD := l.filter (seenP sp since)
theorem watOf_yes {l : List PastD} {k : Nat} (h : k < l.length) {sp : ByteArray} {since : Int} (h1 : since < l[k].1) (h2 : l[k].2.2.1 = sp) : watOf (l.take (k + 1)) sp since = watOf (l.take k) sp since ++ [l[k]] := by
  unfold watOf
  rw [List.take_succ_eq_append_getElem h, List.filter_append]
  congr 1
  simp [seenP, h1, h2]
theorem watOf_no {l : List PastD} {k : Nat} (h : k < l.length) {sp : ByteArray} {since : Int} (h1 : ¬ (since < l[k].1 ∧ l[k].2.2.1 = sp)) : watOf (l.take (k + 1)) sp since = watOf (l.take k) sp since := by
  unfold watOf
  rw [List.take_succ_eq_append_getElem h, List.filter_append]
  have : List.filter (seenP sp since) [l[k]] = [] := by
    rw [List.filter_eq_nil_iff]
    intro x hx
    obtain rfl := List.mem_singleton.1 hx
    simp only [seenP, Bool.and_eq_true, decide_eq_true_eq]
    exact h1
  rw [this, List.append_nil]
theorem watOf_len (l : List PastD) (sp : ByteArray) (since : Int) : (watOf l sp since).length ≤ l.length := List.length_filter_le _ _
theorem watOf_take_len (l : List PastD) (sp : ByteArray) (since : Int) (k : Nat) : (watOf (l.take k) sp since).length ≤ l.length := Nat.le_trans (watOf_len _ _ _) (by simp [Nat.min_le_right])
/-- is the past of this count still kept, and the model ok -/
def watB (m : ModelD) (since : Int) : Bool := modelB m && !decide (since < m.flo)
def watD (m : ModelD) (sp : ByteArray) (since : Int) : List PastD := if watB m since then watOf m.pasts sp since else []
def WatPost (w : World) (u : List PastD) (b : Bool) (e : Ending) (w' : World) : Prop := ∃ v, e = .returned (.tuple #[v, .bool b]) ∧ w'.ownsRow w.heap.size 67 4 v u.length (u.flatMap encPast) ∧ Below w.heap.size w w'
theorem own_nil4 (w : World) (base : Nat) (e : TypeId) : w.ownsRow base e 4 (.slice none 0 0) 0 [] := ⟨by simp, .inl ⟨rfl, rfl⟩⟩
theorem cells_four (w : World) (p : PastD) (e : TypeId) : ∀ j u, [Value.int .i64 p.1, .string p.2.1, .string p.2.2.1, .string p.2.2.2][j]? = some u → (w.alloc (.cells #[.int .i64 p.1, .string p.2.1, .string p.2.2.1, .string p.2.2.2] e)).cell? ((⟨w.heap.size, 0, none⟩ : Addr).add j) = some u := by
  intro j u hj
  rw [addr_add]
  have := (Box.alloc w #[.int .i64 p.1, .string p.2.1, .string p.2.2.1, .string p.2.2.2] e j u (by simpa using hj)).1
  simpa using this
theorem cells_four2 (w : World) (c : Obj) (p : PastD) (e : TypeId) : ∀ j u, [Value.int .i64 p.1, .string p.2.1, .string p.2.2.1, .string p.2.2.2][j]? = some u → ((w.alloc c).alloc (.cells #[.int .i64 p.1, .string p.2.1, .string p.2.2.1, .string p.2.2.2] e)).cell? ((⟨w.heap.size + 1, 0, none⟩ : Addr).add j) = some u := by
  intro j u hj
  have := cells_four (w.alloc c) p e j u hj
  rwa [World.size_alloc] at this
set_option maxRecDepth 100000 in
set_option maxHeartbeats 4000000 in
theorem l10Watch_any {v : Value} {m : ModelD} {w : World} (h : VwModel w v m) (hb : (bulkPastS m.pasts : Int) ≤ 1048576) (sp : ByteArray) (since : Int) :
    Calls Tryz.prog 37 #[v, .string sp, .int .i64 since] w (WatPost w (if since < m.flo then [] else watOf m.pasts sp since) (!decide (since < m.flo))) := by
  obtain ⟨v3, v4, v5, v6, rfl, -, -, -, h6⟩ := h
  obtain ⟨rev, uid, flo, S, U, T, P⟩ := m
  simp only at h6 hb ⊢
  obtain ⟨a6, ca6, rfl, hl6, hk6⟩ := h6
  have hlen := bulkPastS_len hb
  obtain ⟨i0, hi, hz0, hz1, hz2⟩ := info_parts infoPast
  have HX6 := Lib.hid hl6
  clear hl6 hk6 hb
  have HLE := Lib.hid (show ∀ k, (watOf (P.take k) sp since).length ≤ P.length from fun k => watOf_take_len P sp since k)
  obtain ⟨w1, hA⟩ : ∃ wA, w.alloc (.cells #[.int .i64 rev, .int .i64 uid, .int .i64 flo, v3, v4, v5, .slice a6 P.length ca6] 36) = wA := ⟨_, rfl⟩
  have BX := Lib.hid (show Box w1 w.heap.size [.int .i64 rev, .int .i64 uid, .int .i64 flo, v3, v4, v5, .slice a6 P.length ca6] by rw [← hA]; exact Box.alloc w _ _)
  have B1 := Lib.hid (show Below w.heap.size w w1 by rw [← hA]; exact below_alloc _ _)
  have z1 : w1.heap.size = w.heap.size + 1 := by rw [← hA, World.size_alloc]
  have O1 := Lib.hid (show (w1.alloc (.cells #[] 67)).ownsRow w1.heap.size 67 4 (.slice (some ⟨w.heap.size + 1, 0, none⟩) 0 0) 0 [] by rw [← z1]; exact World.ownsRow_made (e := 67) (size := 4) w1 #[] 0 (Nat.le_refl _) (by unfold maxLen; omega) rfl)
  have HF := Lib.hid (show ∀ W, Below w1.heap.size w1 W → Below w.heap.size w W from fun W hb => B1.out.trans (hb.mono (by omega)))
  have HX := Lib.hid (HX6.out.below B1.out)
  have HA := Lib.hid hA
  clear hA
  by_cases hf : since < flo
  · rw [if_pos hf, decide_eq_true hf]
    have hfd : decide (since < flo) = true := decide_eq_true hf
    go_enter Tryz.func37, Tryz.ntmps37
    go_wp2
    rw [HA.out]
    go_ret2
    exact ⟨_, rfl, own_mono (by omega) O1.out, HF.out _ (below_alloc _ _)⟩
  rw [if_neg hf, decide_eq_false hf]
  have hf' : flo ≤ since := by omega
  have hfd : decide (since < flo) = false := decide_eq_false hf
  go_enter Tryz.func37, Tryz.ntmps37
  go_wp2_with fail
  rw [HA.out]
  go_loopw [8, 9] (fun o i wr => ∃ (k : Nat) (d : List PastD), k ≤ P.length ∧ i = .int .i64 k ∧ watOf (P.take k) sp since = d ∧ d.length ≤ P.length ∧ wr.ownsRow w1.heap.size 67 4 o d.length (d.flatMap encPast) ∧ Below w1.heap.size w1 wr) (fun _ i _ => P.length - (intOf i).toNat)
  case atStart => exact ⟨0, [], Nat.zero_le _, rfl, rfl, Nat.zero_le _, O1.out, below_alloc _ _⟩
  case round =>
    clear O1
    obtain ⟨k, d, hk, rfl, hd, hdl, ho, hbel⟩ := hrel
    have HO := Lib.hid ho
    have HB := Lib.hid hbel
    have HD := Lib.hid hd
    have hbz := hbel.size
    obtain ⟨va, vc, rfl⟩ := own_shpU ho
    clear ho hd
    obtain ⟨x6, _⟩ := (BX.out.below hbel) 6 _ rfl
    clear hbel
    by_cases hlt : k < P.length
    · obtain ⟨b, ob, rfl, hcell⟩ := HX.out.2.resolve_left (fun e => by rw [e] at hlt; simp at hlt)
      obtain ⟨c0, c1, c2, c3⟩ := cellsPast HB.out hcell k hlt
      have HC5 := Lib.hid hcell
      have hkI : (k : Int) < (P.length : Int) := by omega
      have hk0 : (0 : Int) ≤ (k : Int) := by omega
      by_cases h1 : since < P[k].1
      rotate_left
      · have h1' : P[k].1 ≤ since := by omega
        have HN := Lib.hid (show watOf (P.take (k + 1)) sp since = d by rw [watOf_no hlt (fun h => h1 h.1), HD.out])
        have q1 : decide (since < P[k].1) = false := by simpa using h1
        clear hcell
        go_wp2
        go_roundw
        case rel => exact ⟨k + 1, d, by omega, by go_num, HN.out, hdl, HO.out, HB.out⟩
        case measure => simp [intOf]; omega
      by_cases e : P[k].2.2.1 = sp
      rotate_left
      · have q1 : decide (since < P[k].1) = true := by simpa using h1
        have q2 : (P[k].2.2.1.toList == sp.toList) = false := by
          rw [beq_eq_false_iff_ne]
          exact fun e2 => e (toList_inj e2)
        have HN := Lib.hid (show watOf (P.take (k + 1)) sp since = d by rw [watOf_no hlt (fun h => e h.2), HD.out])
        clear e
        clear hcell
        go_wp2
        go_roundw
        case rel => exact ⟨k + 1, d, by omega, by go_num, HN.out, hdl, HO.out, HB.out⟩
        case measure => simp [intOf]; omega
      · have q1 : decide (since < P[k].1) = true := by simpa using h1
        have q2 : (P[k].2.2.1.toList == sp.toList) = true := by rw [e]; simp
        have HN := Lib.hid (show watOf (P.take (k + 1)) sp since = d ++ [P[k]] by rw [watOf_yes hlt h1 e, HD.out])
        have hdn : d.length + 1 ≤ P.length := by have h1 := HLE.out (k + 1); rw [HN.out] at h1; simpa using h1
        clear e hcell
        go_wp2_with (at_builtin; refine wpList_append_own _ rfl _ _ 34 rfl w1.heap.size 67 i0 (.agg #[.int .i64 0, .string ⟨#[]⟩, .string ⟨#[]⟩, .string ⟨#[]⟩]) 4 56 Tryz.underlying34 hi hz0 hz1 hz2 rfl (by decide) _ d.length _ rfl (HO.out.alloc _) ⟨wr.heap.size, 0, none⟩ 1 1 [.int .i64 P[k].1, .string P[k].2.1, .string P[k].2.2.1, .string P[k].2.2.2] rfl rfl (cells_four _ P[k] _) (by simp [Value.oneCell']) (by unfold maxLen; omega) (by omega) (by simp; omega) ?_; intro v2 w2 o2 g2 _; have B2 := Lib.hid (show Below w1.heap.size w1 w2 from (HB.out.alloc hbz _).grown g2 (by simp; omega) (fun k hk => (HO.out.lt k hk).1)); have O2 := Lib.hid (show w2.ownsRow w1.heap.size 67 4 v2 (d ++ [P[k]]).length ((d ++ [P[k]]).flatMap encPast) by rw [List.length_append, List.flatMap_append]; exact o2); clear o2 g2)
        go_roundw
        case rel => exact ⟨k + 1, d ++ [P[k]], by omega, by go_num, HN.out, by simpa using hdn, O2.out, B2.out⟩
        case measure => simp [intOf]; omega
    · have HN := Lib.hid (show watOf P sp since = d by rw [← HD.out, List.take_of_length_le (by omega)])
      go_wp2
      go_ret2
      rw [HN.out]
      exact ⟨_, rfl, own_mono (by omega) HO.out, HF.out _ HB.out⟩
set_option maxRecDepth 100000 in
set_option maxHeartbeats 4000000 in
theorem specWatch_any {v : Value} {m : ModelD} {w : World} (h : VwModel w v m) (hb : (bulkModel m : Int) ≤ 1048576) (sp : ByteArray) (since : Int) :
    Calls Tryz.prog 14 #[v, .string sp, .int .i64 since] w (WatPost w (watD m sp since) (watB m since)) := by
  have hbt := (bulk_parts hb).2.2.2
  have HV0 := Lib.hid h
  obtain ⟨v3, v4, v5, v6, rfl, -, -, -, -⟩ := h
  obtain ⟨R, hR⟩ : ∃ R : Bool, modelB m = R := ⟨_, rfl⟩
  obtain ⟨D, hD⟩ : ∃ D, watD m sp since = D := ⟨_, rfl⟩
  obtain ⟨Q, hQ⟩ : ∃ Q, watB m since = Q := ⟨_, rfl⟩
  rw [hD, hQ]
  unfold watD at hD
  rw [hQ] at hD
  unfold watB at hQ
  rw [hR] at hQ
  have HR := Lib.hid hR
  have HDD := Lib.hid hD
  have HQQ := Lib.hid hQ
  clear hR hD hQ
  go_enter Tryz.func14, Tryz.ntmps14
  go_wp2_with fail
  obtain ⟨w0, hA⟩ : ∃ wA, w.alloc (.cells #[.int .i64 m.rev, .int .i64 m.uid, .int .i64 m.flo, v3, v4, v5, v6] 36) = wA := ⟨_, rfl⟩
  have BX0 := Lib.hid (show Box w0 w.heap.size [.int .i64 m.rev, .int .i64 m.uid, .int .i64 m.flo, v3, v4, v5, v6] by rw [← hA]; exact Box.alloc w _ _)
  have B0 := Lib.hid (show Below w.heap.size w w0 by rw [← hA]; exact below_alloc _ _)
  have z0 : w0.heap.size = w.heap.size + 1 := by rw [← hA, World.size_alloc]
  rw [hA]
  clear hA
  refine (specModelOk_any (HV0.out.below B0.out) hb).mono ?_
  rintro e w1 ⟨rfl, b1⟩
  rw [HR.out]
  have BX := Lib.hid (BX0.out.below b1)
  have B1 := Lib.hid (B0.out.trans (b1.mono (by omega)))
  have z1 := b1.size
  obtain ⟨⟨x0, -⟩, ⟨x1, -⟩, ⟨x2, -⟩, ⟨x3, -⟩, ⟨x4, -⟩, ⟨x5, -⟩, x6, -⟩ := show _ ∧ _ ∧ _ ∧ _ ∧ _ ∧ _ ∧ _ from ⟨BX.out 0 _ rfl, BX.out 1 _ rfl, BX.out 2 _ rfl, BX.out 3 _ rfl, BX.out 4 _ rfl, BX.out 5 _ rfl, BX.out 6 _ rfl⟩
  clear b1
  cases R with
  | false =>
    obtain rfl : Q = false := HQQ.out.symm
    have HDN := Lib.hid (show D = [] from HDD.out.symm)
    have O1 := Lib.hid (World.ownsRow_made (base := w.heap.size) (e := 67) (size := 4) w1 #[] 0 (by omega) (by unfold maxLen; omega) rfl)
    go_wp2
    go_ret2
    rw [HDN.out]
    exact ⟨_, rfl, O1.out, B1.out.alloc (by omega) _⟩
  | true =>
  have HDN := Lib.hid (show (if since < m.flo then [] else watOf m.pasts sp since) = D by
    rw [← HDD.out, ← HQQ.out]
    by_cases hf : since < m.flo <;> simp [hf])
  have HQN := Lib.hid (show (!decide (since < m.flo)) = Q by rw [← HQQ.out]; rfl)
  go_wp2_with fail
  refine (l10Watch_any (HV0.out.below B1.out) hbt sp since).mono ?_
  rw [HDN.out, HQN.out]
  rintro e w2 ⟨u, rfl, o, b⟩
  have HO := Lib.hid o
  have HB := Lib.hid b
  clear o b
  go_wp2
  go_ret2
  exact ⟨_, rfl, own_mono (by omega) HO.out, B1.out.trans (HB.out.mono (by omega))⟩
set_option maxRecDepth 100000 in
set_option maxHeartbeats 4000000 in
theorem implWatch_any {v : Value} {m : ModelD} {w : World} (h : VnModel w v m) (hb : (bulkModel m : Int) ≤ 1048576) (sp : ByteArray) (since : Int) :
    Calls Tryz.prog 15 #[v, .string sp, .int .i64 since] w (WatPost w (watD m sp since) (watB m since)) := by
  obtain ⟨hbs, hbu, hbt, hbp⟩ := bulk_parts hb
  have HV0 := Lib.hid h
  obtain ⟨v3, v4, v5, v6, rfl, -, -, -, h6⟩ := h
  obtain ⟨rev, uid, flo, S, U, T, P⟩ := m
  simp only at h6 hbp ⊢
  obtain ⟨a6, ca6, rfl, hl6, hk6⟩ := h6
  have hlen := bulkPastS_len hbp
  obtain ⟨i0, hi, hz0, hz1, hz2⟩ := info_parts infoPast
  have HX6 := Lib.hid hl6
  clear hl6 hk6 hbs hbu hbt hbp
  have HLE := Lib.hid (show ∀ k, (watOf (P.take k) sp since).length ≤ P.length from fun k => watOf_take_len P sp since k)
  obtain ⟨R, hR⟩ : ∃ R : Bool, modelB ⟨rev, uid, flo, S, U, T, P⟩ = R := ⟨_, rfl⟩
  obtain ⟨D, hD⟩ : ∃ D, watD ⟨rev, uid, flo, S, U, T, P⟩ sp since = D := ⟨_, rfl⟩
  obtain ⟨Q, hQ⟩ : ∃ Q, watB ⟨rev, uid, flo, S, U, T, P⟩ since = Q := ⟨_, rfl⟩
  rw [hD, hQ]
  unfold watD at hD
  rw [hQ] at hD
  unfold watB at hQ
  rw [hR] at hQ
  simp only at hD hQ
  have HR := Lib.hid hR
  have HDD := Lib.hid hD
  have HQQ := Lib.hid hQ
  clear hR hD hQ
  go_enter Tryz.func15, Tryz.ntmps15
  go_wp2_with fail
  obtain ⟨w0, hA⟩ : ∃ wA, w.alloc (.cells #[.int .i64 rev, .int .i64 uid, .int .i64 flo, v3, v4, v5, .slice a6 P.length ca6] 36) = wA := ⟨_, rfl⟩
  have BX0 := Lib.hid (show Box w0 w.heap.size [.int .i64 rev, .int .i64 uid, .int .i64 flo, v3, v4, v5, .slice a6 P.length ca6] by rw [← hA]; exact Box.alloc w _ _)
  have B0 := Lib.hid (show Below w.heap.size w w0 by rw [← hA]; exact below_alloc _ _)
  have z0 : w0.heap.size = w.heap.size + 1 := by rw [← hA, World.size_alloc]
  rw [hA]
  clear hA
  refine (implModelOk_any (HV0.out.below B0.out) hb).mono ?_
  rintro e w1 ⟨rfl, b1⟩
  rw [HR.out]
  have BX := Lib.hid (BX0.out.below b1)
  have B1 := Lib.hid (B0.out.trans (b1.mono (by omega)))
  have z1 := b1.size
  have HF := Lib.hid (show ∀ W, Below w1.heap.size w1 W → Below w.heap.size w W from fun W hb => B1.out.trans (hb.mono (by omega)))
  have HX := Lib.hid (HX6.out.below B1.out)
  obtain ⟨x2, _⟩ := BX.out 2 _ rfl
  obtain ⟨x6, _⟩ := BX.out 6 _ rfl
  clear b1
  cases R with
  | false =>
    obtain rfl : Q = false := HQQ.out.symm
    have HDN := Lib.hid (show D = [] from HDD.out.symm)
    go_wp2
    go_ret2
    rw [HDN.out]
    exact ⟨_, rfl, own_nil4 _ _ _, B1.out⟩
  | true =>
  by_cases hf : since < flo
  · have hfd : decide (since < flo) = true := decide_eq_true hf
    obtain rfl : Q = false := by rw [← HQQ.out, hfd]; rfl
    have HDN := Lib.hid (show D = [] from HDD.out.symm)
    go_wp2
    go_ret2
    rw [HDN.out]
    exact ⟨_, rfl, own_nil4 _ _ _, B1.out⟩
  have hf' : flo ≤ since := by omega
  have hfd : decide (since < flo) = false := decide_eq_false hf
  obtain rfl : Q = true := by rw [← HQQ.out, hfd]; rfl
  have HDN := Lib.hid (show D = watOf P sp since from HDD.out.symm)
  clear hf
  go_wp2_with fail
  clear x2 x6
  go_loopw [8, 23] (fun o i wr => ∃ (k : Nat) (d : List PastD), k ≤ P.length ∧ i = .int .i64 k ∧ watOf (P.take k) sp since = d ∧ d.length ≤ P.length ∧ wr.ownsRow w1.heap.size 67 4 o d.length (d.flatMap encPast) ∧ Below w1.heap.size w1 wr) (fun _ i _ => P.length - (intOf i).toNat)
  case atStart => exact ⟨0, [], Nat.zero_le _, rfl, rfl, Nat.zero_le _, own_nil4 _ _ _, Below.refl _ _⟩
  case round =>
    obtain ⟨k, d, hk, rfl, hd, hdl, ho, hbel⟩ := hrel
    have HO := Lib.hid ho
    have HB := Lib.hid hbel
    have HD := Lib.hid hd
    have hbz := hbel.size
    obtain ⟨va, vc, rfl⟩ := own_shpU ho
    clear ho hd
    obtain ⟨x6, _⟩ := (BX.out.below hbel) 6 _ rfl
    clear hbel
    by_cases hlt : k < P.length
    · obtain ⟨b, ob, rfl, hcell⟩ := HX.out.2.resolve_left (fun e => by rw [e] at hlt; simp at hlt)
      obtain ⟨c0, c1, c2, c3⟩ := cellsPast HB.out hcell k hlt
      have HC5 := Lib.hid hcell
      have hkI : (k : Int) < (P.length : Int) := by omega
      have hk0 : (0 : Int) ≤ (k : Int) := by omega
      by_cases e : P[k].2.2.1 = sp
      rotate_left
      · have q2 : (P[k].2.2.1.toList == sp.toList) = false := by
          rw [beq_eq_false_iff_ne]
          exact fun e2 => e (toList_inj e2)
        have HN := Lib.hid (show watOf (P.take (k + 1)) sp since = d by rw [watOf_no hlt (fun h => e h.2), HD.out])
        clear e
        clear hcell
        go_wp2
        go_roundw
        case rel => exact ⟨k + 1, d, by omega, by go_num, HN.out, hdl, (HO.out.alloc _), (HB.out.alloc hbz _)⟩
        case measure => simp [intOf]; omega
      by_cases h1 : since < P[k].1
      rotate_left
      · have h1' : P[k].1 ≤ since := by omega
        have q2 : (P[k].2.2.1.toList == sp.toList) = true := by rw [e]; simp
        have HN := Lib.hid (show watOf (P.take (k + 1)) sp since = d by rw [watOf_no hlt (fun h => h1 h.1), HD.out])
        have q1 : decide (since < P[k].1) = false := by simpa using h1
        clear e
        clear hcell
        go_wp2
        go_roundw
        case rel => exact ⟨k + 1, d, by omega, by go_num, HN.out, hdl, (HO.out.alloc _), (HB.out.alloc hbz _)⟩
        case measure => simp [intOf]; omega
      · have q1 : decide (since < P[k].1) = true := by simpa using h1
        have q2 : (P[k].2.2.1.toList == sp.toList) = true := by rw [e]; simp
        have HN := Lib.hid (show watOf (P.take (k + 1)) sp since = d ++ [P[k]] by rw [watOf_yes hlt h1 e, HD.out])
        have hdn : d.length + 1 ≤ P.length := by have h1 := HLE.out (k + 1); rw [HN.out] at h1; simpa using h1
        clear e hcell
        go_wp2_with (at_builtin; refine wpList_append_own _ rfl _ _ 34 rfl w1.heap.size 67 i0 (.agg #[.int .i64 0, .string ⟨#[]⟩, .string ⟨#[]⟩, .string ⟨#[]⟩]) 4 56 Tryz.underlying34 hi hz0 hz1 hz2 rfl (by decide) _ d.length _ rfl ((HO.out.alloc _).alloc _) ⟨wr.heap.size + 1, 0, none⟩ 1 1 [.int .i64 P[k].1, .string P[k].2.1, .string P[k].2.2.1, .string P[k].2.2.2] rfl rfl (cells_four2 _ _ P[k] _) (by simp [Value.oneCell']) (by unfold maxLen; omega) (by omega) (by simp; omega) ?_; intro v2 w2 o2 g2 _; have B2 := Lib.hid (show Below w1.heap.size w1 w2 from ((HB.out.alloc hbz _).alloc (by simp; omega) _).grown g2 (by simp; omega) (fun k hk => (HO.out.lt k hk).1)); have O2 := Lib.hid (show w2.ownsRow w1.heap.size 67 4 v2 (d ++ [P[k]]).length ((d ++ [P[k]]).flatMap encPast) by rw [List.length_append, List.flatMap_append]; exact o2); clear o2 g2)
        go_roundw
        case rel => exact ⟨k + 1, d ++ [P[k]], by omega, by go_num, HN.out, by simpa using hdn, O2.out, B2.out⟩
        case measure => simp [intOf]; omega
    · have HN := Lib.hid (show watOf P sp since = d by rw [← HD.out, List.take_of_length_le (by omega)])
      go_wp2
      go_ret2
      rw [HDN.out, HN.out]
      exact ⟨_, rfl, own_mono (by omega) HO.out, HF.out _ HB.out⟩
end Go.Proofs.YtdimenahnohjlaaGreat

/- The walk of FnExactModelWatch. -/
namespace Go.Proofs.YtdimenahnohjlaaGreat
open Go Go.RowKit

set_option maxRecDepth 100000 in
set_option maxHeartbeats 8000000 in
theorem fnExactModelWatchWalk {w : World} (vm : Value) (m : ModelD) (hm : VwModel w vm m) (s : ByteArray) (hs0 : s.size ≤ maxLen) (c : Int) :
    Calls Tryz.prog 4 #[vm, .string s, .int .i64 c] w fun e w' => e = .returned (.bool true) ∧ Below w.heap.size w w' := by
  have HV0 := Lib.hid hm
  have hSZ : ∀ u ∈ watOf m.pasts s c, OkPast u := by
    obtain ⟨_, _, _, _, _, -, -, -, ⟨_, _, _, _, hok⟩⟩ := hm
    intro u hu
    exact hok u (List.mem_filter.1 hu).1
  obtain ⟨v3, v4, v5, v6, rfl, ⟨a3, ac3, rfl, -, -⟩, ⟨a4, ac4, rfl, -, -⟩, ⟨a5, ac5, xs, rfl, -, -, -⟩, ⟨a6, ac6, rfl, -, -⟩⟩ := hm
  obtain ⟨l5, hl5⟩ : ∃ n, xs.length = n := ⟨_, rfl⟩
  rw [hl5] at HV0 ⊢
  clear hl5
  obtain ⟨w1, hA⟩ : ∃ wA, w.alloc (.cells #[.int .i64 m.rev, .int .i64 m.uid, .int .i64 m.flo, .slice a3 m.sps.length ac3, .slice a4 m.uses.length ac4, .slice a5 l5 ac5, .slice a6 m.pasts.length ac6] 27) = wA := ⟨_, rfl⟩
  have BX := Lib.hid (show Box w1 w.heap.size [.int .i64 m.rev, .int .i64 m.uid, .int .i64 m.flo, .slice a3 m.sps.length ac3, .slice a4 m.uses.length ac4, .slice a5 l5 ac5, .slice a6 m.pasts.length ac6] by rw [← hA]; exact Box.alloc w _ _)
  have B1 := Lib.hid (show Below w.heap.size w w1 by rw [← hA]; exact below_alloc _ _)
  have HV := HV0.out.below B1.out
  have z1 : w1.heap.size = w.heap.size + 1 := by rw [← hA, World.size_alloc]
  have HF := Lib.hid (show ∀ W, Below w1.heap.size w1 W → Below w.heap.size w W from fun W hb => B1.out.trans (hb.mono (by omega)))
  have KS := Lib.hid (show ∀ W, Below w1.heap.size w1 W → W.cell? ⟨w.heap.size, 0, none⟩ = some (.int .i64 m.rev) ∧ W.cell? ⟨w.heap.size, 1, none⟩ = some (.int .i64 m.uid) ∧ W.cell? ⟨w.heap.size, 2, none⟩ = some (.int .i64 m.flo) ∧ W.cell? ⟨w.heap.size, 3, none⟩ = some (.slice a3 m.sps.length ac3) ∧ W.cell? ⟨w.heap.size, 4, none⟩ = some (.slice a4 m.uses.length ac4) ∧ W.cell? ⟨w.heap.size, 5, none⟩ = some (.slice a5 l5 ac5) ∧ W.cell? ⟨w.heap.size, 6, none⟩ = some (.slice a6 m.pasts.length ac6) from fun W hb => by
    have h := BX.out.below hb
    exact ⟨(h 0 _ rfl).1, (h 1 _ rfl).1, (h 2 _ rfl).1, (h 3 _ rfl).1, (h 4 _ rfl).1, (h 5 _ rfl).1, (h 6 _ rfl).1⟩)
  have HA := Lib.hid hA
  clear hA
  unfold maxLen at hs0
  by_cases hs : (1048576 : Int) < (s.size : Int)
  · go_enter Tryz.func4, Tryz.ntmps4
    go_wp2_with fail
    go_ret
    exact ⟨rfl, (by repeat (first | exact Below.refl _ _ | (refine Below.alloc ?_ (by first | (simp; done) | (simp; omega)) _) | (refine Below.setCell ?_ (by first | (simp; done) | (simp; omega)) _) | (refine Below.drew ?_)))⟩
  have hs1 : (s.size : Int) ≤ 1048576 := by omega
  clear hs
  by_cases hb : (1048576 : Int) < (bulkModel m : Int)
  · have HRm := Lib.hid (szR_no hb)
    clear hb
    go_enter Tryz.func4, Tryz.ntmps4
    go_wp2_with fail
    rw [HA.out]
    refine (szModel_c HV (left := (1048576 : Int)) (by omega) (by omega)).mono ?_
    rintro e w2 ⟨rfl, b⟩
    rw [HRm.out]
    have G2 := b
    clear b
    go_wp2
    go_ret
    exact ⟨rfl, HF.out _ G2⟩
  have HRm := Lib.hid (szR_yes (show (bulkModel m : Int) ≤ (1048576 : Int) by omega))
  have hqm : 0 ≤ (1048576 : Int) - bulkModel m := by omega
  have hnm : (bulkModel m : Int) ≤ 1048576 := by omega
  clear hb
  obtain ⟨R, hR⟩ : ∃ R : List PastD, watD m s c = R := ⟨_, rfl⟩
  have hRl : R.length ≤ 1048576 := by
    rw [← hR]
    unfold watD
    split
    · exact Nat.le_trans (watOf_len _ _ _) (bulkPastS_len (bulk_parts hnm).2.2.2)
    · exact Nat.zero_le _
  have HRS := Lib.hid (show ∀ u ∈ R, OkPast u by
    rw [← hR]
    unfold watD
    split
    · exact hSZ
    · intro u hu; cases hu)
  have hnr : numPastS R ≤ 68719476736 := by unfold numPastS; omega
  have hnp := numPastS_pos R
  have hrm : R.length ≤ maxLen := by unfold maxLen; omega
  obtain ⟨RB, hRB⟩ : ∃ RB : Bool, watB m c = RB := ⟨_, rfl⟩
  have HSB := Lib.hid hRB
  have HBR : (RB != RB) = false := by simp
  clear hRB
  have HS := Lib.hid hR
  clear hR hSZ
  go_enter Tryz.func4, Tryz.ntmps4
  go_wp2_with fail
  rw [HA.out]
  refine (szModel_c HV (left := (1048576 : Int)) (by omega) (by omega)).mono ?_
  rintro e w2 ⟨rfl, b⟩
  rw [HRm.out]
  have G2 := b
  clear b
  obtain ⟨y0, y1, y2, y3, y4, y5, y6⟩ := KS.out _ G2
  go_wp2_with fail
  refine (toModel_c (HV.below G2) hnm).mono ?_
  rintro e w3 ⟨usm, rfl, o, b⟩
  have G3 := G2.trans (b.mono G2.size)
  have Osm := o
  clear b o y0 y1 y2 y3 y4 y5 y6
  go_wp2_with fail
  refine (specWatch_any Osm.vw hnm s c).mono ?_
  rw [HS.out, HSB.out]
  rintro e w3b ⟨u0, rfl, o, b⟩
  have Z3 := b.size
  replace G3 := G3.trans (b.mono G3.size)
  have ZZ3 := G3.size
  have Ow := owPastS_of o hrm HRS.out
  clear b o Osm
  obtain ⟨y0, y1, y2, y3, y4, y5, y6⟩ := KS.out _ G3
  go_wp2_with fail
  refine (toModel_c (HV.below G3) hnm).mono ?_
  rintro e w4 ⟨uxm, rfl, o, b⟩
  have Z4 := b.size
  have G4 := G3.trans (b.mono G3.size)
  replace Ow := Ow.below b
  clear b y0 y1 y2 y3 y4 y5 y6
  have Oxm := o
  clear o
  have HOX := Oxm
  obtain ⟨v3, v4, v5, v6, b0, b1, b2, b3, b4, e, g, o3, o4, o5, o6⟩ := id Oxm
  obtain ⟨x3, n3, xc3, rfl⟩ := o3.shape
  obtain ⟨x4, n4, xc4, rfl⟩ := o4.shape
  obtain ⟨x5, n5, xc5, rfl⟩ := o5.shape
  obtain ⟨x6, n6, xc6, rfl⟩ := o6.shape
  subst e
  clear o3 o4 o5 o6 g HOX
  obtain ⟨w5, hW5⟩ : ∃ wA, w4.alloc (.cells #[.int .i64 m.rev, .int .i64 m.uid, .int .i64 m.flo, .slice x3 n3 xc3, .slice x4 n4 xc4, .slice x5 n5 xc5, .slice x6 n6 xc6] 36) = wA := ⟨_, rfl⟩
  have BY := Lib.hid (show Box w5 w4.heap.size [.int .i64 m.rev, .int .i64 m.uid, .int .i64 m.flo, .slice x3 n3 xc3, .slice x4 n4 xc4, .slice x5 n5 xc5, .slice x6 n6 xc6] by rw [← hW5]; exact Box.alloc w4 _ _)
  have b5 : Below w4.heap.size w4 w5 := by rw [← hW5]; exact below_alloc _ _
  have z5 : w5.heap.size = w4.heap.size + 1 := by rw [← hW5, World.size_alloc]
  have G5 := G4.trans (b5.mono G4.size)
  have O5 := Oxm.below b5
  replace Ow := Ow.below b5
  have HW5 := Lib.hid hW5
  have zg := G4.size
  clear hW5 b5 Oxm
  have KY := Lib.hid (show ∀ W, Below w5.heap.size w5 W → W.cell? ⟨w4.heap.size, 0, none⟩ = some (.int .i64 m.rev) ∧ W.cell? ⟨w4.heap.size, 1, none⟩ = some (.int .i64 m.uid) ∧ W.cell? ⟨w4.heap.size, 2, none⟩ = some (.int .i64 m.flo) ∧ W.cell? ⟨w4.heap.size, 3, none⟩ = some (.slice x3 n3 xc3) ∧ W.cell? ⟨w4.heap.size, 4, none⟩ = some (.slice x4 n4 xc4) ∧ W.cell? ⟨w4.heap.size, 5, none⟩ = some (.slice x5 n5 xc5) ∧ W.cell? ⟨w4.heap.size, 6, none⟩ = some (.slice x6 n6 xc6) from fun W hb => by
    have h := BY.out.below hb
    exact ⟨(h 0 _ rfl).1, (h 1 _ rfl).1, (h 2 _ rfl).1, (h 3 _ rfl).1, (h 4 _ rfl).1, (h 5 _ rfl).1, (h 6 _ rfl).1⟩)
  go_wp2_with fail
  rw [HW5.out]
  refine (implWatch_any O5.vn hnm s c).mono ?_
  rw [HS.out, HSB.out]
  rintro e w6 ⟨ug, rfl, o, b⟩
  have Z6 := b.size
  have D6 := b
  have G6 := G5.trans (b.mono G5.size)
  have Og := owPastS_of o hrm HRS.out
  replace O5 := O5.below b
  replace Ow := Ow.below b
  clear b o
  go_wp2_with fail
  refine (eqPastS_c Og.vw Ow.vw).mono ?_
  rintro e w7 ⟨rfl, b⟩
  have Z7 := b.size
  have D7 := D6.trans (b.mono D6.size)
  have G7 := G6.trans (b.mono G6.size)
  replace O5 := O5.below b
  replace Ow := Ow.below b
  replace Og := Og.below b
  have KK := Lib.hid (show ∀ W, Below w7.heap.size w7 W → Below w7.heap.size w7 W ∧ W.cell? ⟨w.heap.size, 0, none⟩ = some (.int .i64 m.rev) ∧ W.cell? ⟨w.heap.size, 1, none⟩ = some (.int .i64 m.uid) ∧ W.cell? ⟨w.heap.size, 2, none⟩ = some (.int .i64 m.flo) ∧ W.cell? ⟨w.heap.size, 3, none⟩ = some (.slice a3 m.sps.length ac3) ∧ W.cell? ⟨w.heap.size, 4, none⟩ = some (.slice a4 m.uses.length ac4) ∧ W.cell? ⟨w.heap.size, 5, none⟩ = some (.slice a5 l5 ac5) ∧ W.cell? ⟨w.heap.size, 6, none⟩ = some (.slice a6 m.pasts.length ac6) ∧ W.cell? ⟨w4.heap.size, 0, none⟩ = some (.int .i64 m.rev) ∧ W.cell? ⟨w4.heap.size, 1, none⟩ = some (.int .i64 m.uid) ∧ W.cell? ⟨w4.heap.size, 2, none⟩ = some (.int .i64 m.flo) ∧ W.cell? ⟨w4.heap.size, 3, none⟩ = some (.slice x3 n3 xc3) ∧ W.cell? ⟨w4.heap.size, 4, none⟩ = some (.slice x4 n4 xc4) ∧ W.cell? ⟨w4.heap.size, 5, none⟩ = some (.slice x5 n5 xc5) ∧ W.cell? ⟨w4.heap.size, 6, none⟩ = some (.slice x6 n6 xc6) from fun W hb => by
    obtain ⟨y0, y1, y2, y3, y4, y5, y6⟩ := KS.out _ (G7.trans (hb.mono G7.size))
    obtain ⟨q0, q1, q2, q3, q4, q5, q6⟩ := KY.out _ (D7.trans (hb.mono D7.size))
    exact ⟨hb, y0, y1, y2, y3, y4, y5, y6, q0, q1, q2, q3, q4, q5, q6⟩)
  have HG7 := Lib.hid G7
  have HD7 := Lib.hid D7
  have HHV := Lib.hid HV
  have HO5 := Lib.hid O5
  have HOw := Lib.hid Ow
  have HOg := Lib.hid Og
  clear b G2 G3 G4 G5 G6 G7 D6 D7 HV O5 Ow Og
  have B0 := (Below.refl w7.heap.size w7).drew
  go_wp2_with fail
  go_region_held3 (fun W => Below w7.heap.size w7 W ∧ W.cell? ⟨w.heap.size, 0, none⟩ = some (.int .i64 m.rev) ∧ W.cell? ⟨w.heap.size, 1, none⟩ = some (.int .i64 m.uid) ∧ W.cell? ⟨w.heap.size, 2, none⟩ = some (.int .i64 m.flo) ∧ W.cell? ⟨w.heap.size, 3, none⟩ = some (.slice a3 m.sps.length ac3) ∧ W.cell? ⟨w.heap.size, 4, none⟩ = some (.slice a4 m.uses.length ac4) ∧ W.cell? ⟨w.heap.size, 5, none⟩ = some (.slice a5 l5 ac5) ∧ W.cell? ⟨w.heap.size, 6, none⟩ = some (.slice a6 m.pasts.length ac6) ∧ W.cell? ⟨w4.heap.size, 0, none⟩ = some (.int .i64 m.rev) ∧ W.cell? ⟨w4.heap.size, 1, none⟩ = some (.int .i64 m.uid) ∧ W.cell? ⟨w4.heap.size, 2, none⟩ = some (.int .i64 m.flo) ∧ W.cell? ⟨w4.heap.size, 3, none⟩ = some (.slice x3 n3 xc3) ∧ W.cell? ⟨w4.heap.size, 4, none⟩ = some (.slice x4 n4 xc4) ∧ W.cell? ⟨w4.heap.size, 5, none⟩ = some (.slice x5 n5 xc5) ∧ W.cell? ⟨w4.heap.size, 6, none⟩ = some (.slice x6 n6 xc6))
    (first | exact KK.out _ B0 | exact KK.out _ B8 | exact KK.out _ B9)
    (first
      | (go_at_call 7; refine (toModel_c (HHV.out.below (HG7.out.trans (B0.mono HG7.out.size))) hnm).mono ?_; rintro e w8 ⟨uy, rfl, oy, b8⟩; have B8 : Below w7.heap.size w7 w8 := B0.trans (b8.mono B0.size))
      | (go_at_call 10; refine (eqModel_c (HO5.out.below B8).vw oy.vw).mono ?_; rintro e w9 ⟨rfl, b9⟩; have B9 : Below w7.heap.size w7 w9 := B8.trans (b9.mono B8.size)))
  have G9 := HG7.out.trans (B9.mono HG7.out.size)
  have O9 := HO5.out.below B9
  have Ow9 := HOw.out.below B9
  have Og9 := HOg.out.below B9
  have Z9 := B9.size
  obtain ⟨q0, q1, q2, q3, q4, q5, q6⟩ := KY.out _ (HD7.out.trans (B9.mono HD7.out.size))
  have HG9 := Lib.hid G9
  have HO9 := Lib.hid O9
  have HOw9 := Lib.hid Ow9
  have HOg9 := Lib.hid Og9
  clear B0 B8 B9 oy b8 b9 G9 O9 Ow9 Og9
  go_wp2_with fail
  refine (markModel_c HO9.out (by omega) hnm).mono ?_
  rintro e w10 ⟨k1, rfl, hk1, kp⟩
  have Z10 := kp.size
  have G10 := kp.below HG9.out HG9.out.size (fun b hb => by omega)
  have Ow10 := HOw9.out.kept kp (fun b h1 h2 h3 => by have h4 := h3.1; have h5 := h3.2; omega)
  have Og10 := HOg9.out.kept kp (fun b h1 h2 h3 => by have h4 := h3.1; have h5 := h3.2; omega)
  have hk2 : ¬ k1 < 0 := by omega
  have hk3 : decide (k1 < 0) = false := decide_eq_false hk2
  clear kp q0 q1 q2 q3 q4 q5 q6
  go_wp2_with fail
  refine (eqPastS_c Og10.vw Ow10.vw).mono ?_
  rintro e w11 ⟨rfl, b⟩
  have Z11 := b.size
  have G11 := G10.trans (b.mono G10.size)
  have Ow11 := Ow10.below b
  have Og11 := Og10.below b
  clear b G10 Ow10 Og10
  go_wp2_with fail
  refine (markPastS_c Og11 (k := (1 : Int)) (by omega) (by omega) hnr).mono ?_
  rintro e w12 ⟨rfl, Og12, kp⟩
  have Z12 := kp.size
  have G12 := kp.below G11 G11.size (fun b hb => by omega)
  have Ow12 := Ow11.kept kp (fun b h1 h2 h3 => by have h4 := h3.1; have h5 := h3.2; omega)
  clear kp G11 Ow11 Og11
  go_wp2_with fail
  refine (heldPastS_c (k := (1 : Int)) (l := R) Og12.vw (by omega) (by omega) hnr).mono ?_
  rintro e w13 ⟨rfl, b⟩
  have Z13 := b.size
  have G13 := G12.trans (b.mono G12.size)
  have Ow13 := Ow12.below b
  have Og13 := Og12.below b
  clear b G12 Ow12 Og12
  obtain ⟨y0, y1, y2, y3, y4, y5, y6⟩ := KS.out _ G13
  have HOw13 := Lib.hid Ow13
  have HOg13 := Lib.hid Og13
  clear Ow13 Og13
  go_wp2_with fail
  refine (toModel_c (HHV.out.below G13) hnm).mono ?_
  rintro e w14 ⟨uz, rfl, o, b⟩
  have G14 := G13.trans (b.mono G13.size)
  have Ow14 := HOw13.out.below b
  have Og14 := HOg13.out.below b
  have Z14 := b.size
  clear b G13 y0 y1 y2 y3 y4 y5 y6
  go_wp2_with fail
  refine (implWatch_any o.vn hnm s c).mono ?_
  rw [HS.out, HSB.out]
  rintro e w15 ⟨uh, rfl, oh, b⟩
  have G15 := G14.trans (b.mono G14.size)
  have Oh := owPastS_of oh hrm HRS.out
  have Ow15 := Ow14.below b
  have Og15 := Og14.below b
  clear b G14 Ow14 Og14 o oh
  go_wp2_with fail
  refine (eqPastS_c Oh.vw Ow15.vw).mono ?_
  rintro e w16 ⟨rfl, b⟩
  have G16 := G15.trans (b.mono G15.size)
  have Og16 := Og15.below b
  clear b G15 Oh Ow15 Og15
  go_wp2_with fail
  refine (heldPastS_c (k := (1 : Int)) (l := R) Og16.vw (by omega) (by omega) hnr).mono ?_
  rintro e w17 ⟨rfl, b⟩
  have G17 := G16.trans (b.mono G16.size)
  clear b G16 Og16
  go_wp2
  go_ret
  exact ⟨rfl, HF.out _ G17⟩
end Go.Proofs.YtdimenahnohjlaaGreat
