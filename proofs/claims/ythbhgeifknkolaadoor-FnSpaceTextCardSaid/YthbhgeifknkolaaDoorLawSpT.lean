import Derived.Test.YthbhgeifknkolaaDoorDrawSpr
import Derived.Test.YthbhgeifknkolaaDoorSpTextP
import Derived.Test.YthbhgeifknkolaaDoorSpRdS
import Derived.Test.YthbhgeifknkolaaDoorSpRdI
/- The walk of FnSpaceText. -/
namespace Go.Proofs.YthbhgeifknkolaaDoor
open Go Go.RowKit

theorem eqSp (a0 a1 : ByteArray) (a2 : Int) (a3 : Bool) (a4 : Int) (W : World) : (binOp .eql 26 (.agg #[.string a0, .string a1, .int .i64 a2, .bool a3, .int .i64 a4]) (.agg #[.string a0, .string a1, .int .i64 a2, .bool a3, .int .i64 a4])).run Tryd.prog W = .ok (.bool true) W := by
  go_simp
theorem neSp (a0 a1 : ByteArray) (a2 : Int) (a3 : Bool) (a4 : Int) (W : World) : (binOp .neq 26 (.agg #[.string a0, .string a1, .int .i64 a2, .bool a3, .int .i64 a4]) (.agg #[.string a0, .string a1, .int .i64 a2, .bool a3, .int .i64 a4])).run Tryd.prog W = .ok (.bool false) W := by
  go_simp
theorem swB_ne {x : SpaceD} (h : spOk x = true) : swB x ≠ ⟨#[]⟩ := by
  have hs : swB x = swL x := by unfold swB; rw [if_pos h]
  have hno : NoSp x.2.1 := by
    rcases spOk_name h with e | e
    · rw [e]; unfold NoSp; decide
    · exact nameB_noSp e
  rw [hs]
  exact text_ne (cuts_swL hno)
theorem rdS_sizes {key text : ByteArray} {x : SpaceD} (h : rdS key text = (x, true)) : x.1.size ≤ key.size ∧ x.2.1.size ≤ text.size := by
  unfold rdS at h
  split at h
  · rename_i w0 w1 w2 w3 hc
    split at h
    · simp only [Prod.mk.injEq, and_true] at h
      rw [← h]
      refine ⟨?_, ?_⟩
      · show (key.extract 2 key.size).size ≤ key.size
        rw [ByteArray.size_extract]
        omega
      · show (wordR w0).size ≤ text.size
        have h1 : w0 ∈ cutsB 32 text := by rw [hc]; simp
        unfold cutsB at h1
        obtain ⟨l, hl, rfl⟩ := List.mem_map.1 h1
        have h2 := cutL_mem 32 _ l hl
        have h3 : (mkB l).size ≤ text.size := by rw [mkB_size]; simpa using h2
        unfold wordR
        split
        · exact Nat.zero_le _
        · exact h3
    · simp at h
  · simp at h
theorem pre_size (d : ByteArray) (h : d.size ≤ 3000) : (⟨#[115, 46]⟩ ++ d : ByteArray).size ≤ 1048576 := by
  rw [ByteArray.size_append]
  show 2 + d.size ≤ 1048576
  omega
theorem spEnds {d0 d1 : ByteArray} {d2 : Int} {d3 : Bool} {d4 : Int} {Y : ByteArray} (hY : swB (d0, d1, d2, d3, d4) = Y) :
    (rdS (⟨#[115, 46]⟩ ++ d0) Y = (zeroSp, false) ∧ Y.toList.isEmpty = true) ∨ (rdS (⟨#[115, 46]⟩ ++ d0) Y = ((d0, d1, d2, d3, d4), true) ∧ Y.toList.isEmpty = false) := by
  subst hY
  cases hok : spOk (d0, d1, d2, d3, d4) with
  | false =>
    have h := rdS_not (x := (d0, d1, d2, d3, d4)) hok
    refine .inl ⟨h.2, ?_⟩
    rw [h.1]
    simp
  | true => exact .inr ⟨rdS_write (x := (d0, d1, d2, d3, d4)) hok, neW (swB_ne hok)⟩
set_option maxRecDepth 100000 in
set_option maxHeartbeats 8000000 in
theorem fnSpaceTextWalk0 (a0 : Option Addr) (c0 : Nat) (l0 : List UInt8) (hl0 : l0.length ≤ c0) (hc0 : c0 ≤ maxLen) {w : World} (hb0 : BytesS w a0 l0) (htab : Lib.TabIs Tryd.prog w "internal/strconv.uint64pow10" .u64 Lib.pow10Tab) (hml : ∃ m, w.cell? ⟨0, 0, none⟩ = some (.int .i64 m)) (a1 : Option Addr) (c1 : Nat) (l1 : List UInt8) (hl1 : l1.length ≤ c1) (hc1 : c1 ≤ maxLen) (hb1 : BytesS w a1 l1) (hs0 : (l0.length : Int) ≤ 1048576) (hs1 : (l1.length : Int) ≤ 1048576) :
    Calls Tryd.prog 3 #[.slice a0 l0.length c0, .slice a1 l1.length c1] w fun e w' => e = .returned (.bool true) ∧ Below w.heap.size w w' := by
  have HT := Lib.hid htab
  have HM := Lib.hid (show ∀ W, Below w.heap.size w W → ∃ m, W.cell? ⟨0, 0, none⟩ = some (.int .i64 m) from fun W hb => by
    obtain ⟨m, hm⟩ := hml
    exact ⟨m, (hb.cell (by have := World.block_lt_of_cell? w _ hm; simpa using this)).trans hm⟩)
  have HB1 := Lib.hid hb1
  clear htab hml hb1
  go_enter Tryd.func3, Tryd.ntmps3
  go_wp2_with fail
  refine (drawSpR_any a0 c0 l0 _ hl0 hc0 hb0).mono ?_
  rintro e w1 ⟨k, t, rfl, hk, ht, b1⟩
  obtain ⟨⟨⟨x0, x1, x2, x3, x4⟩, q⟩, hr⟩ : ∃ r, rdS k t = r := ⟨_, rfl⟩
  have HR := Lib.hid hr
  clear hr
  go_wp2_with fail
  refine (implSpRd_any k t _ (by omega) (by omega) (tab_below HT.out b1) (HM.out _ b1)).mono ?_
  rw [HR.out]
  rintro e w2 ⟨rfl, b2⟩
  have B2 := Lib.hid (b1.trans (b2.mono b1.size))
  clear b1 b2
  unfold spVI
  dsimp only
  go_wp2_with fail
  have BX := (Box.alloc w2 #[.string x0, .string x1, .int .i64 x2, .bool x3, .int .i64 x4] 26)
  have B3 := Lib.hid (B2.out.alloc B2.out.size (.cells #[.string x0, .string x1, .int .i64 x2, .bool x3, .int .i64 x4] 26))
  have z3 := (World.size_alloc w2 (.cells #[.string x0, .string x1, .int .i64 x2, .bool x3, .int .i64 x4] 26))
  generalize w2.alloc (.cells #[.string x0, .string x1, .int .i64 x2, .bool x3, .int .i64 x4] 26) = w3 at BX B3 z3 ⊢
  have HZ3 := Lib.hid z3
  clear z3
  refine (specSpRd_any k t _ (by omega) (by omega)).mono ?_
  rw [HR.out]
  rintro e w4 ⟨rfl, b4⟩
  have B4 := Lib.hid (B3.out.trans (b4.mono B3.out.size))
  have BX4 := Lib.hid ((BX.below b4).below (below_alloc w4 (.cells #[.string x0, .string x1, .int .i64 x2, .bool x3, .int .i64 x4] 26)))
  clear BX b4
  unfold spV
  dsimp only
  obtain ⟨⟨y0, -⟩, ⟨y1, -⟩, ⟨y2, -⟩, ⟨y3, -⟩, y4, -⟩ := show _ ∧ _ ∧ _ ∧ _ ∧ _ from ⟨BX4.out 0 _ rfl, BX4.out 1 _ rfl, BX4.out 2 _ rfl, BX4.out 3 _ rfl, BX4.out 4 _ rfl⟩
  have ne1 := neSp x0 x1 x2 x3 x4
  have hqq : (q != q) = false := by simp
  cases q with
  | false =>
    go_wp2_with fail
    refine (drawSpW_any a1 c1 l1 _ hl1 hc1 (bytes_below (B4.out.alloc B4.out.size _) HB1.out)).mono ?_
    rintro e w6 ⟨⟨d0, d1, d2, d3, d4⟩, rfl, hd0, hd1, b6⟩
    simp only at hd0 hd1
    have B6 := Lib.hid ((B4.out.alloc B4.out.size _).trans (b6.mono (B4.out.alloc B4.out.size _).size))
    clear b6 y0 y1 y2 y3 y4
    unfold agD
    dsimp only
    obtain ⟨Y, hY⟩ : ∃ Y, swB (d0, d1, d2, d3, d4) = Y := ⟨_, rfl⟩
    have hYz : Y.size ≤ 100 := by rw [← hY]; exact swB_size _
    have HY := Lib.hid hY
    clear hY
    have BD := Lib.hid (Box.alloc w6 #[.string d0, .string d1, .int .i64 d2, .bool d3, .int .i64 d4] 26)
    have B7 := Lib.hid (B6.out.alloc B6.out.size (.cells #[.string d0, .string d1, .int .i64 d2, .bool d3, .int .i64 d4] 26))
    go_wp2_with fail
    obtain ⟨w7, hw7⟩ : ∃ W, w6.alloc (.cells #[.string d0, .string d1, .int .i64 d2, .bool d3, .int .i64 d4] 26) = W := ⟨_, rfl⟩
    rw [hw7] at BD B7 ⊢
    clear hw7
    refine (implSpW_any d0 d1 d2 d3 d4 _ (by unfold maxLen; omega) (by unfold maxLen; omega) (tab_below HT.out B7.out)).mono ?_
    rintro e w8 ⟨rfl, b8⟩
    rw [HY.out]
    have B8 := Lib.hid (B7.out.trans (b8.mono B7.out.size))
    have BD8 := Lib.hid (BD.out.below b8)
    clear b8
    have v0 := (BD8.out 0 _ rfl).1
    have f1 : ¬ 9223372036854775807 < 2 + d0.size := by omega
    go_wp2_with fail
    rcases spEnds HY.out with ⟨hr2, q1⟩ | ⟨hr2, q1⟩
    · obtain ⟨⟨z0, z1, z2, z3, z4⟩, hz⟩ : ∃ z, z = zeroSp := ⟨_, rfl⟩
      rw [← hz] at hr2
      have HR2 := Lib.hid hr2
      clear hr2 hz
      have t8 := tab_below HT.out B8.out
      have m8 := HM.out _ B8.out
      have c8 := implSpRd_any (⟨#[115, 46]⟩ ++ d0) Y w8 (pre_size d0 hd0) (Nat.le_trans hYz (by decide)) t8 m8
      rw [HR2.out] at c8
      refine c8.mono ?_
      rintro e w9 ⟨rfl, b9⟩
      have B9 := Lib.hid (B8.out.trans (b9.mono B8.out.size))
      have B10 := Lib.hid (B9.out.alloc B9.out.size (.cells #[.string z0, .string z1, .int .i64 z2, .bool z3, .int .i64 z4] 26))
      have BD9 := (BD8.out.below b9).below (below_alloc w9 (.cells #[.string z0, .string z1, .int .i64 z2, .bool z3, .int .i64 z4] 26))
      have BZ9 := Box.alloc w9 #[.string z0, .string z1, .int .i64 z2, .bool z3, .int .i64 z4] 26
      clear b9 v0
      unfold spVI
      dsimp only
      obtain ⟨wf, hwf⟩ : ∃ W, w9.alloc (.cells #[.string z0, .string z1, .int .i64 z2, .bool z3, .int .i64 z4] 26) = W := ⟨_, rfl⟩
      rw [hwf] at BD9 BZ9 B10
      obtain ⟨⟨v0, -⟩, ⟨v1, -⟩, ⟨v2, -⟩, ⟨v3, -⟩, v4, -⟩ := show _ ∧ _ ∧ _ ∧ _ ∧ _ from ⟨BD9 0 _ rfl, BD9 1 _ rfl, BD9 2 _ rfl, BD9 3 _ rfl, BD9 4 _ rfl⟩
      go_wp2_with fail
      clear v0 v1 v2 v3 v4 hwf
      refine (specSpW_any d0 d1 d2 d3 d4 _ (by unfold maxLen; omega) (by unfold maxLen; omega)).mono ?_
      rintro e w11 ⟨rfl, b11⟩
      rw [HY.out]
      have B11 := Lib.hid (B10.out.trans (b11.mono B10.out.size))
      have BD11 := BD9.below b11
      have BZ11 := BZ9.below b11
      obtain ⟨⟨v0, -⟩, ⟨v1, -⟩, ⟨v2, -⟩, ⟨v3, -⟩, v4, -⟩ := show _ ∧ _ ∧ _ ∧ _ ∧ _ from ⟨BD11 0 _ rfl, BD11 1 _ rfl, BD11 2 _ rfl, BD11 3 _ rfl, BD11 4 _ rfl⟩
      obtain ⟨⟨u0, -⟩, ⟨u1, -⟩, ⟨u2, -⟩, ⟨u3, -⟩, u4, -⟩ := show _ ∧ _ ∧ _ ∧ _ ∧ _ from ⟨BZ11 0 _ rfl, BZ11 1 _ rfl, BZ11 2 _ rfl, BZ11 3 _ rfl, BZ11 4 _ rfl⟩
      clear b11 BD11 BZ11 BD9 BZ9
      have eq1 := eqSp d0 d1 d2 d3 d4
      go_wp2
      go_ret
      exact ⟨rfl, B11.out⟩
    · have HR2 := Lib.hid hr2
      clear hr2
      have t8 := tab_below HT.out B8.out
      have m8 := HM.out _ B8.out
      have c8 := implSpRd_any (⟨#[115, 46]⟩ ++ d0) Y w8 (pre_size d0 hd0) (Nat.le_trans hYz (by decide)) t8 m8
      rw [HR2.out] at c8
      refine c8.mono ?_
      rintro e w9 ⟨rfl, b9⟩
      have B9 := Lib.hid (B8.out.trans (b9.mono B8.out.size))
      have B10 := Lib.hid (B9.out.alloc B9.out.size (.cells #[.string d0, .string d1, .int .i64 d2, .bool d3, .int .i64 d4] 26))
      have BD9 := (BD8.out.below b9).below (below_alloc w9 (.cells #[.string d0, .string d1, .int .i64 d2, .bool d3, .int .i64 d4] 26))
      have BZ9 := Box.alloc w9 #[.string d0, .string d1, .int .i64 d2, .bool d3, .int .i64 d4] 26
      clear b9 v0
      unfold spVI
      dsimp only
      obtain ⟨wf, hwf⟩ : ∃ W, w9.alloc (.cells #[.string d0, .string d1, .int .i64 d2, .bool d3, .int .i64 d4] 26) = W := ⟨_, rfl⟩
      rw [hwf] at BD9 BZ9 B10
      obtain ⟨⟨v0, -⟩, ⟨v1, -⟩, ⟨v2, -⟩, ⟨v3, -⟩, v4, -⟩ := show _ ∧ _ ∧ _ ∧ _ ∧ _ from ⟨BD9 0 _ rfl, BD9 1 _ rfl, BD9 2 _ rfl, BD9 3 _ rfl, BD9 4 _ rfl⟩
      go_wp2_with fail
      clear v0 v1 v2 v3 v4 hwf
      refine (specSpW_any d0 d1 d2 d3 d4 _ (by unfold maxLen; omega) (by unfold maxLen; omega)).mono ?_
      rintro e w11 ⟨rfl, b11⟩
      rw [HY.out]
      have B11 := Lib.hid (B10.out.trans (b11.mono B10.out.size))
      have BD11 := BD9.below b11
      have BZ11 := BZ9.below b11
      obtain ⟨⟨v0, -⟩, ⟨v1, -⟩, ⟨v2, -⟩, ⟨v3, -⟩, v4, -⟩ := show _ ∧ _ ∧ _ ∧ _ ∧ _ from ⟨BD11 0 _ rfl, BD11 1 _ rfl, BD11 2 _ rfl, BD11 3 _ rfl, BD11 4 _ rfl⟩
      obtain ⟨⟨u0, -⟩, ⟨u1, -⟩, ⟨u2, -⟩, ⟨u3, -⟩, u4, -⟩ := show _ ∧ _ ∧ _ ∧ _ ∧ _ from ⟨BZ11 0 _ rfl, BZ11 1 _ rfl, BZ11 2 _ rfl, BZ11 3 _ rfl, BZ11 4 _ rfl⟩
      clear b11 BD11 BZ11 BD9 BZ9
      have eq1 := eqSp d0 d1 d2 d3 d4
      go_wp2
      go_ret
      exact ⟨rfl, B11.out⟩
  | true =>
    have HB := Lib.hid (rdS_back HR.out)
    have hsz := rdS_sizes HR.out
    simp only at hsz
    go_wp2_with fail
    have B5 := Lib.hid (B4.out.alloc B4.out.size (.cells #[.string x0, .string x1, .int .i64 x2, .bool x3, .int .i64 x4] 26))
    refine (implSpW_any x0 x1 x2 x3 x4 _ (by unfold maxLen; omega) (by unfold maxLen; omega) (tab_below HT.out B5.out)).mono ?_
    rintro e w5 ⟨rfl, b5⟩
    rw [HB.out]
    have B5b := Lib.hid (B5.out.trans (b5.mono B5.out.size))
    clear b5
    go_wp2_with fail
    refine (drawSpW_any a1 c1 l1 _ hl1 hc1 (bytes_below (B5b.out) HB1.out)).mono ?_
    rintro e w6 ⟨⟨d0, d1, d2, d3, d4⟩, rfl, hd0, hd1, b6⟩
    simp only at hd0 hd1
    have B6 := Lib.hid ((B5b.out).trans (b6.mono (B5b.out).size))
    clear b6 y0 y1 y2 y3 y4
    unfold agD
    dsimp only
    obtain ⟨Y, hY⟩ : ∃ Y, swB (d0, d1, d2, d3, d4) = Y := ⟨_, rfl⟩
    have hYz : Y.size ≤ 100 := by rw [← hY]; exact swB_size _
    have HY := Lib.hid hY
    clear hY
    have BD := Lib.hid (Box.alloc w6 #[.string d0, .string d1, .int .i64 d2, .bool d3, .int .i64 d4] 26)
    have B7 := Lib.hid (B6.out.alloc B6.out.size (.cells #[.string d0, .string d1, .int .i64 d2, .bool d3, .int .i64 d4] 26))
    go_wp2_with fail
    obtain ⟨w7, hw7⟩ : ∃ W, w6.alloc (.cells #[.string d0, .string d1, .int .i64 d2, .bool d3, .int .i64 d4] 26) = W := ⟨_, rfl⟩
    rw [hw7] at BD B7 ⊢
    clear hw7
    refine (implSpW_any d0 d1 d2 d3 d4 _ (by unfold maxLen; omega) (by unfold maxLen; omega) (tab_below HT.out B7.out)).mono ?_
    rintro e w8 ⟨rfl, b8⟩
    rw [HY.out]
    have B8 := Lib.hid (B7.out.trans (b8.mono B7.out.size))
    have BD8 := Lib.hid (BD.out.below b8)
    clear b8
    have v0 := (BD8.out 0 _ rfl).1
    have f1 : ¬ 9223372036854775807 < 2 + d0.size := by omega
    go_wp2_with fail
    rcases spEnds HY.out with ⟨hr2, q1⟩ | ⟨hr2, q1⟩
    · obtain ⟨⟨z0, z1, z2, z3, z4⟩, hz⟩ : ∃ z, z = zeroSp := ⟨_, rfl⟩
      rw [← hz] at hr2
      have HR2 := Lib.hid hr2
      clear hr2 hz
      have t8 := tab_below HT.out B8.out
      have m8 := HM.out _ B8.out
      have c8 := implSpRd_any (⟨#[115, 46]⟩ ++ d0) Y w8 (pre_size d0 hd0) (Nat.le_trans hYz (by decide)) t8 m8
      rw [HR2.out] at c8
      refine c8.mono ?_
      rintro e w9 ⟨rfl, b9⟩
      have B9 := Lib.hid (B8.out.trans (b9.mono B8.out.size))
      have B10 := Lib.hid (B9.out.alloc B9.out.size (.cells #[.string z0, .string z1, .int .i64 z2, .bool z3, .int .i64 z4] 26))
      have BD9 := (BD8.out.below b9).below (below_alloc w9 (.cells #[.string z0, .string z1, .int .i64 z2, .bool z3, .int .i64 z4] 26))
      have BZ9 := Box.alloc w9 #[.string z0, .string z1, .int .i64 z2, .bool z3, .int .i64 z4] 26
      clear b9 v0
      unfold spVI
      dsimp only
      obtain ⟨wf, hwf⟩ : ∃ W, w9.alloc (.cells #[.string z0, .string z1, .int .i64 z2, .bool z3, .int .i64 z4] 26) = W := ⟨_, rfl⟩
      rw [hwf] at BD9 BZ9 B10
      obtain ⟨⟨v0, -⟩, ⟨v1, -⟩, ⟨v2, -⟩, ⟨v3, -⟩, v4, -⟩ := show _ ∧ _ ∧ _ ∧ _ ∧ _ from ⟨BD9 0 _ rfl, BD9 1 _ rfl, BD9 2 _ rfl, BD9 3 _ rfl, BD9 4 _ rfl⟩
      go_wp2_with fail
      clear v0 v1 v2 v3 v4 hwf
      refine (specSpW_any d0 d1 d2 d3 d4 _ (by unfold maxLen; omega) (by unfold maxLen; omega)).mono ?_
      rintro e w11 ⟨rfl, b11⟩
      rw [HY.out]
      have B11 := Lib.hid (B10.out.trans (b11.mono B10.out.size))
      have BD11 := BD9.below b11
      have BZ11 := BZ9.below b11
      obtain ⟨⟨v0, -⟩, ⟨v1, -⟩, ⟨v2, -⟩, ⟨v3, -⟩, v4, -⟩ := show _ ∧ _ ∧ _ ∧ _ ∧ _ from ⟨BD11 0 _ rfl, BD11 1 _ rfl, BD11 2 _ rfl, BD11 3 _ rfl, BD11 4 _ rfl⟩
      obtain ⟨⟨u0, -⟩, ⟨u1, -⟩, ⟨u2, -⟩, ⟨u3, -⟩, u4, -⟩ := show _ ∧ _ ∧ _ ∧ _ ∧ _ from ⟨BZ11 0 _ rfl, BZ11 1 _ rfl, BZ11 2 _ rfl, BZ11 3 _ rfl, BZ11 4 _ rfl⟩
      clear b11 BD11 BZ11 BD9 BZ9
      have eq1 := eqSp d0 d1 d2 d3 d4
      go_wp2
      go_ret
      exact ⟨rfl, B11.out⟩
    · have HR2 := Lib.hid hr2
      clear hr2
      have t8 := tab_below HT.out B8.out
      have m8 := HM.out _ B8.out
      have c8 := implSpRd_any (⟨#[115, 46]⟩ ++ d0) Y w8 (pre_size d0 hd0) (Nat.le_trans hYz (by decide)) t8 m8
      rw [HR2.out] at c8
      refine c8.mono ?_
      rintro e w9 ⟨rfl, b9⟩
      have B9 := Lib.hid (B8.out.trans (b9.mono B8.out.size))
      have B10 := Lib.hid (B9.out.alloc B9.out.size (.cells #[.string d0, .string d1, .int .i64 d2, .bool d3, .int .i64 d4] 26))
      have BD9 := (BD8.out.below b9).below (below_alloc w9 (.cells #[.string d0, .string d1, .int .i64 d2, .bool d3, .int .i64 d4] 26))
      have BZ9 := Box.alloc w9 #[.string d0, .string d1, .int .i64 d2, .bool d3, .int .i64 d4] 26
      clear b9 v0
      unfold spVI
      dsimp only
      obtain ⟨wf, hwf⟩ : ∃ W, w9.alloc (.cells #[.string d0, .string d1, .int .i64 d2, .bool d3, .int .i64 d4] 26) = W := ⟨_, rfl⟩
      rw [hwf] at BD9 BZ9 B10
      obtain ⟨⟨v0, -⟩, ⟨v1, -⟩, ⟨v2, -⟩, ⟨v3, -⟩, v4, -⟩ := show _ ∧ _ ∧ _ ∧ _ ∧ _ from ⟨BD9 0 _ rfl, BD9 1 _ rfl, BD9 2 _ rfl, BD9 3 _ rfl, BD9 4 _ rfl⟩
      go_wp2_with fail
      clear v0 v1 v2 v3 v4 hwf
      refine (specSpW_any d0 d1 d2 d3 d4 _ (by unfold maxLen; omega) (by unfold maxLen; omega)).mono ?_
      rintro e w11 ⟨rfl, b11⟩
      rw [HY.out]
      have B11 := Lib.hid (B10.out.trans (b11.mono B10.out.size))
      have BD11 := BD9.below b11
      have BZ11 := BZ9.below b11
      obtain ⟨⟨v0, -⟩, ⟨v1, -⟩, ⟨v2, -⟩, ⟨v3, -⟩, v4, -⟩ := show _ ∧ _ ∧ _ ∧ _ ∧ _ from ⟨BD11 0 _ rfl, BD11 1 _ rfl, BD11 2 _ rfl, BD11 3 _ rfl, BD11 4 _ rfl⟩
      obtain ⟨⟨u0, -⟩, ⟨u1, -⟩, ⟨u2, -⟩, ⟨u3, -⟩, u4, -⟩ := show _ ∧ _ ∧ _ ∧ _ ∧ _ from ⟨BZ11 0 _ rfl, BZ11 1 _ rfl, BZ11 2 _ rfl, BZ11 3 _ rfl, BZ11 4 _ rfl⟩
      clear b11 BD11 BZ11 BD9 BZ9
      have eq1 := eqSp d0 d1 d2 d3 d4
      go_wp2
      go_ret
      exact ⟨rfl, B11.out⟩
set_option maxRecDepth 100000 in
theorem fnSpaceTextWalk (a0 : Option Addr) (c0 : Nat) (l0 : List UInt8) (hl0 : l0.length ≤ c0) (hc0 : c0 ≤ maxLen) {w : World} (hb0 : BytesS w a0 l0) (a1 : Option Addr) (c1 : Nat) (l1 : List UInt8) (hl1 : l1.length ≤ c1) (hc1 : c1 ≤ maxLen) (hb1 : BytesS w a1 l1) (htab : Lib.TabIs Tryd.prog w "internal/strconv.uint64pow10" .u64 Lib.pow10Tab) (hml : ∃ m, w.cell? ⟨0, 0, none⟩ = some (.int .i64 m)) :
    Calls Tryd.prog 3 #[.slice a0 l0.length c0, .slice a1 l1.length c1] w fun e w' => e = .returned (.bool true) ∧ Below w.heap.size w w' := by
  by_cases hq : (1048576 : Int) < (l0.length : Int)
  · go_enter Tryd.func3, Tryd.ntmps3
    go_wp2
    go_ret
    exact ⟨rfl, Below.refl _ _⟩
  by_cases hq1 : (1048576 : Int) < (l1.length : Int)
  · go_enter Tryd.func3, Tryd.ntmps3
    go_wp2
    go_ret
    exact ⟨rfl, Below.refl _ _⟩
  exact fnSpaceTextWalk0 a0 c0 l0 hl0 hc0 hb0 htab hml a1 c1 l1 hl1 hc1 hb1 (by omega) (by omega)
end Go.Proofs.YthbhgeifknkolaaDoor
