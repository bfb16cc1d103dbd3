import Derived.Test.YtbioljpjpflboaaGreatDoorBoardP
import Derived.Deep.LoopGhost
import Derived.BigQuiet
import Derived.Deep.RegionHeld3
/- ModelBoard, of the model. -/
namespace Go.Proofs.YtbioljpjpflboaaGreatDoor
open Go Go.RowKit

set_option maxRecDepth 100000 in
set_option maxHeartbeats 8000000 in
theorem specBoard_any {v : Value} {m : ModelD} {w : World} (h : VwModel w v m) (hb : (bulkModel m : Int) ≤ 1048576) :
    Calls Tryz.prog 6 #[v] w fun e w' => e = .returned (.string (boardB m)) ∧ Below w.heap.size w w' := by
  have HV := Lib.hid h
  have HBK := Lib.hid hb
  obtain ⟨v3, v4, v5, v6, rfl, h3, h4, h5, h6⟩ := h
  obtain ⟨rev, uid, flo, S, U, T, P⟩ := m
  simp only at h3 h4 h5 h6
  obtain ⟨a3, ca3, rfl, hl3, hk3⟩ := h3
  obtain ⟨a4, ca4, rfl, hl4, -⟩ := h4
  obtain ⟨a5, ca5, xs, rfl, hl5, rfl, hk5⟩ := h5
  obtain ⟨a6, ca6, rfl, hl6, -⟩ := h6
  have HX3 := Lib.hid hl3
  have HK3 := Lib.hid hk3
  have HX4 := Lib.hid hl4
  have HX5 := Lib.hid hl5
  have HK5 := Lib.hid hk5
  obtain ⟨q, hq⟩ : ∃ q, modelB ⟨rev, uid, flo, S, U, thsOf xs, P⟩ = q := ⟨_, rfl⟩
  have HQ := Lib.hid hq
  clear hl3 hk3 hl4 hl5 hk5 hl6 hq hb
  obtain ⟨w1, hA⟩ : ∃ wA, w.alloc (.cells #[.int .i64 rev, .int .i64 uid, .int .i64 flo, .slice a3 S.length ca3, .slice a4 U.length ca4, .slice a5 xs.length ca5, .slice a6 P.length ca6] 35) = wA := ⟨_, rfl⟩
  have BX := Lib.hid (show Box w1 w.heap.size [.int .i64 rev, .int .i64 uid, .int .i64 flo, .slice a3 S.length ca3, .slice a4 U.length ca4, .slice a5 xs.length ca5, .slice a6 P.length ca6] by rw [← hA]; exact Box.alloc w _ _)
  have B1 := Lib.hid (show Below w.heap.size w w1 by rw [← hA]; exact below_alloc _ _)
  have KS := Lib.hid (show ∀ W, Below w1.heap.size w1 W → W.cell? ⟨w.heap.size, 0, none⟩ = some (.int .i64 rev) ∧ W.cell? ⟨w.heap.size, 1, none⟩ = some (.int .i64 uid) ∧ W.cell? ⟨w.heap.size, 2, none⟩ = some (.int .i64 flo) ∧ W.cell? ⟨w.heap.size, 3, none⟩ = some (.slice a3 S.length ca3) ∧ W.cell? ⟨w.heap.size, 4, none⟩ = some (.slice a4 U.length ca4) ∧ W.cell? ⟨w.heap.size, 5, none⟩ = some (.slice a5 xs.length ca5) ∧ W.cell? ⟨w.heap.size, 6, none⟩ = some (.slice a6 P.length ca6) from fun W hb => by
    have h := BX.out.below hb
    exact ⟨(h 0 _ rfl).1, (h 1 _ rfl).1, (h 2 _ rfl).1, (h 3 _ rfl).1, (h 4 _ rfl).1, (h 5 _ rfl).1, (h 6 _ rfl).1⟩)
  have z1 : w1.heap.size = w.heap.size + 1 := by rw [← hA, World.size_alloc]
  have HF := Lib.hid (show ∀ W, Below w1.heap.size w1 W → Below w.heap.size w W from fun W hb => B1.out.trans (hb.mono (by omega)))
  have HA := Lib.hid hA
  clear hA z1
  obtain ⟨y0, y1, y2, y3, y4, y5, y6⟩ := KS.out _ (Below.refl _ _)
  cases q with
  | false =>
    have HN := Lib.hid (boardB_no HQ.out)
    go_enter Tryz.func6, Tryz.ntmps6
    go_wp2_with fail
    rw [HA.out]
    go_wp2_with fail
    refine (specModelOk_any (HV.out.below B1.out) HBK.out).mono ?_
    rintro e w2 ⟨rfl, b2⟩
    rw [HQ.out]
    go_wp2
    go_ret
    exact ⟨by rw [HN.out]; rfl, HF.out _ b2⟩
  | true =>
  have hfa := modelB_facts HQ.out
  simp only at hfa
  obtain ⟨⟨r0, r1⟩, n7, hs6, hul, hub, n10, htb⟩ := hfa
  have HS6 := Lib.hid hs6
  have HUL := Lib.hid hul
  have HUB := Lib.hid hub
  have HTB := Lib.hid htb
  have HSZ := Lib.hid (show ∀ k, k ≤ S.length → (bdTo rev S U (thsOf xs) k).size ≤ 9830 from fun k hk => by have := bdTo_size HQ.out k hk; simp only at this; omega)
  have HTS := Lib.hid (show ∀ (sp : ByteArray) (k : Nat), k ≤ xs.length → (thsTo (thsOf xs) sp k).size ≤ 1200 from fun sp k hk => by
    have := thsTo_size (T := thsOf xs) (fun k h => thing_nm (HTB.out k h)) sp k (by rw [thsOf_len]; exact hk)
    rw [thsOf_len] at n10
    omega)
  have HN := Lib.hid (boardB_yes HQ.out)
  rw [thsOf_len] at n10
  clear hs6 hul hub htb
  go_enter Tryz.func6, Tryz.ntmps6
  go_wp2_with fail
  rw [HA.out]
  go_wp2_with fail
  refine (specModelOk_any (HV.out.below B1.out) HBK.out).mono ?_
  rintro e w2 ⟨rfl, b2⟩
  rw [HQ.out]
  have B2 := Lib.hid b2
  clear y0 y1 y2 y3 y4 y5 y6 b2
  obtain ⟨y0, y1, y2, y3, y4, y5, y6⟩ := KS.out _ B2.out
  go_wp2_with fail
  refine (decS_any (n := rev) (by omega) (by omega) w2).mono ?_
  rintro e w3 ⟨rfl, b3⟩
  have B3 := Lib.hid (B2.out.trans (b3.mono B2.out.size))
  clear y0 y1 y2 y3 y4 y5 y6 b3
  obtain ⟨d, hd⟩ : ∃ d, decI rev = d := ⟨_, rfl⟩
  have sd : d.size ≤ 21 := by rw [← hd]; exact decI_size (by omega) (by omega)
  have HB0 := Lib.hid (show bdTo rev S U (thsOf xs) 0 = ⟨#[99, 111, 117, 110, 116, 32]⟩ ++ d ++ ⟨#[10]⟩ by rw [← hd]; rfl)
  rw [hd]
  clear hd
  have f1 : ¬ 9223372036854775807 < 6 + d.size := by omega
  have f2 : ¬ 9223372036854775807 < 6 + d.size + 1 := by omega
  go_wp2
  go_loopg [3, 4] S.length (fun q o i wr => ∃ k : Nat, k + q = S.length ∧ i = .int .i64 k ∧ o = .string (bdTo rev S U (thsOf xs) k) ∧ Below w1.heap.size w1 wr)
  case atStart => exact ⟨0, by omega, rfl, by rw [HB0.out], B3.out⟩
  case round =>
    clear f1 f2 sd
    obtain ⟨k, hk, rfl, rfl, hbel⟩ := hrel
    have HKQ := Lib.hid hk
    have HB := Lib.hid hbel
    have HZ := Lib.hid hbel.size
    clear hk
    obtain ⟨y0, y1, y2, y3, y4, y5, y6⟩ := KS.out _ hbel
    clear hbel
    obtain ⟨t, ht⟩ : ∃ t, bdTo rev S U (thsOf xs) k = t := ⟨_, rfl⟩
    by_cases hlt : k < S.length
    · have hltU : k < U.length := by have := HUL.out; omega
      obtain ⟨bb, ob, rfl, hcb⟩ := HX3.out.2.resolve_left (by intro e; rw [e] at hlt; simp at hlt)
      obtain ⟨bu, ou, rfl, hcu⟩ := HX4.out.2.resolve_left (by intro e; rw [e] at hltU; simp at hltU)
      have hkI : (k : Int) < (S.length : Int) := by omega
      have hkU : (k : Int) < (U.length : Int) := by omega
      have hk0 : (0 : Int) ≤ (k : Int) := by omega
      have hTK : t.size ≤ 9830 := by rw [← ht]; exact HSZ.out k (by omega)
      have HN1 := Lib.hid (show bdTo rev S U (thsOf xs) (k + 1) = t ++ spLn S[k] U[k].2 ++ thsTo (thsOf xs) S[k].1 (thsOf xs).length by rw [bdTo_next rev _ hlt hltU, ht])
      obtain ⟨c0, c1, c2, c3, c4⟩ := cellsSpace (HF.out _ HB.out) hcb k hlt
      obtain ⟨g0, g1⟩ := cellsUse (HF.out _ HB.out) hcu k hltU
      have hn6 := HS6.out k hlt
      have hu2 := HUB.out k hltU
      have hok := HK3.out S[k] (List.getElem_mem hlt)
      have HCU := Lib.hid hcu
      clear hcb hcu g0
      rw [ht]
      clear ht
      obtain ⟨⟨x0, x1, x2, x3, x4⟩, hxk⟩ : ∃ x, S[k] = x := ⟨_, rfl⟩
      obtain ⟨u2, hu⟩ : ∃ u, U[k].2 = u := ⟨_, rfl⟩
      rw [hxk] at c0 c1 c2 c3 c4 hn6 hok HN1
      rw [hu] at g1 hu2 HN1
      have HU2 := Lib.hid hu
      dsimp only at c0 c1 c2 c3 c4 hn6 HN1
      clear hxk hu
      obtain ⟨w4, hw4⟩ : ∃ W, wr.alloc (.cells #[.string x0, .string x1, .int .i64 x2, .bool x3, .int .i64 x4] 51) = W := ⟨_, rfl⟩
      have b4 : Below wr.heap.size wr w4 := by rw [← hw4]; exact below_alloc _ _
      have Y4 := Lib.hid (show Box w4 wr.heap.size [.string x0, .string x1, .int .i64 x2, .bool x3, .int .i64 x4] by rw [← hw4]; exact Box.alloc wr _ _)
      have B4 := Lib.hid (HB.out.trans (b4.mono HZ.out))
      have KR := Lib.hid (show ∀ W, Below w4.heap.size w4 W → Below w4.heap.size w4 W ∧ W.cell? ⟨w.heap.size, 4, none⟩ = some (.slice (some ⟨bu, ou, none⟩) U.length ca4) ∧ W.cell? ⟨w.heap.size, 5, none⟩ = some (.slice a5 xs.length ca5) ∧ W.cell? ⟨wr.heap.size, 0, none⟩ = some (.string x0) ∧ W.cell? ⟨wr.heap.size, 1, none⟩ = some (.string x1) ∧ W.cell? ⟨wr.heap.size, 2, none⟩ = some (.int .i64 x2) ∧ W.cell? ⟨wr.heap.size, 3, none⟩ = some (.bool x3) ∧ W.cell? ⟨wr.heap.size, 4, none⟩ = some (.int .i64 x4) ∧ W.cell? ⟨bu, ou + k * 2 + 1, none⟩ = some (.int .i64 u2) from fun W hb => by
        have hb1 := B4.out.trans (hb.mono B4.out.size)
        have hb2 := HF.out _ hb1
        obtain ⟨y0, y1, y2, y3, y4, y5, y6⟩ := KS.out _ hb1
        have h := Y4.out.below hb
        obtain ⟨_, d1⟩ := cellsUse hb2 HCU.out k hltU
        rw [HU2.out] at d1
        exact ⟨hb, y4, y5, (h 0 _ rfl).1, (h 1 _ rfl).1, (h 2 _ rfl).1, (h 3 _ rfl).1, (h 4 _ rfl).1, d1⟩)
      clear b4
      obtain ⟨sw, hsw⟩ : ∃ s, swB (x0, x1, x2, x3, x4) = s := ⟨_, rfl⟩
      have ssw : sw.size ≤ 100 := by rw [← hsw]; exact swB_le _
      obtain ⟨du, hdu⟩ : ∃ s, decI u2 = s := ⟨_, rfl⟩
      have sdu : du.size ≤ 21 := by rw [← hdu]; exact decI_size (by omega) (by omega)
      have HSW := Lib.hid (fun W => specSpW_any x0 x1 x2 x3 x4 W hok.1 hok.2)
      rw [hsw] at HSW
      have HDU := Lib.hid (fun W => decS_any (n := u2) (by omega) (by omega) W)
      rw [hdu] at HDU
      have HL := Lib.hid (show t ++ spLn (x0, x1, x2, x3, x4) u2 = t ++ x0 ++ ⟨#[32, 105, 110, 32]⟩ ++ sw ++ ⟨#[32, 117, 115, 101, 115, 32]⟩ ++ du ++ ⟨#[10]⟩ by
        show t ++ (x0 ++ ⟨#[32, 105, 110, 32]⟩ ++ swB (x0, x1, x2, x3, x4) ++ ⟨#[32, 117, 115, 101, 115, 32]⟩ ++ decI u2 ++ ⟨#[10]⟩) = _
        rw [hsw, hdu]
        simp only [ByteArray.append_assoc])
      have hLS := congrArg ByteArray.size HL.out
      have HLS := Lib.hid (show (t ++ spLn (x0, x1, x2, x3, x4) u2).size ≤ 9970 by
        rw [hLS]
        simp only [ByteArray.size_append]
        show t.size + x0.size + 4 + sw.size + 6 + du.size + 1 ≤ 9970
        omega)
      clear hsw hdu hLS
      have f1 : ¬ 9223372036854775807 < t.size + x0.size := by omega
      have f2 : ¬ 9223372036854775807 < t.size + x0.size + 4 := by omega
      have f3 : ¬ 9223372036854775807 < t.size + x0.size + 4 + sw.size := by omega
      have f4 : ¬ 9223372036854775807 < t.size + x0.size + 4 + sw.size + 6 := by omega
      have f5 : ¬ 9223372036854775807 < t.size + x0.size + 4 + sw.size + 6 + du.size := by omega
      have f6 : ¬ 9223372036854775807 < t.size + x0.size + 4 + sw.size + 6 + du.size + 1 := by omega
      have B40 := Lib.hid (Below.refl w4.heap.size w4)
      clear y0 y1 y2 y3 y4 y5 y6
      obtain ⟨y0, y1, y2, y3, y4, y5, y6⟩ := KS.out _ HB.out
      go_wp2_with fail
      clear y0 y1 y2 y3 y4 y5 y6 c0 c1 c2 c3 c4 g1 hw4
      go_region_held3 (fun W => Below w4.heap.size w4 W ∧ W.cell? ⟨w.heap.size, 4, none⟩ = some (.slice (some ⟨bu, ou, none⟩) U.length ca4) ∧ W.cell? ⟨w.heap.size, 5, none⟩ = some (.slice a5 xs.length ca5) ∧ W.cell? ⟨wr.heap.size, 0, none⟩ = some (.string x0) ∧ W.cell? ⟨wr.heap.size, 1, none⟩ = some (.string x1) ∧ W.cell? ⟨wr.heap.size, 2, none⟩ = some (.int .i64 x2) ∧ W.cell? ⟨wr.heap.size, 3, none⟩ = some (.bool x3) ∧ W.cell? ⟨wr.heap.size, 4, none⟩ = some (.int .i64 x4) ∧ W.cell? ⟨bu, ou + k * 2 + 1, none⟩ = some (.int .i64 u2))
        (first | exact KR.out _ GB.out | exact KR.out _ GA.out | exact KR.out _ (B40.out.drew))
        (first
          | (have gA := GA; go_at_call 21; refine (HDU.out _).mono ?_; rintro e wB ⟨rfl, bB⟩; have GB := Lib.hid (GA.out.trans (bB.mono GA.out.size)))
          | (go_at_call 22; refine (HSW.out _).mono ?_; rintro e wA ⟨rfl, bA⟩; have GA := Lib.hid ((B40.out.drew).trans (bA.mono B40.out.size))))
      rename_i hH
      obtain ⟨-, -, y5, s0, -, -, -, -, -⟩ := hH
      have GW := Lib.hid GB.out
      clear GA GB gA bA bB
      go_wp2
      go_loopg [3, 6] xs.length (fun q o i wr2 => ∃ j : Nat, j + q = xs.length ∧ i = .int .i64 j ∧ o = .string (t ++ spLn (x0, x1, x2, x3, x4) u2 ++ thsTo (thsOf xs) x0 j) ∧ Below w4.heap.size w4 wr2)
      case atStart => exact ⟨0, by omega, rfl, by rw [show thsTo (thsOf xs) x0 0 = ⟨#[]⟩ from rfl, app_nilB, HL.out], GW.out⟩
      case round =>
        clear f1 f2 f3 f4 f5 f6 ssw sdu y5 s0
        obtain ⟨j, hj, rfl, rfl, hbel2⟩ := hrel
        have HJ := Lib.hid hj
        have HB2 := Lib.hid hbel2
        clear hj
        obtain ⟨-, -, y5, s0, -, -, -, -, -⟩ := KR.out _ hbel2
        clear hbel2
        obtain ⟨o, ho⟩ : ∃ o, t ++ spLn (x0, x1, x2, x3, x4) u2 ++ thsTo (thsOf xs) x0 j = o := ⟨_, rfl⟩
        have hso : o.size ≤ 11200 := by
          have h1 := HLS.out
          have h2 := HTS.out x0 j (by have := HJ.out; omega)
          rw [← ho, ByteArray.size_append]
          omega
        have HO := Lib.hid ho
        rw [ho]
        clear ho
        by_cases hjt : j < xs.length
        · obtain ⟨bt, ot, rfl, hct⟩ := HX5.out.2.resolve_left (by intro e; rw [e] at hjt; simp at hjt)
          have hjI : (j : Int) < (xs.length : Int) := by omega
          have hj0 : (0 : Int) ≤ (j : Int) := by omega
          have hjl : j < (thsOf xs).length := by rw [thsOf_len]; exact hjt
          have hth := HTB.out j hjl
          rw [thsOf_get xs j hjt] at hth
          have hokx := HK5.out xs[j] (List.getElem_mem hjt)
          have HYJ := Lib.hid (fun (e : xs[j].2.2.sp = x0) => thsTo_yes (T := thsOf xs) (sp := x0) hjl (by rw [thsOf_get xs j hjt]; exact e))
          have HNJ := Lib.hid (fun (e : ¬ xs[j].2.2.sp = x0) => thsTo_no (T := thsOf xs) (sp := x0) hjl (by rw [thsOf_get xs j hjt]; exact e))
          rw [thsOf_get xs j hjt] at HYJ
          have hcells := fun W (hb : Below w.heap.size w W) => cellsThing hb hct j hjt
          obtain ⟨⟨xa, xc, tt⟩, hxj⟩ : ∃ x, xs[j] = x := ⟨_, rfl⟩
          rw [hxj] at hth hokx HYJ HNJ
          simp only [hxj] at hcells
          dsimp only at hth HYJ HNJ
          have KT := Lib.hid (show ∀ W, Below w4.heap.size w4 W → Below w4.heap.size w4 W ∧ W.cell? ⟨w.heap.size, 5, none⟩ = some (.slice (some ⟨bt, ot, none⟩) xs.length ca5) ∧ W.cell? ⟨bt, ot + j * 7, none⟩ = some (.string tt.sp) ∧ W.cell? ⟨bt, ot + j * 7 + 1, none⟩ = some (.string tt.nm) ∧ W.cell? ⟨bt, ot + j * 7 + 2, none⟩ = some (.int .i64 tt.uid) ∧ W.cell? ⟨bt, ot + j * 7 + 3, none⟩ = some (.int .i64 tt.rev) ∧ W.cell? ⟨bt, ot + j * 7 + 4, none⟩ = some (.bool tt.gone) ∧ W.cell? ⟨bt, ot + j * 7 + 5, none⟩ = some (.slice xa tt.marks.length xc) ∧ W.cell? ⟨bt, ot + j * 7 + 6, none⟩ = some (.string tt.body) from fun W hb => by
            have hb2 := HF.out _ (B4.out.trans (hb.mono B4.out.size))
            obtain ⟨-, -, y5, -⟩ := KR.out _ hb
            obtain ⟨c0, c1, c2, c3, c4, c5, c6⟩ := hcells W hb2
            exact ⟨hb, y5, c0, c1, c2, c3, c4, c5, c6⟩)
          have hnm := thing_nm hth
          obtain ⟨tw, htw⟩ : ∃ s, twB tt = s := ⟨_, rfl⟩
          have stw : tw.size ≤ 110 := by rw [← htw]; exact twB_le _
          have HTW := Lib.hid (fun W (hb : Below w.heap.size w W) => specThW_any xa xc tt W (hokx.1.below hb) hokx.2 (by have := (thing_nums hth).2.2.1; omega))
          rw [htw] at HTW
          obtain ⟨-, -, c0, -⟩ := KT.out _ HB2.out
          clear hcells hct hokx hxj
          by_cases e : tt.sp = x0
          · have q1 : (tt.sp.toList == x0.toList) = true := by rw [e]; simp
            have HE := Lib.hid (show t ++ spLn (x0, x1, x2, x3, x4) u2 ++ thsTo (thsOf xs) x0 (j + 1) = o ++ ⟨#[32, 32]⟩ ++ tt.nm ++ ⟨#[32]⟩ ++ tw ++ ⟨#[10]⟩ by
              rw [HYJ.out e, ← ByteArray.append_assoc, HO.out]
              unfold thLn
              rw [htw]
              simp only [ByteArray.append_assoc])
            clear htw hth e
            have f1 : ¬ 9223372036854775807 < o.size + 2 := by omega
            have f2 : ¬ 9223372036854775807 < o.size + 2 + tt.nm.size := by omega
            have f3 : ¬ 9223372036854775807 < o.size + 2 + tt.nm.size + 1 := by omega
            have f4 : ¬ 9223372036854775807 < o.size + 2 + tt.nm.size + 1 + tw.size := by omega
            have f5 : ¬ 9223372036854775807 < o.size + 2 + tt.nm.size + 1 + tw.size + 1 := by omega
            go_wp2_with fail
            go_quiet (fail)
            have G3 := Lib.hid (below_drewN HB2.out nq)
            go_wp2_with fail
            clear y5 s0 c0
            go_region_held3 (fun W => Below w4.heap.size w4 W ∧ W.cell? ⟨w.heap.size, 5, none⟩ = some (.slice (some ⟨bt, ot, none⟩) xs.length ca5) ∧ W.cell? ⟨bt, ot + j * 7, none⟩ = some (.string tt.sp) ∧ W.cell? ⟨bt, ot + j * 7 + 1, none⟩ = some (.string tt.nm) ∧ W.cell? ⟨bt, ot + j * 7 + 2, none⟩ = some (.int .i64 tt.uid) ∧ W.cell? ⟨bt, ot + j * 7 + 3, none⟩ = some (.int .i64 tt.rev) ∧ W.cell? ⟨bt, ot + j * 7 + 4, none⟩ = some (.bool tt.gone) ∧ W.cell? ⟨bt, ot + j * 7 + 5, none⟩ = some (.slice xa tt.marks.length xc) ∧ W.cell? ⟨bt, ot + j * 7 + 6, none⟩ = some (.string tt.body))
              (first | exact KT.out _ GA.out | exact KT.out _ (G3.out.drew))
              ((go_at_call 23; refine (HTW.out _ (HF.out _ (B4.out.trans (G3.out.drew.mono B4.out.size)))).mono ?_; rintro e wA ⟨rfl, bA⟩; have GA := Lib.hid ((G3.out.drew).trans (bA.mono G3.out.size))))
            have GV := Lib.hid GA.out
            clear GA bA
            go_wp2
            go_roundg (gk - 1)
            case measure => have := HJ.out; omega
            case rel => exact ⟨j + 1, by have := HJ.out; omega, by go_num, by rw [HE.out], GV.out⟩
          · have q1 : (tt.sp.toList == x0.toList) = false := by
              rw [beq_eq_false_iff_ne]
              exact fun e2 => e (toList_inj e2)
            have HE := Lib.hid (show t ++ spLn (x0, x1, x2, x3, x4) u2 ++ thsTo (thsOf xs) x0 (j + 1) = o by rw [HNJ.out e, HO.out])
            clear htw hth e HTW
            go_wp2_with fail
            go_quiet (fail)
            have G3 := Lib.hid (below_drewN HB2.out nq)
            go_wp2
            go_roundg (gk - 1)
            case measure => have := HJ.out; omega
            case rel => exact ⟨j + 1, by have := HJ.out; omega, by go_num, by rw [HE.out], G3.out⟩
        · have HE := Lib.hid (show bdTo rev S U (thsOf xs) (k + 1) = o by
            have h1 : j = (thsOf xs).length := by rw [thsOf_len]; have := HJ.out; omega
            rw [HN1.out, ← h1, HO.out])
          have hjI : ¬ (j : Int) < (xs.length : Int) := by omega
          go_wp2
          go_roundg (S.length - k - 1)
          case measure => have := HKQ.out; omega
          case rel => exact ⟨k + 1, by have := HKQ.out; omega, by go_num, by rw [HE.out], B4.out.trans (HB2.out.mono B4.out.size)⟩
    · have hkS : k = S.length := by have := HKQ.out; omega
      have HE := Lib.hid (show boardB ⟨rev, uid, flo, S, U, thsOf xs, P⟩ = t by rw [HN.out]; show bdTo rev S U (thsOf xs) S.length = t; rw [← hkS, ht])
      have hkI : ¬ (k : Int) < (S.length : Int) := by omega
      rw [ht]
      clear ht hkS
      go_wp2
      go_ret
      exact ⟨by rw [HE.out]; rfl, HF.out _ HB.out⟩
end Go.Proofs.YtbioljpjpflboaaGreatDoor
