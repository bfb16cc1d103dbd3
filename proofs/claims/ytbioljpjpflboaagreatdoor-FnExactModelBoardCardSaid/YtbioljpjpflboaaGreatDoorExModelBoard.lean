import Derived.Test.YtbioljpjpflboaaGreatDoorBoardS
import Derived.Test.YtbioljpjpflboaaGreatDoorBoardC
import Derived.Deep.RegionHeld3
/- The walk of FnExactModelBoard. -/
namespace Go.Proofs.YtbioljpjpflboaaGreatDoor
open Go Go.RowKit

set_option maxRecDepth 100000 in
set_option maxHeartbeats 8000000 in
theorem fnExactModelBoardWalk {w : World} (vm : Value) (m : ModelD) (hm : VwModel w vm m) (htab : Lib.TabIs Tryz.prog w "internal/strconv.uint64pow10" .u64 Lib.pow10Tab) :
    Calls Tryz.prog 3 #[vm] w fun e w' => e = .returned (.bool true) ∧ Below w.heap.size w w' := by
  have HV0 := Lib.hid hm
  have HT := Lib.hid htab
  clear htab
  obtain ⟨v3, v4, v5, v6, rfl, ⟨a3, ac3, rfl, -, -⟩, ⟨a4, ac4, rfl, -, -⟩, ⟨a5, ac5, xs, rfl, -, -, -⟩, ⟨a6, ac6, rfl, -, -⟩⟩ := hm
  obtain ⟨l5, hl5⟩ : ∃ n, xs.length = n := ⟨_, rfl⟩
  rw [hl5] at HV0 ⊢
  clear hl5
  obtain ⟨w1, hA⟩ : ∃ wA, w.alloc (.cells #[.int .i64 m.rev, .int .i64 m.uid, .int .i64 m.flo, .slice a3 m.sps.length ac3, .slice a4 m.uses.length ac4, .slice a5 l5 ac5, .slice a6 m.pasts.length ac6] 27) = wA := ⟨_, rfl⟩
  have BX := Lib.hid (show Box w1 w.heap.size [.int .i64 m.rev, .int .i64 m.uid, .int .i64 m.flo, .slice a3 m.sps.length ac3, .slice a4 m.uses.length ac4, .slice a5 l5 ac5, .slice a6 m.pasts.length ac6] by rw [← hA]; exact Box.alloc w _ _)
  have B1 := Lib.hid (show Below w.heap.size w w1 by rw [← hA]; exact below_alloc _ _)
  have HV := HV0.out.below B1.out
  have z1 : w1.heap.size = w.heap.size + 1 := by rw [← hA, World.size_alloc]
  have HF := Lib.hid (show ∀ W, Below w1.heap.size w1 W → Below w.heap.size w W from fun W hb => B1.out.trans (hb.mono (by omega)))
  have KS := Lib.hid (show ∀ W, Below w1.heap.size w1 W → W.cell? ⟨w.heap.size, 0, none⟩ = some (.int .i64 m.rev) ∧ W.cell? ⟨w.heap.size, 1, none⟩ = some (.int .i64 m.uid) ∧ W.cell? ⟨w.heap.size, 2, none⟩ = some (.int .i64 m.flo) ∧ W.cell? ⟨w.heap.size, 3, none⟩ = some (.slice a3 m.sps.length ac3) ∧ W.cell? ⟨w.heap.size, 4, none⟩ = some (.slice a4 m.uses.length ac4) ∧ W.cell? ⟨w.heap.size, 5, none⟩ = some (.slice a5 l5 ac5) ∧ W.cell? ⟨w.heap.size, 6, none⟩ = some (.slice a6 m.pasts.length ac6) from fun W hb => by
    have h := BX.out.below hb
    exact ⟨(h 0 _ rfl).1, (h 1 _ rfl).1, (h 2 _ rfl).1, (h 3 _ rfl).1, (h 4 _ rfl).1, (h 5 _ rfl).1, (h 6 _ rfl).1⟩)
  have HA := Lib.hid hA
  clear hA
  by_cases hb : (1048576 : Int) < (bulkModel m : Int)
  · have HRm := Lib.hid (szR_no hb)
    clear hb
    go_enter Tryz.func3, Tryz.ntmps3
    go_wp2_with fail
    rw [HA.out]
    refine (szModel_c HV (left := (1048576 : Int)) (by omega) (by omega)).mono ?_
    rintro e w2 ⟨rfl, b⟩
    rw [HRm.out]
    have G2 := b
    clear b
    go_wp2
    go_ret
    exact ⟨rfl, HF.out _ G2⟩
  have HRm := Lib.hid (szR_yes (show (bulkModel m : Int) ≤ (1048576 : Int) by omega))
  have hqm : 0 ≤ (1048576 : Int) - bulkModel m := by omega
  have hnm : (bulkModel m : Int) ≤ 1048576 := by omega
  clear hb
  obtain ⟨R, hR⟩ : ∃ R : ByteArray, boardB m = R := ⟨_, rfl⟩
  have HS := Lib.hid hR
  clear hR
  go_enter Tryz.func3, Tryz.ntmps3
  go_wp2_with fail
  rw [HA.out]
  refine (szModel_c HV (left := (1048576 : Int)) (by omega) (by omega)).mono ?_
  rintro e w2 ⟨rfl, b⟩
  rw [HRm.out]
  have G2 := b
  clear b
  obtain ⟨y0, y1, y2, y3, y4, y5, y6⟩ := KS.out _ G2
  go_wp2_with fail
  refine (toModel_c (HV.below G2) hnm).mono ?_
  rintro e w3 ⟨usm, rfl, o, b⟩
  have G3 := G2.trans (b.mono G2.size)
  clear b
  have Osm := o
  clear o y0 y1 y2 y3 y4 y5 y6
  go_wp2_with fail
  refine (specBoard_any Osm.vw hnm).mono ?_
  rintro e w3' ⟨rfl, b⟩
  rw [HS.out]
  replace G3 := G3.trans (b.mono G3.size)
  clear b Osm
  obtain ⟨y0, y1, y2, y3, y4, y5, y6⟩ := KS.out _ G3
  go_wp2_with fail
  refine (toModel_c (HV.below G3) hnm).mono ?_
  rintro e w4 ⟨uxm, rfl, o, b⟩
  have G4 := G3.trans (b.mono G3.size)
  clear b y0 y1 y2 y3 y4 y5 y6
  have Oxm := o
  clear o
  obtain ⟨v3, v4, v5, v6, b0, b1, b2, b3, b4, e, g, o3, o4, o5, o6⟩ := id Oxm
  obtain ⟨x3, n3, xc3, rfl⟩ := o3.shape
  obtain ⟨x4, n4, xc4, rfl⟩ := o4.shape
  obtain ⟨x5, n5, xc5, rfl⟩ := o5.shape
  obtain ⟨x6, n6, xc6, rfl⟩ := o6.shape
  subst e
  clear o3 o4 o5 o6 g
  obtain ⟨w5, hW5⟩ : ∃ wA, w4.alloc (.cells #[.int .i64 m.rev, .int .i64 m.uid, .int .i64 m.flo, .slice x3 n3 xc3, .slice x4 n4 xc4, .slice x5 n5 xc5, .slice x6 n6 xc6] 35) = wA := ⟨_, rfl⟩
  have BY := Lib.hid (show Box w5 w4.heap.size [.int .i64 m.rev, .int .i64 m.uid, .int .i64 m.flo, .slice x3 n3 xc3, .slice x4 n4 xc4, .slice x5 n5 xc5, .slice x6 n6 xc6] by rw [← hW5]; exact Box.alloc w4 _ _)
  have b5 : Below w4.heap.size w4 w5 := by rw [← hW5]; exact below_alloc _ _
  have z5 : w5.heap.size = w4.heap.size + 1 := by rw [← hW5, World.size_alloc]
  have G5 := G4.trans (b5.mono G4.size)
  have O5 := Lib.hid (Oxm.below b5)
  have HW5 := Lib.hid hW5
  have zg := G4.size
  clear hW5 b5 Oxm
  go_wp2_with fail
  rw [HW5.out]
  refine (implBoard_any O5.out hnm (tab_below HT.out (HF.out _ G5))).mono ?_
  rintro e w6 ⟨rfl, b6⟩
  rw [HS.out]
  have B6 := Lib.hid b6
  have KK := Lib.hid (show ∀ W, Below w5.heap.size w5 W → Below w5.heap.size w5 W ∧ W.cell? ⟨w.heap.size, 0, none⟩ = some (.int .i64 m.rev) ∧ W.cell? ⟨w.heap.size, 1, none⟩ = some (.int .i64 m.uid) ∧ W.cell? ⟨w.heap.size, 2, none⟩ = some (.int .i64 m.flo) ∧ W.cell? ⟨w.heap.size, 3, none⟩ = some (.slice a3 m.sps.length ac3) ∧ W.cell? ⟨w.heap.size, 4, none⟩ = some (.slice a4 m.uses.length ac4) ∧ W.cell? ⟨w.heap.size, 5, none⟩ = some (.slice a5 l5 ac5) ∧ W.cell? ⟨w.heap.size, 6, none⟩ = some (.slice a6 m.pasts.length ac6) ∧ W.cell? ⟨w4.heap.size, 0, none⟩ = some (.int .i64 m.rev) ∧ W.cell? ⟨w4.heap.size, 1, none⟩ = some (.int .i64 m.uid) ∧ W.cell? ⟨w4.heap.size, 2, none⟩ = some (.int .i64 m.flo) ∧ W.cell? ⟨w4.heap.size, 3, none⟩ = some (.slice x3 n3 xc3) ∧ W.cell? ⟨w4.heap.size, 4, none⟩ = some (.slice x4 n4 xc4) ∧ W.cell? ⟨w4.heap.size, 5, none⟩ = some (.slice x5 n5 xc5) ∧ W.cell? ⟨w4.heap.size, 6, none⟩ = some (.slice x6 n6 xc6) from fun W hb => by
    obtain ⟨y0, y1, y2, y3, y4, y5, y6⟩ := KS.out _ (G5.trans (hb.mono G5.size))
    have h := BY.out.below hb
    exact ⟨hb, y0, y1, y2, y3, y4, y5, y6, (h 0 _ rfl).1, (h 1 _ rfl).1, (h 2 _ rfl).1, (h 3 _ rfl).1, (h 4 _ rfl).1, (h 5 _ rfl).1, (h 6 _ rfl).1⟩)
  have HG5 := Lib.hid G5
  have HHV := Lib.hid HV
  clear b6 G2 G3 G4 G5 HV
  go_wp2_with fail
  have B0 := B6.out.drew
  try go_wp2_with fail
  go_region_held3 (fun W => Below w5.heap.size w5 W ∧ W.cell? ⟨w.heap.size, 0, none⟩ = some (.int .i64 m.rev) ∧ W.cell? ⟨w.heap.size, 1, none⟩ = some (.int .i64 m.uid) ∧ W.cell? ⟨w.heap.size, 2, none⟩ = some (.int .i64 m.flo) ∧ W.cell? ⟨w.heap.size, 3, none⟩ = some (.slice a3 m.sps.length ac3) ∧ W.cell? ⟨w.heap.size, 4, none⟩ = some (.slice a4 m.uses.length ac4) ∧ W.cell? ⟨w.heap.size, 5, none⟩ = some (.slice a5 l5 ac5) ∧ W.cell? ⟨w.heap.size, 6, none⟩ = some (.slice a6 m.pasts.length ac6) ∧ W.cell? ⟨w4.heap.size, 0, none⟩ = some (.int .i64 m.rev) ∧ W.cell? ⟨w4.heap.size, 1, none⟩ = some (.int .i64 m.uid) ∧ W.cell? ⟨w4.heap.size, 2, none⟩ = some (.int .i64 m.flo) ∧ W.cell? ⟨w4.heap.size, 3, none⟩ = some (.slice x3 n3 xc3) ∧ W.cell? ⟨w4.heap.size, 4, none⟩ = some (.slice x4 n4 xc4) ∧ W.cell? ⟨w4.heap.size, 5, none⟩ = some (.slice x5 n5 xc5) ∧ W.cell? ⟨w4.heap.size, 6, none⟩ = some (.slice x6 n6 xc6))
    (first | exact KK.out _ B0 | exact KK.out _ B7 | exact KK.out _ B8)
    (first
      | (go_at_call 7; refine (toModel_c (HHV.out.below (HG5.out.trans (B0.mono HG5.out.size))) hnm).mono ?_; rintro e w7 ⟨uy, rfl, oy, b7⟩; have B7 : Below w5.heap.size w5 w7 := B0.trans (b7.mono B0.size))
      | (go_at_call 9; refine (eqModel_c (O5.out.below B7).vw oy.vw).mono ?_; rintro e w8 ⟨rfl, b8⟩; have B8 : Below w5.heap.size w5 w8 := B7.trans (b8.mono B7.size)))
  go_wp2
  go_ret
  exact ⟨rfl, HF.out _ (HG5.out.trans (B8.mono HG5.out.size))⟩
end Go.Proofs.YtbioljpjpflboaaGreatDoor
