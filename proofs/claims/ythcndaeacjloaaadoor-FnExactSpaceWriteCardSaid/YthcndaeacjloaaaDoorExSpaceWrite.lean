import Derived.Test.YthcndaeacjloaaaDoorSpace
import Derived.Test.YthcndaeacjloaaaDoorSpaceW
/- The walk of FnExactSpaceWrite. -/
namespace Go.Proofs.YthcndaeacjloaaaDoor
open Go Go.RowKit Go.ChangeShapes Go.WideShapes
def VwSpaceV (_ : World) (v : Value) (x : SpaceD) : Prop := v = agS x ∧ OkSpace x
set_option maxRecDepth 100000 in
theorem openSpaceV {H : Type} {enc : TypeId × Value → H} {w : World} {r : Reach} {b0 : Nat} {v : Value} {d : DataW H} {p : List MemPlace} (hv : Value.okWide Tryd.prog w r b0 23 v) (h : DataW.Trod enc Tryd.prog w 0 (fun _ => true) true 23 v d p) :
    ∃ x, VwSpaceV w v x := by
  obtain ⟨cs, rfl, hsz⟩ := okWide_struct Tryd.underlying23 hv
  obtain ⟨n, hn⟩ := h
  obtain ⟨x, hc, h1⟩ := openSpace n _ _ hn
  refine ⟨x, ?_, h1⟩
  simp only [Value.cells] at hc
  unfold agS
  congr 1
  apply Array.ext'
  simpa [encSpace] using hc
set_option maxRecDepth 100000 in
set_option maxHeartbeats 4000000 in
theorem fnExactSpaceWriteW {x0 x1 : ByteArray} {x2 : Int} {x3 : Bool} {x4 : Int} (hs : x0.size ≤ maxLen) (hn : x1.size ≤ maxLen) (w : World) (htab : Lib.TabIs Tryd.prog w "internal/strconv.uint64pow10" .u64 Lib.pow10Tab) :
    Calls Tryd.prog 3 #[.agg #[.string x0, .string x1, .int .i64 x2, .bool x3, .int .i64 x4]] w fun e w' => e = .returned (.bool true) ∧ Below w.heap.size w w' := by
  have HT := Lib.hid htab
  clear htab
  obtain ⟨w1, hA⟩ : ∃ wA, w.alloc (.cells #[.string x0, .string x1, .int .i64 x2, .bool x3, .int .i64 x4] 23) = wA := ⟨_, rfl⟩
  have BX := Lib.hid (show Box w1 w.heap.size [.string x0, .string x1, .int .i64 x2, .bool x3, .int .i64 x4] by rw [← hA]; exact Box.alloc w _ _)
  have B1 := Lib.hid (show Below w.heap.size w w1 by rw [← hA]; exact below_alloc _ _)
  have z1 : w1.heap.size = w.heap.size + 1 := by rw [← hA, World.size_alloc]
  have HF := Lib.hid (show ∀ W, Below w1.heap.size w1 W → Below w.heap.size w W from fun W hb => B1.out.trans (hb.mono (by omega)))
  have KS := Lib.hid (show ∀ W, Below w1.heap.size w1 W → W.cell? ⟨w.heap.size, 0, none⟩ = some (.string x0) ∧ W.cell? ⟨w.heap.size, 1, none⟩ = some (.string x1) ∧ W.cell? ⟨w.heap.size, 2, none⟩ = some (.int .i64 x2) ∧ W.cell? ⟨w.heap.size, 3, none⟩ = some (.bool x3) ∧ W.cell? ⟨w.heap.size, 4, none⟩ = some (.int .i64 x4) from fun W hb => by
    have h := BX.out.below hb
    exact ⟨(h 0 _ rfl).1, (h 1 _ rfl).1, (h 2 _ rfl).1, (h 3 _ rfl).1, (h 4 _ rfl).1⟩)
  have HA := Lib.hid hA
  clear hA
  by_cases hb : (1048576 : Int) < (bulkSpace (x0, x1, x2, x3, x4) : Int)
  · have HRm := Lib.hid (szR_no hb)
    clear hb
    go_enter Tryd.func3, Tryd.ntmps3
    go_wp2_with fail
    rw [HA.out]
    refine (szSpace_any x0 x1 x2 x3 x4 (1048576 : Int) _ (by omega) (by omega) hs hn).mono ?_
    rintro e w2 ⟨rfl, b⟩
    rw [HRm.out]
    have G2 := b
    clear b
    go_wp2
    go_ret
    exact ⟨rfl, HF.out _ G2⟩
  have HRm := Lib.hid (szR_yes (show (bulkSpace (x0, x1, x2, x3, x4) : Int) ≤ (1048576 : Int) by omega))
  have hqm : 0 ≤ (1048576 : Int) - (bulkSpace (x0, x1, x2, x3, x4) : Int) := by omega
  clear hb
  obtain ⟨R, hR⟩ : ∃ R : ByteArray, swB (x0, x1, x2, x3, x4) = R := ⟨_, rfl⟩
  have HS := Lib.hid hR
  clear hR
  go_enter Tryd.func3, Tryd.ntmps3
  go_wp2_with fail
  rw [HA.out]
  refine (szSpace_any x0 x1 x2 x3 x4 (1048576 : Int) _ (by omega) (by omega) hs hn).mono ?_
  rintro e w2 ⟨rfl, b⟩
  rw [HRm.out]
  have G2 := b
  clear b
  obtain ⟨y0, y1, y2, y3, y4⟩ := KS.out _ G2
  go_wp2_with fail
  refine (toSpace_any x0 x1 x2 x3 x4 _).mono ?_
  rintro e w3 ⟨rfl, b⟩
  have G3 := G2.trans (b.mono G2.size)
  clear b y0 y1 y2 y3 y4
  go_wp2_with fail
  refine (specSpW_any x0 x1 x2 x3 x4 _ hs hn).mono ?_
  rintro e w4 ⟨rfl, b⟩
  rw [HS.out]
  have G4 := G3.trans (b.mono G3.size)
  clear b
  obtain ⟨y0, y1, y2, y3, y4⟩ := KS.out _ G4
  go_wp2_with fail
  refine (toSpace_any x0 x1 x2 x3 x4 _).mono ?_
  rintro e w5 ⟨rfl, b⟩
  have G5 := G4.trans (b.mono G4.size)
  clear b y0 y1 y2 y3 y4
  go_wp2_with fail
  refine (implSpW_any x0 x1 x2 x3 x4 _ hs hn (tab_below HT.out (HF.out _ G5))).mono ?_
  rintro e w6 ⟨rfl, b⟩
  rw [HS.out]
  have G6 := G5.trans (b.mono G5.size)
  clear b
  go_wp2
  go_ret
  exact ⟨rfl, HF.out _ G6⟩
theorem fnExactSpaceWriteWalk {w : World} (v : Value) (x : SpaceD) (h : VwSpaceV w v x) (htab : Lib.TabIs Tryd.prog w "internal/strconv.uint64pow10" .u64 Lib.pow10Tab) : Calls Tryd.prog 3 #[v] w fun e w' => e = .returned (.bool true) ∧ Below w.heap.size w w' := by
  obtain ⟨rfl, h1, h2⟩ := h
  exact fnExactSpaceWriteW h1 h2 w htab
end Go.Proofs.YthcndaeacjloaaaDoor
