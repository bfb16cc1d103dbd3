import Derived.Test.YthcndaeacjloaaaDoorProg
import Derived.Test.YthcndaeacjloaaaDoorBase
import Derived.Test.YthcndaeacjloaaaDoorMark
import Derived.Deep.RegionHeld3
import Derived.Deep.QuietTactic
import Derived.BigQuiet
import Derived.Test.YthcndaeacjloaaaDoorOpen
/- Space: what the helpers of the exact laws do with values of this type and with lists of them. -/
namespace Go.Proofs.YthcndaeacjloaaaDoor
open Go Go.RowKit Go.ChangeShapes Go.WideShapes

abbrev SpaceD := ByteArray × ByteArray × Int × Bool × Int
def encSpace (x : SpaceD) : List Value := [.string x.1, .string x.2.1, .int .i64 x.2.2.1, .bool x.2.2.2.1, .int .i64 x.2.2.2.2]
theorem encSpace_len (x : SpaceD) : (encSpace x).length = 5 := rfl
def bulkSpace (x : SpaceD) : Nat := x.1.size + x.2.1.size
def OkSpace (x : SpaceD) : Prop := x.1.size ≤ maxLen ∧ x.2.1.size ≤ maxLen
def bulkSpaceS (l : List SpaceD) : Nat := l.length + sumTo bulkSpace l l.length

theorem cellsSpace {w wr : World} {b o : Nat} {l : List SpaceD} (hb : Below w.heap.size w wr) (hc : ∀ j, (h : j < l.length) → ∀ i v, (encSpace l[j])[i]? = some v → w.cell? ⟨b, o + j * 5 + i, none⟩ = some v) (k : Nat) (h : k < l.length) :
    wr.cell? ⟨b, o + k * 5, none⟩ = some (.string l[k].1) ∧ wr.cell? ⟨b, o + k * 5 + 1, none⟩ = some (.string l[k].2.1) ∧ wr.cell? ⟨b, o + k * 5 + 2, none⟩ = some (.int .i64 l[k].2.2.1) ∧ wr.cell? ⟨b, o + k * 5 + 3, none⟩ = some (.bool l[k].2.2.2.1) ∧ wr.cell? ⟨b, o + k * 5 + 4, none⟩ = some (.int .i64 l[k].2.2.2.2) := by
  have g : ∀ i v, (encSpace l[k])[i]? = some v → wr.cell? ⟨b, o + k * 5 + i, none⟩ = some v := fun i v hv => by
    have h0 := hc k h i v hv
    rw [hb.cell (by have := World.block_lt_of_cell? w _ h0; simpa using this)]
    exact h0
  exact ⟨g 0 _ rfl, g 1 _ rfl, g 2 _ rfl, g 3 _ rfl, g 4 _ rfl⟩

set_option maxHeartbeats 400000 in
theorem szSpace_any (x0 : ByteArray) (x1 : ByteArray) (x2 : Int) (x3 : Bool) (x4 : Int) (left : Int) (w : World) (h0 : 0 ≤ left) (h1 : left ≤ 1048576) (s0 : x0.size ≤ maxLen) (s1 : x1.size ≤ maxLen) :
    Calls Tryd.prog 9 #[.agg #[.string x0, .string x1, .int .i64 x2, .bool x3, .int .i64 x4], .int .i64 left] w fun e w' => e = .returned (.int .i64 (szR left (bulkSpace (x0, x1, x2, x3, x4)))) ∧ Below w.heap.size w w' := by
  unfold maxLen at s0 s1
  have hb : bulkSpace (x0, x1, x2, x3, x4) = x0.size + x1.size := rfl
  rw [hb]
  clear hb
  by_cases g0 : left < (x0.size : Int)
  · have HR := Lib.hid (show szR left (x0.size + x1.size) = -1 from szR_no (by omega))
    go_enter Tryd.func9, Tryd.ntmps9
    go_wp2
    go_ret
    exact ⟨ret_int (by rw [HR.out]), (Below.refl _ _).alloc (Nat.le_refl _) _⟩
  by_cases g1 : left - (x0.size : Int) < (x1.size : Int)
  · have HR := Lib.hid (show szR left (x0.size + x1.size) = -1 from szR_no (by omega))
    go_enter Tryd.func9, Tryd.ntmps9
    go_wp2
    go_ret
    exact ⟨ret_int (by rw [HR.out]), (Below.refl _ _).alloc (Nat.le_refl _) _⟩
  have HR := Lib.hid (show szR left (x0.size + x1.size)  = left - (x0.size : Int) - (x1.size : Int) from (szR_yes (by omega)).trans (by omega))
  have k0 : (x0.size : Int) ≤ left := by omega
  have k1 : (x1.size : Int) ≤ left - (x0.size : Int) := by omega
  go_enter Tryd.func9, Tryd.ntmps9
  go_wp2
  go_ret
  exact ⟨ret_int (by rw [HR.out]), (Below.refl _ _).alloc (Nat.le_refl _) _⟩
theorem szSpace_of (x : SpaceD) (left : Int) (w : World) (h0 : 0 ≤ left) (h1 : left ≤ 1048576) (hz : OkSpace x) :
    Calls Tryd.prog 9 #[.agg #[.string x.1, .string x.2.1, .int .i64 x.2.2.1, .bool x.2.2.2.1, .int .i64 x.2.2.2.2], .int .i64 left] w fun e w' => e = .returned (.int .i64 (szR left (bulkSpace x))) ∧ Below w.heap.size w w' :=
  szSpace_any x.1 x.2.1 x.2.2.1 x.2.2.2.1 x.2.2.2.2 left w h0 h1 hz.1 hz.2


set_option maxRecDepth 100000 in
set_option maxHeartbeats 400000 in
theorem toSpace_any (x0 : ByteArray) (x1 : ByteArray) (x2 : Int) (x3 : Bool) (x4 : Int) (w : World) :
    Calls Tryd.prog 11 #[.agg #[.string x0, .string x1, .int .i64 x2, .bool x3, .int .i64 x4]] w fun e w' => e = .returned (.agg #[.string x0, .string x1, .int .i64 x2, .bool x3, .int .i64 x4]) ∧ Below w.heap.size w w' := by
  go_enter Tryd.func11, Tryd.ntmps11
  go_wp2
  exact bodyPost_ret (v := .agg #[.string x0, .string x1, .int .i64 x2, .bool x3, .int .i64 x4]) (by simp [results, Tryd.results11, go_sem]) rfl ⟨rfl, (by repeat (first | exact Below.refl _ _ | (refine Below.alloc ?_ (by first | (simp; done) | (simp; omega)) _) | (refine Below.setCell ?_ (by first | (simp; done) | (simp; omega)) _) | (refine Below.drew ?_)))⟩


set_option maxRecDepth 100000 in
set_option maxHeartbeats 400000 in
theorem eqSpace_any (x0 : ByteArray) (x1 : ByteArray) (x2 : Int) (x3 : Bool) (x4 : Int) (w : World) :
    Calls Tryd.prog 15 #[.agg #[.string x0, .string x1, .int .i64 x2, .bool x3, .int .i64 x4], .agg #[.string x0, .string x1, .int .i64 x2, .bool x3, .int .i64 x4]] w fun e w' => e = .returned (.bool true) ∧ Below w.heap.size w w' := by
  go_enter Tryd.func15, Tryd.ntmps15
  go_wp2
  go_ret
  exact ⟨rfl, (by repeat (first | exact Below.refl _ _ | (refine Below.alloc ?_ (by first | (simp; done) | (simp; omega)) _) | (refine Below.setCell ?_ (by first | (simp; done) | (simp; omega)) _) | (refine Below.drew ?_)))⟩




set_option maxRecDepth 100000 in
theorem openSpace {H : Type} {enc : TypeId × Value → H} {w : World} (n : Nat) (cs : List Value) (y : DataW H × List MemPlace) (h : DataW.trod enc Tryd.prog w 0 (fun _ => true) true n 23 cs = some y) : ∃ x : SpaceD, cs = encSpace x ∧ OkSpace x := by
  obtain ⟨ys, k, _, _, hl, hyl, hf⟩ := DataW.trod_struct Tryd.underlying23 h
  rw [show Tryd.prog.cellsOf 23 = 5 by kernel_rfl] at hl
  have kbool : Tryd.prog.cellsOf 4 = 1 := by kernel_rfl
  have kint : Tryd.prog.cellsOf 3 = 1 := by kernel_rfl
  have kstr : Tryd.prog.cellsOf 9 = 1 := by kernel_rfl
  match cs, hl, ys, hyl, hf with
  | [c0, c1, c2, c3, c4], _, [y0, y1, y2, y3, y4], _, hf =>
    obtain ⟨x0, e0, _, s0⟩ := DataW.trod_string (fuel := k) (cs := [c0]) (x := y0) Tryd.underlying9 (by simpa [kstr] using hf 0 _ rfl)
    obtain ⟨x1, e1, _, s1⟩ := DataW.trod_string (fuel := k) (cs := [c1]) (x := y1) Tryd.underlying9 (by simpa [kstr] using hf 1 _ rfl)
    obtain ⟨x2, e2, _, _⟩ := DataW.trod_int (fuel := k) (cs := [c2]) (x := y2) Tryd.underlying3 (by simpa [kint] using hf 2 _ rfl)
    obtain ⟨x3, e3, _⟩ := DataW.trod_bool (fuel := k) (cs := [c3]) (x := y3) Tryd.underlying4 (by simpa [kbool] using hf 3 _ rfl)
    obtain ⟨x4, e4, _, _⟩ := DataW.trod_int (fuel := k) (cs := [c4]) (x := y4) Tryd.underlying3 (by simpa [kint] using hf 4 _ rfl)
    exact ⟨(x0, x1, x2, x3, x4), by rw [List.cons_eq_cons.1 e0 |>.1, List.cons_eq_cons.1 e1 |>.1, List.cons_eq_cons.1 e2 |>.1, List.cons_eq_cons.1 e3 |>.1, List.cons_eq_cons.1 e4 |>.1]; rfl, ⟨s0, s1⟩⟩

end Go.Proofs.YthcndaeacjloaaaDoor
