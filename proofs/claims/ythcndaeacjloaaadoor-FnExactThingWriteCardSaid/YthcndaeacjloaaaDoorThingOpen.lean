import Derived.Test.YthcndaeacjloaaaDoorThingOk
import Derived.Test.YthcndaeacjloaaaDoorOpen
/- How an argument that is a thing is opened. -/
namespace Go.Proofs.YthcndaeacjloaaaDoor
open Go Go.RowKit Go.ChangeShapes Go.WideShapes

set_option maxRecDepth 100000 in
theorem openThingC {H : Type} {enc : TypeId × Value → H} {w : World} (n : Nat) (cs : List Value) (y : DataW H × List MemPlace) (h : DataW.trod enc Tryd.prog w 0 (fun _ => true) true n 35 cs = some y) : ∃ a c t, cs = thingCells a c t ∧ StrS w a t.marks ∧ OkThing t := by
  obtain ⟨ys, k, _, _, hl, hyl, hf⟩ := DataW.trod_struct Tryd.underlying35 h
  rw [show Tryd.prog.cellsOf 35 = 7 by kernel_rfl] at hl
  have kint : Tryd.prog.cellsOf 3 = 1 := by kernel_rfl
  have kstr : Tryd.prog.cellsOf 9 = 1 := by kernel_rfl
  have kbool : Tryd.prog.cellsOf 4 = 1 := by kernel_rfl
  have kst : Tryd.prog.cellsOf 33 = 1 := by kernel_rfl
  match cs, hl, ys, hyl, hf with
  | [c0, c1, c2, c3, c4, c5, c6], _, [y0, y1, y2, y3, y4, y5, y6], _, hf =>
    obtain ⟨x0, e0, _, s0⟩ := DataW.trod_string (fuel := k) (cs := [c0]) (x := y0) Tryd.underlying9 (by simpa [kstr] using hf 0 _ rfl)
    obtain ⟨x1, e1, _, s1⟩ := DataW.trod_string (fuel := k) (cs := [c1]) (x := y1) Tryd.underlying9 (by simpa [kstr] using hf 1 _ rfl)
    obtain ⟨x2, e2, _, _⟩ := DataW.trod_int (fuel := k) (cs := [c2]) (x := y2) Tryd.underlying3 (by simpa [kint] using hf 2 _ rfl)
    obtain ⟨x3, e3, _, _⟩ := DataW.trod_int (fuel := k) (cs := [c3]) (x := y3) Tryd.underlying3 (by simpa [kint] using hf 3 _ rfl)
    obtain ⟨x4, e4, _⟩ := DataW.trod_bool (fuel := k) (cs := [c4]) (x := y4) Tryd.underlying4 (by simpa [kbool] using hf 4 _ rfl)
    obtain ⟨a, l, c, e5, s5⟩ := open_strS (fuel := k) (cs := [c5]) (x := y5) Tryd.underlying33 Tryd.underlying9 (by kernel_rfl) (by simpa [kst] using hf 5 _ rfl)
    obtain ⟨x6, e6, _, s6⟩ := DataW.trod_string (fuel := k) (cs := [c6]) (x := y6) Tryd.underlying9 (by simpa [kstr] using hf 6 _ rfl)
    exact ⟨a, c, ⟨x0, x1, x2, x3, x4, l, x6⟩, by rw [List.cons_eq_cons.1 e0 |>.1, List.cons_eq_cons.1 e1 |>.1, List.cons_eq_cons.1 e2 |>.1, List.cons_eq_cons.1 e3 |>.1, List.cons_eq_cons.1 e4 |>.1, List.cons_eq_cons.1 e5 |>.1, List.cons_eq_cons.1 e6 |>.1]; rfl, s5, s0, s1, s6⟩

set_option maxRecDepth 100000 in
theorem open_thing {H : Type} {enc : TypeId × Value → H} {w : World} {r : Reach} {b0 : Nat} {v : Value} {d : DataW H} {p : List MemPlace} (hv : Value.okWide Tryd.prog w r b0 35 v) (h : DataW.Trod enc Tryd.prog w 0 (fun _ => true) true 35 v d p) :
    ∃ a c t, v = thingV a c t ∧ StrS w a t.marks ∧ OkThing t := by
  obtain ⟨cs, rfl, hsz⟩ := okWide_struct Tryd.underlying35 hv
  obtain ⟨n, hn⟩ := h
  obtain ⟨a, c, t, hc, h1, h2⟩ := openThingC n _ _ hn
  refine ⟨a, c, t, ?_, h1, h2⟩
  simp only [Value.cells] at hc
  unfold thingV
  congr 1
  apply Array.ext'
  simpa [thingCells] using hc
end Go.Proofs.YthcndaeacjloaaaDoor
