import Derived.Test.YtgjfflfldddebaaReqK
import Derived.Test.YtgjfflfldddebaaStrSz
import Derived.Test.YtgjfflfldddebaaOpen
/- A request as an argument of a law. -/
namespace Go.Proofs.Ytgjfflfldddebaa
open Go Go.RowKit Go.ChangeShapes Go.WideShapes
abbrev ReqD := Int × ByteArray × ByteArray × Int × ByteArray
def reqV (x : ReqD) : Value := .agg #[.int .i64 x.1, .string x.2.1, .string x.2.2.1, .int .i64 x.2.2.2.1, .string x.2.2.2.2]
def OkReqD (x : ReqD) : Prop := x.2.1.size ≤ maxLen ∧ x.2.2.1.size ≤ maxLen ∧ x.2.2.2.2.size ≤ maxLen
def bulkReq (x : ReqD) : Nat := x.2.1.size + x.2.2.1.size + x.2.2.2.2.size
set_option maxRecDepth 100000 in
set_option maxHeartbeats 1000000 in
theorem szReq_any {k n : Int} {sp nm tx : ByteArray} (hs : sp.size ≤ maxLen) (hn : nm.size ≤ maxLen) (ht : tx.size ≤ maxLen) (left : Int) (w : World) (h0 : 0 ≤ left) (h1 : left ≤ 1048576) :
    Calls Try.prog 10 #[.agg #[.int .i64 k, .string sp, .string nm, .int .i64 n, .string tx], .int .i64 left] w fun e w' => e = .returned (.int .i64 (szR left (sp.size + nm.size + tx.size))) ∧ Below w.heap.size w w' := by
  unfold maxLen at hs hn ht
  by_cases g0 : left < (sp.size : Int)
  · have HR := Lib.hid (show szR left (sp.size + nm.size + tx.size) = -1 from szR_no (by omega))
    go_enter Try.func10, Try.ntmps10
    go_wp2
    go_ret
    exact ⟨ret_int (by rw [HR.out]), (Below.refl _ _).alloc (Nat.le_refl _) _⟩
  by_cases g1 : left - (sp.size : Int) < (nm.size : Int)
  · have HR := Lib.hid (show szR left (sp.size + nm.size + tx.size) = -1 from szR_no (by omega))
    go_enter Try.func10, Try.ntmps10
    go_wp2
    go_ret
    exact ⟨ret_int (by rw [HR.out]), (Below.refl _ _).alloc (Nat.le_refl _) _⟩
  by_cases g2 : left - (sp.size : Int) - (nm.size : Int) < (tx.size : Int)
  · have HR := Lib.hid (show szR left (sp.size + nm.size + tx.size) = -1 from szR_no (by omega))
    go_enter Try.func10, Try.ntmps10
    go_wp2
    go_ret
    exact ⟨ret_int (by rw [HR.out]), (Below.refl _ _).alloc (Nat.le_refl _) _⟩
  have HR := Lib.hid (show szR left (sp.size + nm.size + tx.size) = left - (sp.size : Int) - (nm.size : Int) - (tx.size : Int) by rw [szR_yes (by omega)]; omega)
  go_enter Try.func10, Try.ntmps10
  go_wp2
  go_ret
  exact ⟨ret_int (by rw [HR.out]), (Below.refl _ _).alloc (Nat.le_refl _) _⟩
set_option maxRecDepth 100000 in
set_option maxHeartbeats 1000000 in
theorem toReq_any (k n : Int) (sp nm tx : ByteArray) (w : World) :
    Calls Try.prog 12 #[.agg #[.int .i64 k, .string sp, .string nm, .int .i64 n, .string tx]] w fun e w' => e = .returned (.agg #[.int .i64 k, .string sp, .string nm, .int .i64 n, .string tx]) ∧ Below w.heap.size w w' := by
  go_enter Try.func12, Try.ntmps12
  go_wp2
  exact bodyPost_ret (v := .agg #[.int .i64 k, .string sp, .string nm, .int .i64 n, .string tx]) (by simp [results, Try.results12, go_sem]) rfl ⟨rfl, (by repeat (first | exact Below.refl _ _ | (refine Below.alloc ?_ (by first | (simp; done) | (simp; omega)) _) | (refine Below.setCell ?_ (by first | (simp; done) | (simp; omega)) _) | (refine Below.drew ?_)))⟩
set_option maxRecDepth 100000 in
theorem openReqC {H : Type} {enc : TypeId × Value → H} {w : World} (n : Nat) (cs : List Value) (y : DataW H × List MemPlace) (h : DataW.trod enc Try.prog w 0 (fun _ => true) true n 40 cs = some y) : ∃ x : ReqD, cs = [.int .i64 x.1, .string x.2.1, .string x.2.2.1, .int .i64 x.2.2.2.1, .string x.2.2.2.2] ∧ OkReqD x := by
  obtain ⟨ys, k, _, _, hl, hyl, hf⟩ := DataW.trod_struct Try.underlying40 h
  rw [show Try.prog.cellsOf 40 = 5 by kernel_rfl] at hl
  have kint : Try.prog.cellsOf 3 = 1 := by kernel_rfl
  have kstr : Try.prog.cellsOf 9 = 1 := by kernel_rfl
  match cs, hl, ys, hyl, hf with
  | [c0, c1, c2, c3, c4], _, [y0, y1, y2, y3, y4], _, hf =>
    obtain ⟨x0, e0, _, _⟩ := DataW.trod_int (fuel := k) (cs := [c0]) (x := y0) Try.underlying3 (by simpa [kint] using hf 0 _ rfl)
    obtain ⟨x1, e1, _, s1⟩ := DataW.trod_string (fuel := k) (cs := [c1]) (x := y1) Try.underlying9 (by simpa [kstr, kint] using hf 1 _ rfl)
    obtain ⟨x2, e2, _, s2⟩ := DataW.trod_string (fuel := k) (cs := [c2]) (x := y2) Try.underlying9 (by simpa [kstr, kint] using hf 2 _ rfl)
    obtain ⟨x3, e3, _, _⟩ := DataW.trod_int (fuel := k) (cs := [c3]) (x := y3) Try.underlying3 (by simpa [kint, kstr] using hf 3 _ rfl)
    obtain ⟨x4, e4, _, s4⟩ := DataW.trod_string (fuel := k) (cs := [c4]) (x := y4) Try.underlying9 (by simpa [kstr, kint] using hf 4 _ rfl)
    exact ⟨⟨x0, x1, x2, x3, x4⟩, by rw [List.cons_eq_cons.1 e0 |>.1, List.cons_eq_cons.1 e1 |>.1, List.cons_eq_cons.1 e2 |>.1, List.cons_eq_cons.1 e3 |>.1, List.cons_eq_cons.1 e4 |>.1], s1, s2, s4⟩
def VwReq (_ : World) (v : Value) (x : ReqD) : Prop := v = reqV x ∧ OkReqD x
set_option maxRecDepth 100000 in
theorem openReq {H : Type} {enc : TypeId × Value → H} {w : World} {r : Reach} {b0 : Nat} {v : Value} {d : DataW H} {p : List MemPlace} (hv : Value.okWide Try.prog w r b0 40 v) (h : DataW.Trod enc Try.prog w 0 (fun _ => true) true 40 v d p) :
    ∃ x, VwReq w v x := by
  obtain ⟨cs, rfl, hsz⟩ := okWide_struct Try.underlying40 hv
  obtain ⟨n, hn⟩ := h
  obtain ⟨x, hc, h1⟩ := openReqC n _ _ hn
  refine ⟨x, ?_, h1⟩
  simp only [Value.cells] at hc
  unfold reqV
  congr 1
  apply Array.ext'
  simpa using hc
end Go.Proofs.Ytgjfflfldddebaa
