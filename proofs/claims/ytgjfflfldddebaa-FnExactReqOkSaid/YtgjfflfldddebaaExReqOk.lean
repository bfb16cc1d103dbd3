import Derived.Test.YtgjfflfldddebaaReqX
import Derived.Test.YtgjfflfldddebaaReqOkS
/- The walk of FnExactReqOk. -/
namespace Go.Proofs.Ytgjfflfldddebaa
open Go Go.RowKit
set_option maxRecDepth 100000 in
set_option maxHeartbeats 4000000 in
theorem fnExactReqOkW {k n : Int} {sp nm tx : ByteArray} (hs : sp.size ≤ maxLen) (hn : nm.size ≤ maxLen) (ht : tx.size ≤ maxLen) (w : World) :
    Calls Try.prog 4 #[.agg #[.int .i64 k, .string sp, .string nm, .int .i64 n, .string tx]] w fun e w' => e = .returned (.bool true) ∧ Below w.heap.size w w' := by
  obtain ⟨w1, hA⟩ : ∃ wA, w.alloc (.cells #[.int .i64 k, .string sp, .string nm, .int .i64 n, .string tx] 40) = wA := ⟨_, rfl⟩
  have BX := Lib.hid (show Box w1 w.heap.size [.int .i64 k, .string sp, .string nm, .int .i64 n, .string tx] by rw [← hA]; exact Box.alloc w _ _)
  have B1 := Lib.hid (show Below w.heap.size w w1 by rw [← hA]; exact below_alloc _ _)
  have z1 : w1.heap.size = w.heap.size + 1 := by rw [← hA, World.size_alloc]
  have HF := Lib.hid (show ∀ W, Below w1.heap.size w1 W → Below w.heap.size w W from fun W hb => B1.out.trans (hb.mono (by omega)))
  have KS := Lib.hid (show ∀ W, Below w1.heap.size w1 W → W.cell? ⟨w.heap.size, 0, none⟩ = some (.int .i64 k) ∧ W.cell? ⟨w.heap.size, 1, none⟩ = some (.string sp) ∧ W.cell? ⟨w.heap.size, 2, none⟩ = some (.string nm) ∧ W.cell? ⟨w.heap.size, 3, none⟩ = some (.int .i64 n) ∧ W.cell? ⟨w.heap.size, 4, none⟩ = some (.string tx) from fun W hb => by
    have h := BX.out.below hb
    exact ⟨(h 0 _ rfl).1, (h 1 _ rfl).1, (h 2 _ rfl).1, (h 3 _ rfl).1, (h 4 _ rfl).1⟩)
  have HA := Lib.hid hA
  clear hA
  by_cases hb : (1048576 : Int) < ((sp.size + nm.size + tx.size : Nat) : Int)
  · have HRm := Lib.hid (szR_no hb)
    clear hb
    go_enter Try.func4, Try.ntmps4
    go_wp2_with fail
    rw [HA.out]
    refine (szReq_any hs hn ht (1048576 : Int) _ (by omega) (by omega)).mono ?_
    rintro e w2 ⟨rfl, b⟩
    rw [HRm.out]
    have G2 := b
    clear b
    go_wp2
    go_ret
    exact ⟨rfl, HF.out _ G2⟩
  have HRm := Lib.hid (szR_yes (show ((sp.size + nm.size + tx.size : Nat) : Int) ≤ (1048576 : Int) by omega))
  have hqm : 0 ≤ (1048576 : Int) - ((sp.size + nm.size + tx.size : Nat) : Int) := by omega
  clear hb
  obtain ⟨R, hR⟩ : ∃ R : Bool, reqB k sp nm n tx = R := ⟨_, rfl⟩
  have HS := Lib.hid hR
  clear hR
  go_enter Try.func4, Try.ntmps4
  go_wp2_with fail
  rw [HA.out]
  refine (szReq_any hs hn ht (1048576 : Int) _ (by omega) (by omega)).mono ?_
  rintro e w2 ⟨rfl, b⟩
  rw [HRm.out]
  have G2 := b
  clear b
  obtain ⟨y0, y1, y2, y3, y4⟩ := KS.out _ G2
  go_wp2_with fail
  refine (toReq_any k n sp nm tx _).mono ?_
  rintro e w3 ⟨rfl, b⟩
  have G3 := G2.trans (b.mono G2.size)
  clear b y0 y1 y2 y3 y4
  go_wp2_with fail
  refine (specReqOk_any hs hn ht _).mono ?_
  rintro e w4 ⟨rfl, b⟩
  rw [HS.out]
  have G4 := G3.trans (b.mono G3.size)
  clear b
  obtain ⟨y0, y1, y2, y3, y4⟩ := KS.out _ G4
  go_wp2_with fail
  refine (toReq_any k n sp nm tx _).mono ?_
  rintro e w5 ⟨rfl, b⟩
  have G5 := G4.trans (b.mono G4.size)
  clear b y0 y1 y2 y3 y4
  go_wp2_with fail
  refine (implReqOk_any hs hn ht _).mono ?_
  rintro e w6 ⟨rfl, b⟩
  rw [HS.out]
  have G6 := G5.trans (b.mono G5.size)
  have HBR : (R != R) = false := by simp
  clear b
  go_wp2
  go_ret
  exact ⟨rfl, HF.out _ G6⟩
theorem fnExactReqOkWalk {w : World} (v : Value) (x : ReqD) (h : VwReq w v x) : Calls Try.prog 4 #[v] w fun e w' => e = .returned (.bool true) ∧ Below w.heap.size w w' := by
  obtain ⟨rfl, h1, h2, h3⟩ := h
  exact fnExactReqOkW h1 h2 h3 w
end Go.Proofs.Ytgjfflfldddebaa
