import Derived.Test.YtgjfflfldddebaaReqJ
/- Requests, of the program: what the twelve walks of ReqOk share. -/
namespace Go.Proofs.Ytgjfflfldddebaa
open Go Go.RowKit

theorem heldR {w w1 : World} {k n : Int} {sp nm tx : ByteArray} (b1 : Below (w.alloc (.cells #[.int .i64 k, .string sp, .string nm, .int .i64 n, .string tx] 43)).heap.size (w.alloc (.cells #[.int .i64 k, .string sp, .string nm, .int .i64 n, .string tx] 43)) w1) :
    ∀ w' : World, Below w1.heap.size w1 w' → w'.cell? ⟨w.heap.size, 0, none⟩ = some (.int .i64 k) ∧ w'.cell? ⟨w.heap.size, 1, none⟩ = some (.string sp) ∧ w'.cell? ⟨w.heap.size, 2, none⟩ = some (.string nm) ∧ w'.cell? ⟨w.heap.size, 3, none⟩ = some (.int .i64 n) ∧ w'.cell? ⟨w.heap.size, 4, none⟩ = some (.string tx) ∧ Below w.heap.size w w' := by
  intro w' hb
  have B : Below (w.alloc (.cells #[.int .i64 k, .string sp, .string nm, .int .i64 n, .string tx] 43)).heap.size (w.alloc (.cells #[.int .i64 k, .string sp, .string nm, .int .i64 n, .string tx] 43)) w' := b1.trans (hb.mono b1.size)
  have Q := (Box.alloc w #[.int .i64 k, .string sp, .string nm, .int .i64 n, .string tx] 43).below B
  exact ⟨(Q 0 _ rfl).1, (Q 1 _ rfl).1, (Q 2 _ rfl).1, (Q 3 _ rfl).1, (Q 4 _ rfl).1, (below_alloc _ _).trans (B.mono (by simp))⟩
theorem tl_inj {a b : ByteArray} : a.toList = b.toList ↔ a = b := by
  rw [ByteArray.toList_eq, ByteArray.toList_eq]
  exact ⟨fun h => by
    cases a; cases b
    congr 1
    exact Array.toList_inj.1 h, fun h => by rw [h]⟩
set_option maxRecDepth 100000 in
set_option maxHeartbeats 1000000 in
theorem eqReq {k n n' : Int} {sp nm tx sp' nm' tx' : ByteArray} (W : World) : (binOp .eql 43 (.agg #[.int .i64 k, .string sp, .string nm, .int .i64 n, .string tx]) (.agg #[.int .i64 k, .string sp', .string nm', .int .i64 n', .string tx'])).run Try.prog W = .ok (.bool (decide (sp = sp' ∧ nm = nm' ∧ n = n' ∧ tx = tx'))) W := by
  by_cases h1 : sp = sp' <;> by_cases h2 : nm = nm' <;> by_cases h3 : n = n' <;> by_cases h4 : tx = tx' <;> (try subst h1) <;> (try subst h2) <;> (try subst h3) <;> (try subst h4) <;> go_simp <;> (first | (simp; done) | (simp [tl_inj, h1]; done) | (simp [tl_inj, h2]; done) | (simp [tl_inj, h3]; done) | (simp [tl_inj, h4]; done))
end Go.Proofs.Ytgjfflfldddebaa
