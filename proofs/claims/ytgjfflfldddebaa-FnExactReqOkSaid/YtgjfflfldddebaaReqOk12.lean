import Derived.Test.YtgjfflfldddebaaReqK
import Derived.Handy
/- ReqOk of the program, at kind 12. -/
namespace Go.Proofs.Ytgjfflfldddebaa
open Go Go.RowKit
set_option maxRecDepth 100000 in
set_option maxHeartbeats 4000000 in
theorem okReq12 {sp nm tx : ByteArray} {n : Int}  {q2 : Bool} (hq2 : decide (sp = ⟨#[]⟩ ∧ nm = ⟨#[]⟩ ∧ n = 0 ∧ tx = ⟨#[]⟩) = q2) (w : World) : Calls Try.prog 13 #[.agg #[.int .i64 12, .string sp, .string nm, .int .i64 n, .string tx]] w fun e w' => e = .returned (.bool q2) ∧ Below w.heap.size w w' := by
  have he : ∀ W, (binOp .eql 43 (.agg #[.int .i64 12, .string ⟨#[]⟩, .string ⟨#[]⟩, .int .i64 0, .string ⟨#[]⟩]) (.agg #[.int .i64 12, .string sp, .string nm, .int .i64 n, .string tx])).run Try.prog W = .ok (.bool q2) W := fun W => by
    rw [eqReq]
    subst hq2
    congr 2
    exact decide_eq_decide.2 ⟨fun h => ⟨h.1.symm, h.2.1.symm, h.2.2.1.symm, h.2.2.2.symm⟩, fun h => ⟨h.1.symm, h.2.1.symm, h.2.2.1.symm, h.2.2.2.symm⟩⟩
  · go_enter Try.func13, Try.ntmps13
    go_wp2_with (first
      | (go_at_call 40; refine (reqOf12 _ _ _ _ _).mono ?_; rintro e w1 ⟨rfl, b1⟩))
    have KR := Lib.hid (heldR b1)
    clear b1
    go_region_held3 (fun w' => w'.cell? ⟨w.heap.size, 0, none⟩ = some (.int .i64 12) ∧ w'.cell? ⟨w.heap.size, 1, none⟩ = some (.string sp) ∧ w'.cell? ⟨w.heap.size, 2, none⟩ = some (.string nm) ∧ w'.cell? ⟨w.heap.size, 3, none⟩ = some (.int .i64 n) ∧ w'.cell? ⟨w.heap.size, 4, none⟩ = some (.string tx) ∧ Below w.heap.size w w')
      (first | exact KR.out _ b3 | exact KR.out _ (by repeat (first | exact Below.refl _ _ | (refine Below.alloc ?_ (by first | (simp; done) | (simp; omega)) _) | (refine Below.setCell ?_ (by first | (simp; done) | (simp; omega)) _) | (refine Below.drew ?_))))
      (first
      | (go_at_call 135; refine (k12_is _).mono ?_; rintro e w2 ⟨rfl, rfl⟩)
      | (go_at_call 41; refine (reqBack12 _).mono ?_; rintro e w3 ⟨rfl, b3o⟩; have b3 : Below w1.heap.size w1 w3 := (by refine Below.trans ?_ (b3o.mono ?_); exact (by repeat (first | exact Below.refl _ _ | (refine Below.alloc ?_ (by first | (simp; done) | (simp; omega)) _) | (refine Below.setCell ?_ (by first | (simp; done) | (simp; omega)) _) | (refine Below.drew ?_))); first | (simp; done) | (simp; omega) | omega)))
    go_wp2
    go_ret
    exact ⟨rfl, (KR.out _ b3).2.2.2.2.2⟩
end Go.Proofs.Ytgjfflfldddebaa
