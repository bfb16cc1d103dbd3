import Derived.Test.YtbioljpjpflboaaGreatDoorModelPS
import Derived.Test.YtbioljpjpflboaaGreatDoorStrOrd
/- Which thing stands ahead of which, of the model: l10Less. -/
namespace Go.Proofs.YtbioljpjpflboaaGreatDoor
open Go Go.RowKit

def lessTB (a b : ThingD) : Bool := ltS a.sp b.sp || (decide (a.sp = b.sp) && ltS a.nm b.nm)
set_option maxRecDepth 100000 in
set_option maxHeartbeats 1000000 in
theorem l10Less_any (pa pb : Option Addr) (ca cb : Nat) (a b : ThingD) (w : World) :
    Calls Tryz.prog 90 #[thingV pa ca a, thingV pb cb b] w fun e w' => e = .returned (.bool (lessTB a b)) ∧ Below w.heap.size w w' := by
  obtain ⟨sp, nm, uid, rev, gone, marks, body⟩ := a
  obtain ⟨sp2, nm2, uid2, rev2, gone2, marks2, body2⟩ := b
  unfold thingV
  dsimp only
  have HB := Lib.hid (show lessTB ⟨sp, nm, uid, rev, gone, marks, body⟩ ⟨sp2, nm2, uid2, rev2, gone2, marks2, body2⟩ = (ltS sp sp2 || (decide (sp = sp2) && ltS nm nm2)) from rfl)
  cases h0 : ltS sp sp2 with
  | true =>
    have q0 : Op.bytesLess sp.toList sp2.toList = true := h0
    rw [h0] at HB
    clear h0
    go_enter Tryz.func90, Tryz.ntmps90
    go_wp2
    go_ret
    exact ⟨ret_bool (by rw [HB.out]; rfl), (by repeat (first | exact Below.refl _ _ | (refine Below.alloc ?_ (by first | (simp; done) | (simp; omega)) _) | (refine Below.setCell ?_ (by first | (simp; done) | (simp; omega)) _) | (refine Below.drew ?_)))⟩
  | false =>
    have q0 : Op.bytesLess sp.toList sp2.toList = false := h0
    rw [h0] at HB
    clear h0
    by_cases e : sp = sp2
    · cases h1 : ltS nm nm2 with
      | true =>
        have q1 : Op.bytesLess nm.toList nm2.toList = true := h1
        have HF := Lib.hid (HB.out.trans (show _ = true by rw [decide_eq_true e, h1]; rfl))
        have q2 : (sp.toList == sp2.toList) = true := by rw [e]; simp
        clear h1 e
        go_enter Tryz.func90, Tryz.ntmps90
        go_wp2
        go_ret
        exact ⟨ret_bool (by rw [HF.out]), (by repeat (first | exact Below.refl _ _ | (refine Below.alloc ?_ (by first | (simp; done) | (simp; omega)) _) | (refine Below.setCell ?_ (by first | (simp; done) | (simp; omega)) _) | (refine Below.drew ?_)))⟩
      | false =>
        have q1 : Op.bytesLess nm.toList nm2.toList = false := h1
        have HF := Lib.hid (HB.out.trans (show _ = false by rw [decide_eq_true e, h1]; rfl))
        have q2 : (sp.toList == sp2.toList) = true := by rw [e]; simp
        clear h1 e
        go_enter Tryz.func90, Tryz.ntmps90
        go_wp2
        go_ret
        exact ⟨ret_bool (by rw [HF.out]), (by repeat (first | exact Below.refl _ _ | (refine Below.alloc ?_ (by first | (simp; done) | (simp; omega)) _) | (refine Below.setCell ?_ (by first | (simp; done) | (simp; omega)) _) | (refine Below.drew ?_)))⟩
    · have HF := Lib.hid (HB.out.trans (show _ = false by rw [decide_eq_false e]; rfl))
      have q2 := eqP_no e
      clear e
      go_enter Tryz.func90, Tryz.ntmps90
      go_wp2
      go_ret
      exact ⟨ret_bool (by rw [HF.out]), (by repeat (first | exact Below.refl _ _ | (refine Below.alloc ?_ (by first | (simp; done) | (simp; omega)) _) | (refine Below.setCell ?_ (by first | (simp; done) | (simp; omega)) _) | (refine Below.drew ?_)))⟩
end Go.Proofs.YtbioljpjpflboaaGreatDoor
