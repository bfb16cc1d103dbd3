import Derived.Test.YtfekpbkcidhbfaaDoorEntsS
import Derived.WalkSmall
import Derived.Deep.RegionHeld3
/- EntriesOk of the program. -/
namespace Go.Proofs.YtfekpbkcidhbfaaDoor
open Go Go.RowKit

theorem isNaNS_any (x : ByteArray) (w : World) : Calls Tryd.prog 65 #[.string x] w fun e w' => e = .returned (.bool false) ∧ w = w' := by
  have q := eqL_yes x
  go_enter Tryd.func65, Tryd.ntmps65
  go_wp2
  go_ret
  exact ⟨rfl, rfl⟩
theorem isNaNI_any (x : Int) (w : World) : Calls Tryd.prog 66 #[.int .i64 x] w fun e w' => e = .returned (.bool false) ∧ w = w' := by
  go_enter Tryd.func66, Tryd.ntmps66
  go_wp2
  go_ret
  exact ⟨rfl, rfl⟩
theorem cmpS_any (x y : ByteArray) (w : World) : Calls Tryd.prog 47 #[.string x, .string y] w fun e w' => e = .returned (.int .i64 (cmpS x y)) ∧ w = w' := by
  cases h0 : ltS x y with
  | true =>
    have q0 : Op.bytesLess x.toList y.toList = true := h0
    have HR := Lib.hid (show cmpS x y = -1 by unfold cmpS; rw [h0]; rfl)
    clear h0
    go_enter Tryd.func47, Tryd.ntmps47
    go_wp2_with (go_at_call 65; refine (isNaNS_any _ _).mono ?_; rintro e w' ⟨rfl, rfl⟩)
    go_ret
    exact ⟨ret_int (by rw [HR.out]), rfl⟩
  | false =>
    have q0 : Op.bytesLess x.toList y.toList = false := h0
    by_cases e : x = y
    · subst e
      have q1 := eqL_yes x
      have HR := Lib.hid (show cmpS x x = 0 by unfold cmpS; rw [h0]; simp)
      clear h0
      go_enter Tryd.func47, Tryd.ntmps47
      go_wp2_with (go_at_call 65; refine (isNaNS_any _ _).mono ?_; rintro e w' ⟨rfl, rfl⟩)
      go_ret
      exact ⟨ret_int (by rw [HR.out]), rfl⟩
    · have q1 := eqL_no e
      have HR := Lib.hid (show cmpS x y = 1 by unfold cmpS; rw [h0, if_neg e]; simp)
      clear h0 e
      go_enter Tryd.func47, Tryd.ntmps47
      go_wp2_with (go_at_call 65; refine (isNaNS_any _ _).mono ?_; rintro e w' ⟨rfl, rfl⟩)
      go_ret
      exact ⟨ret_int (by rw [HR.out]), rfl⟩
theorem cmpI_any (x y : Int) (w : World) : Calls Tryd.prog 48 #[.int .i64 x, .int .i64 y] w fun e w' => e = .returned (.int .i64 (cmpI x y)) ∧ w = w' := by
  by_cases h : x < y
  · have HR := Lib.hid (show cmpI x y = -1 by unfold cmpI; rw [if_pos h])
    go_enter Tryd.func48, Tryd.ntmps48
    go_wp2_with (go_at_call 66; refine (isNaNI_any _ _).mono ?_; rintro e w' ⟨rfl, rfl⟩)
    go_ret
    exact ⟨ret_int (by rw [HR.out]), rfl⟩
  · by_cases h2 : y < x
    · have HR := Lib.hid (show cmpI x y = 1 by unfold cmpI; rw [if_neg h, if_pos h2])
      go_enter Tryd.func48, Tryd.ntmps48
      go_wp2_with (go_at_call 66; refine (isNaNI_any _ _).mono ?_; rintro e w' ⟨rfl, rfl⟩)
      go_ret
      exact ⟨ret_int (by rw [HR.out]), rfl⟩
    · have HR := Lib.hid (show cmpI x y = 0 by unfold cmpI; rw [if_neg h, if_neg h2])
      go_enter Tryd.func48, Tryd.ntmps48
      go_wp2_with (go_at_call 66; refine (isNaNI_any _ _).mono ?_; rintro e w' ⟨rfl, rfl⟩)
      go_ret
      exact ⟨ret_int (by rw [HR.out]), rfl⟩

/-- the first that is not 0 -/
def orI (x y : Int) : Int := if x ≠ 0 then x else y
theorem ordI_or (a b : EntryD) : ordI a b = orI (cmpS a.1 b.1) (cmpI b.2.1 a.2.1) := rfl
theorem or_any (b : Nat) (x y : Int) (w : World) (h0 : w.cell? ⟨b, 0, none⟩ = some (.int .i64 x)) (h1 : w.cell? ⟨b, 1, none⟩ = some (.int .i64 y)) :
    Calls Tryd.prog 46 #[.slice (some ⟨b, 0, none⟩) 2 2] w fun e w' => e = .returned (.int .i64 (orI x y)) ∧ w = w' := by
  by_cases hx : x = 0
  · have HR := Lib.hid (show orI x y = y by unfold orI; simp [hx])
    by_cases hy : y = 0
    · go_enter Tryd.func46, Tryd.ntmps46
      go_wp2
      refine wp_loop_rounds 3 ?_
      rw [rounds_succ]
      go_wp2
      rw [rounds_succ]
      go_wp2
      rw [rounds_succ]
      go_wp2
      go_ret
      exact ⟨ret_int (by rw [HR.out, hy]), rfl⟩
    · go_enter Tryd.func46, Tryd.ntmps46
      go_wp2
      refine wp_loop_rounds 3 ?_
      rw [rounds_succ]
      go_wp2
      rw [rounds_succ]
      go_wp2
      go_ret
      exact ⟨ret_int (by rw [HR.out]), rfl⟩
  · have HR := Lib.hid (show orI x y = x by unfold orI; simp [hx])
    go_enter Tryd.func46, Tryd.ntmps46
    go_wp2
    refine wp_loop_rounds 3 ?_
    rw [rounds_succ]
    go_wp2
    go_ret
    exact ⟨ret_int (by rw [HR.out]), rfl⟩

set_option maxRecDepth 100000 in
set_option maxHeartbeats 800000 in
theorem order_any (x0 : ByteArray) (x1 : Int) (x2 : Bool) (x3 : ByteArray) (y0 : ByteArray) (y1 : Int) (y2 : Bool) (y3 : ByteArray) (w : World) :
    Calls Tryd.prog 31 #[.agg #[.string x0, .int .i64 x1, .bool x2, .string x3], .agg #[.string y0, .int .i64 y1, .bool y2, .string y3]] w fun e w' => e = .returned (.int .i64 (ordI (x0, x1, x2, x3) (y0, y1, y2, y3))) ∧ Below w.heap.size w w' := by
  have HO := Lib.hid (ordI_or (x0, x1, x2, x3) (y0, y1, y2, y3))
  have BA := Box.alloc w #[.string x0, .int .i64 x1, .bool x2, .string x3] 32
  have BB := Box.alloc (w.alloc (.cells #[.string x0, .int .i64 x1, .bool x2, .string x3] 32)) #[.string y0, .int .i64 y1, .bool y2, .string y3] 32
  have PA := BA.below (below_alloc _ (.cells #[.string y0, .int .i64 y1, .bool y2, .string y3] 32))
  have KS : ∀ w' : World, Below w.heap.size ((w.alloc (.cells #[.string x0, .int .i64 x1, .bool x2, .string x3] 32)).alloc (.cells #[.string y0, .int .i64 y1, .bool y2, .string y3] 32)) w' ∧ Below (w.heap.size + 1 + 1) ((w.alloc (.cells #[.string x0, .int .i64 x1, .bool x2, .string x3] 32)).alloc (.cells #[.string y0, .int .i64 y1, .bool y2, .string y3] 32)) w' →
      w'.cell? ⟨w.heap.size, 0, none⟩ = some (.string x0) ∧ w'.cell? ⟨w.heap.size, 1, none⟩ = some (.int .i64 x1) ∧ w'.cell? ⟨w.heap.size + 1, 0, none⟩ = some (.string y0) ∧ w'.cell? ⟨w.heap.size + 1, 1, none⟩ = some (.int .i64 y1) ∧ Below w.heap.size w w' := by
    intro w' hb
    have hb2 : Below ((w.alloc (.cells #[.string x0, .int .i64 x1, .bool x2, .string x3] 32)).alloc (.cells #[.string y0, .int .i64 y1, .bool y2, .string y3] 32)).heap.size ((w.alloc (.cells #[.string x0, .int .i64 x1, .bool x2, .string x3] 32)).alloc (.cells #[.string y0, .int .i64 y1, .bool y2, .string y3] 32)) w' := by simpa using hb.2
    have e : (w.alloc (.cells #[.string x0, .int .i64 x1, .bool x2, .string x3] 32)).heap.size = w.heap.size + 1 := by simp
    have QA := PA.below hb2
    have QB := BB.below hb2
    rw [e] at QB
    exact ⟨(QA 0 _ rfl).1, (QA 1 _ rfl).1, (QB 0 _ rfl).1, (QB 1 _ rfl).1, Below.trans (by repeat (first | exact Below.refl _ _ | (refine Below.alloc ?_ (by first | (simp; done) | (simp; omega)) _) | (refine Below.setCell ?_ (by first | (simp; done) | (simp; omega)) _) | (refine Below.drew ?_))) hb.1⟩
  have KS' := Lib.hid KS
  clear BA BB PA KS
  go_enter Tryd.func31, Tryd.ntmps31
  go_wp2_with fail
  go_region_held3 (fun w' => w'.cell? ⟨w.heap.size, 0, none⟩ = some (.string x0) ∧ w'.cell? ⟨w.heap.size, 1, none⟩ = some (.int .i64 x1) ∧ w'.cell? ⟨w.heap.size + 1, 0, none⟩ = some (.string y0) ∧ w'.cell? ⟨w.heap.size + 1, 1, none⟩ = some (.int .i64 y1) ∧ Below w.heap.size w w')
    (exact KS'.out _ ⟨(by repeat (first | exact Below.refl _ _ | (refine Below.alloc ?_ (by first | (simp; done) | (simp; omega)) _) | (refine Below.setCell ?_ (by first | (simp; done) | (simp; omega)) _) | (refine Below.drew ?_))), (by repeat (first | exact Below.refl _ _ | (refine Below.alloc ?_ (by first | (simp; done) | (simp; omega)) _) | (refine Below.setCell ?_ (by first | (simp; done) | (simp; omega)) _) | (refine Below.drew ?_)))⟩)
    (first
      | (go_at_call 47; refine (cmpS_any _ _ _).mono ?_; rintro e w1 ⟨rfl, rfl⟩)
      | (go_at_call 48; refine (cmpI_any _ _ _).mono ?_; rintro e w1 ⟨rfl, rfl⟩)
      | (go_at_call 46; refine (or_any (w.heap.size + 1 + 1) (cmpS x0 y0) (cmpI y1 x1) _ (by simp [go_sem]) (by simp [go_sem])).mono ?_; rintro e w1 ⟨rfl, rfl⟩))
  go_wp2
  go_ret
  exact ⟨ret_int (by rw [HO.out]), (by repeat (first | exact Below.refl _ _ | (refine Below.alloc ?_ (by first | (simp; done) | (simp; omega)) _) | (refine Below.setCell ?_ (by first | (simp; done) | (simp; omega)) _) | (refine Below.drew ?_)))⟩
end Go.Proofs.YtfekpbkcidhbfaaDoor
