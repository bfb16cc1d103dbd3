import Derived.Test.YteejabpohnfoaaaDoorSearch
/- MemGet of the program and of the specification. -/
namespace Go.Proofs.YteejabpohnfoaaaDoor
open Go Go.RowKit

set_option maxRecDepth 100000 in
set_option maxHeartbeats 800000 in
theorem search_nil (a : Option Addr) (ca : Nat) (t0 : ByteArray) (t1 : Int) (t2 : Bool) (t3 : ByteArray) (w : World) :
    Calls Tryd.prog 68 #[.slice a 0 ca, .agg #[.string t0, .int .i64 t1, .bool t2, .string t3], .func (.func 41) #[] #[]] w fun e w' =>
      e = .returned (.tuple #[.int .i64 0, .bool false]) ∧ Below w.heap.size w w' := by
  go_enter Tryd.func68, Tryd.ntmps68
  go_wp2
  refine wp_loop_rounds 1 ?_
  rw [rounds_succ]
  go_wp2
  go_quiet (fail)
  go_wp2
  go_ret2
  exact ⟨rfl, Below.trans (b := w.alloc _) (by repeat (first | exact Below.refl _ _ | (refine Below.alloc ?_ (by first | (simp; done) | (simp; omega)) _) | (refine Below.setCell ?_ (by first | (simp; done) | (simp; omega)) _) | (refine Below.drew ?_))) ⟨rfl, rfl, rfl, Nat.le_refl _, fun _ _ => rfl⟩⟩

set_option maxRecDepth 100000 in
set_option maxHeartbeats 800000 in
theorem place_any (a : Option Addr) (ca : Nat) (l : List EntryD) (key : ByteArray) (seq : Int) (w : World) (hn : l.length ≤ 1048576) (hl : ElS 4 encEntry w a l)
    (hs : ∀ j (hj : j + 1 < l.length), lessB (l[j]'(by omega)) l[j+1] = true) :
    Calls Tryd.prog 61 #[.slice a l.length ca, .string key, .int .i64 seq] w fun e w' =>
      (∃ p : Nat, p ≤ l.length ∧ (∀ r (hr : r < l.length), r < p → lessB l[r] (tgt key seq) = true) ∧ (∀ r (hr : r < l.length), p ≤ r → lessB l[r] (tgt key seq) = false) ∧ e = .returned (.int .i64 p)) ∧ Below w.heap.size w w' := by
  obtain ⟨hl1, hl⟩ := hl
  rcases hl with rfl | ⟨ba, oa, rfl, hca⟩
  · clear hs
    go_enter Tryd.func61, Tryd.ntmps61
    go_wp2_with (go_at_call 68; refine (search_nil _ _ key seq false ⟨#[]⟩ _).mono ?_; rintro e w1 ⟨rfl, b1⟩)
    go_ret
    exact ⟨⟨0, Nat.le_refl _, fun r _ h => absurd h (Nat.not_lt_zero r), fun r hr _ => absurd hr (by simp), rfl⟩, b1⟩
  · have HC := Lib.hid hca
    have HS := Lib.hid hs
    clear hca hs
    go_enter Tryd.func61, Tryd.ntmps61
    go_wp2_with (go_at_call 68; refine (search_any ba oa _ l key seq false ⟨#[]⟩ _ hn HC.out HS.out).mono ?_; rintro e w1 ⟨⟨p, hp, h1, h2, f, rfl⟩, b1⟩; have H1 := Lib.hid h1; have H2 := Lib.hid h2; clear h1 h2)
    go_ret
    exact ⟨⟨p, hp, H1.out, H2.out, rfl⟩, b1⟩
end Go.Proofs.YteejabpohnfoaaaDoor
