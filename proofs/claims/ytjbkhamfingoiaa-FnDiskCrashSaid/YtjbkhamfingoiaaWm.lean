import Derived.Test.YtjbkhamfingoiaaDiskD
import Derived.Handy
import Derived.BigQuiet
/- wmWords, wmDisk of the laws, at equal ones. -/
namespace Go.Proofs.Ytjbkhamfingoiaa
open Go Go.RowKit

set_option maxRecDepth 100000 in
set_option maxHeartbeats 400000 in
theorem wmWords_any (a b : Option Addr) (ca cb : Nat) (l : List ByteArray) (w : World) (hl : StrS w a l) (hm : StrS w b l) :
    Calls Try.prog 28 #[.slice a l.length ca, .slice b l.length cb] w fun e w' => e = .returned (.bool true) ∧ Below w.heap.size w w' := by
  have h1 := hl.1
  unfold maxLen at h1
  go_enter Try.func28, Try.ntmps28
  go_wp2
  go_loopw [5] (fun i wr => ∃ k : Nat, k ≤ l.length ∧ i = .int .i64 k ∧ Below w.heap.size w wr) (fun i _ => l.length - (intOf i).toNat)
  case atStart => exact ⟨0, Nat.zero_le _, rfl, (by repeat (first | exact Below.refl _ _ | (refine Below.alloc ?_ (by first | (simp; done) | (simp; omega)) _) | (refine Below.setCell ?_ (by first | (simp; done) | (simp; omega)) _) | (refine Below.drew ?_)))⟩
  case round =>
    obtain ⟨k, hk, rfl, hbel⟩ := hrel
    by_cases hlt : k < l.length
    · obtain ⟨ba, oa, rfl, hca⟩ := hl.2.2.resolve_left (by intro e; subst e; simp at hlt)
      obtain ⟨bb, ob, rfl, hcb⟩ := hm.2.2.resolve_left (by intro e; subst e; simp at hlt)
      have c1 : wr.cell? ⟨ba, oa + k, none⟩ = some (.string l[k]) := by
        rw [hbel.cell (by have := World.block_lt_of_cell? w _ (hca k hlt); simpa using this)]; exact hca k hlt
      have c2 : wr.cell? ⟨bb, ob + k, none⟩ = some (.string l[k]) := by
        rw [hbel.cell (by have := World.block_lt_of_cell? w _ (hcb k hlt); simpa using this)]; exact hcb k hlt
      go_wp2
      go_quiet (fail)
      go_wp2
      go_roundw
      case rel => exact ⟨k + 1, by omega, by go_num, below_drewN hbel nq⟩
      case measure => simp [intOf]; omega
    · go_wp2
      go_ret
      exact ⟨rfl, hbel⟩

set_option maxRecDepth 100000 in
set_option maxHeartbeats 800000 in
theorem wmDisk_any (v u : Value) (d : DiskD) (w : World) (hv : DiskR w v d) (hu : DiskR w u d) :
    Calls Try.prog 18 #[v, u] w fun e w' => e = .returned (.bool true) ∧ Below w.heap.size w w' := by
  obtain ⟨a, ca, b, cb, rfl, hs, hw, _⟩ := hv
  obtain ⟨a', ca', b', cb', rfl, hs', hw', _⟩ := hu
  obtain ⟨ds, dw, dl⟩ := d
  simp only at hs hw hs' hw'
  dsimp only
  have h1 := hw.1
  unfold maxLen at h1
  go_enter Try.func18, Try.ntmps18
  go_wp2_with fail
  refine (wmWords_any _ _ _ _ _ _ (hs.below (by repeat (first | exact Below.refl _ _ | (refine Below.alloc ?_ (by first | (simp; done) | (simp; omega)) _) | (refine Below.setCell ?_ (by first | (simp; done) | (simp; omega)) _) | (refine Below.drew ?_)))) (hs'.below (by repeat (first | exact Below.refl _ _ | (refine Below.alloc ?_ (by first | (simp; done) | (simp; omega)) _) | (refine Below.setCell ?_ (by first | (simp; done) | (simp; omega)) _) | (refine Below.drew ?_))))).mono ?_
  rintro e w1 ⟨rfl, b1⟩
  have B1 : Below w.heap.size w w1 := Below.trans (by repeat (first | exact Below.refl _ _ | (refine Below.alloc ?_ (by first | (simp; done) | (simp; omega)) _) | (refine Below.setCell ?_ (by first | (simp; done) | (simp; omega)) _) | (refine Below.drew ?_))) (b1.mono (by simp; omega))
  have PA := ((Box.alloc w #[.slice a ds.length ca, .slice b dw.length cb, .int .i64 dl] 26).below (below_alloc _ (.cells #[.slice a' ds.length ca', .slice b' dw.length cb', .int .i64 dl] 26))).below b1
  have PB := (Box.alloc (w.alloc (.cells #[.slice a ds.length ca, .slice b dw.length cb, .int .i64 dl] 26)) #[.slice a' ds.length ca', .slice b' dw.length cb', .int .i64 dl] 26).below b1
  rw [World.size_alloc] at PB
  have x1 := (PA 1 _ rfl).1
  have y1 := (PB 1 _ rfl).1
  have wA : w.heap.size < w1.heap.size := PA.lt
  have wB : w.heap.size + 1 < w1.heap.size := PB.lt
  go_wp2_with fail
  go_loopw [5] (fun i wr => ∃ k : Nat, k ≤ dw.length ∧ i = .int .i64 k ∧ Below w1.heap.size w1 wr) (fun i _ => dw.length - (intOf i).toNat)
  case atStart => exact ⟨0, Nat.zero_le _, rfl, Below.refl _ _⟩
  case round =>
    clear x1 y1
    obtain ⟨k, hk, rfl, hbel⟩ := hrel
    have x1 := (hbel.cell (p := ⟨w.heap.size, 1, none⟩) wA).trans (PA 1 _ rfl).1
    have y1 := (hbel.cell (p := ⟨w.heap.size + 1, 1, none⟩) wB).trans (PB 1 _ rfl).1
    by_cases hlt : k < dw.length
    · obtain ⟨ba, oa, rfl, hca⟩ := hw.2.resolve_left (by intro e; subst e; simp at hlt)
      obtain ⟨bb, ob, rfl, hcb⟩ := hw'.2.resolve_left (by intro e; subst e; simp at hlt)
      have hB := B1.trans (hbel.mono B1.size)
      obtain ⟨c0, c1⟩ := cellsWait hB hca k hlt
      obtain ⟨e0, e1⟩ := cellsWait hB hcb k hlt
      have hk2 : (k : Int) < (dw.length : Int) := by omega
      go_wp2
      go_quiet (fail)
      go_wp2
      go_roundw
      case rel => exact ⟨k + 1, by omega, by go_num, below_drewN hbel nq⟩
      case measure => simp [intOf]; omega
    · go_wp2
      go_ret
      exact ⟨rfl, B1.trans (hbel.mono B1.size)⟩
end Go.Proofs.Ytjbkhamfingoiaa
