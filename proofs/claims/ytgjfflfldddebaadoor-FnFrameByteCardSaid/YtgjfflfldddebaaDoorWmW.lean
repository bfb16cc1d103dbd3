import Derived.Test.YtgjfflfldddebaaDoorProg
import Derived.Test.YtgjfflfldddebaaDoorBase
import Derived.Deep.QuietTactic
import Derived.Handy
import Derived.BigQuiet
/- wmWords of the laws, at equal ones. -/
namespace Go.Proofs.YtgjfflfldddebaaDoor
open Go Go.RowKit

set_option maxRecDepth 100000 in
set_option maxHeartbeats 400000 in
theorem wmWords_w (a b : Option Addr) (ca cb : Nat) (l : List ByteArray) (w : World) (hl : StrS w a l) (hm : StrS w b l) :
    Calls Tryd.prog 9 #[.slice a l.length ca, .slice b l.length cb] w fun e w' => e = .returned (.bool true) ∧ Below w.heap.size w w' := by
  have h1 := hl.1
  unfold maxLen at h1
  go_enter Tryd.func9, Tryd.ntmps9
  go_wp2
  go_loopw [5] (fun i wr => ∃ k : Nat, k ≤ l.length ∧ i = .int .i64 k ∧ Below w.heap.size w wr) (fun i _ => l.length - (intOf i).toNat)
  case atStart => exact ⟨0, Nat.zero_le _, rfl, (by repeat (first | exact Below.refl _ _ | (refine Below.alloc ?_ (by first | (simp; done) | (simp; omega)) _) | (refine Below.setCell ?_ (by first | (simp; done) | (simp; omega)) _) | (refine Below.drew ?_)))⟩
  case round =>
    obtain ⟨k, hk, rfl, hbel⟩ := hrel
    by_cases hlt : k < l.length
    · obtain ⟨ba, oa, rfl, hca⟩ := hl.2.2.resolve_left (by intro e; subst e; simp at hlt)
      obtain ⟨bb, ob, rfl, hcb⟩ := hm.2.2.resolve_left (by intro e; subst e; simp at hlt)
      have c1 : wr.cell? ⟨ba, oa + k, none⟩ = some (.string l[k]) := by
        rw [hbel.cell (by have := World.block_lt_of_cell? w _ (hca k hlt); simpa using this)]; exact hca k hlt
      have c2 : wr.cell? ⟨bb, ob + k, none⟩ = some (.string l[k]) := by
        rw [hbel.cell (by have := World.block_lt_of_cell? w _ (hcb k hlt); simpa using this)]; exact hcb k hlt
      go_wp2
      go_quiet (fail)
      go_wp2
      go_roundw
      case rel => exact ⟨k + 1, by omega, by go_num, hbel.trans ⟨rfl, rfl, rfl, Nat.le_refl _, fun _ _ => rfl⟩⟩
      case measure => simp [intOf]; omega
    · go_wp2
      go_ret
      exact ⟨rfl, hbel⟩

end Go.Proofs.YtgjfflfldddebaaDoor
