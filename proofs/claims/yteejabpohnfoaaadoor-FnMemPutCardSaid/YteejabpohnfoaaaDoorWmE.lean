import Derived.Test.YteejabpohnfoaaaDoorScanS
import Derived.Handy
/- wmEntries of the laws, at equal lists. -/
namespace Go.Proofs.YteejabpohnfoaaaDoor
open Go Go.RowKit

set_option maxRecDepth 100000 in
set_option maxHeartbeats 800000 in
theorem wmEnts_any (a b : Option Addr) (ca cb : Nat) (l : List EntryD) (w : World) (hn : l.length ≤ 1048576) (hl : ElS 4 encEntry w a l) (hm : ElS 4 encEntry w b l) :
    Calls Tryd.prog 20 #[.slice a l.length ca, .slice b l.length cb] w fun e w' => e = .returned (.bool true) ∧ Below w.heap.size w w' := by
  have HL := Lib.hid hl
  have HM := Lib.hid hm
  clear hl hm
  go_enter Tryd.func20, Tryd.ntmps20
  go_wp2
  go_loopw [5] (fun i wr => ∃ k : Nat, k ≤ l.length ∧ i = .int .i64 k ∧ Below w.heap.size w wr) (fun i _ => l.length - (intOf i).toNat)
  case atStart => exact ⟨0, Nat.zero_le _, rfl, (by repeat (first | exact Below.refl _ _ | (refine Below.alloc ?_ (by first | (simp; done) | (simp; omega)) _) | (refine Below.setCell ?_ (by first | (simp; done) | (simp; omega)) _) | (refine Below.drew ?_)))⟩
  case round =>
    obtain ⟨k, hk, rfl, hbel⟩ := hrel
    by_cases hlt : k < l.length
    · obtain ⟨ba, oa, rfl, hca⟩ := HL.out.2.resolve_left (by intro e; subst e; simp at hlt)
      obtain ⟨bb, ob, rfl, hcb⟩ := HM.out.2.resolve_left (by intro e; subst e; simp at hlt)
      have HC := Lib.hid hca
      have HD := Lib.hid hcb
      clear hca hcb
      obtain ⟨c0, c1, c2, c3⟩ := cellsEntry hbel HC.out k hlt
      obtain ⟨d0, d1, d2, d3⟩ := cellsEntry hbel HD.out k hlt
      have hk0 : (0 : Int) ≤ (k : Int) := by omega
      have hkn : (k : Int) < (l.length : Int) := by omega
      go_wp2
      go_quiet (fail)
      go_wp2
      go_roundw
      case rel => exact ⟨k + 1, by omega, by go_num, below_drewN hbel nq⟩
      case measure => simp [intOf]; omega
    · go_wp2
      go_ret
      exact ⟨rfl, hbel⟩
end Go.Proofs.YteejabpohnfoaaaDoor
