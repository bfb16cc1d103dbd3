import Derived.Test.YtlaehhdbagiciabUse
/- wmUses of a list with itself. -/
namespace Go.Proofs.Ytlaehhdbagiciab
open Go Go.RowKit

set_option maxRecDepth 100000 in
set_option maxHeartbeats 400000 in
theorem wmUses_eq (a b : Option Addr) (ca cb : Nat) (l : List UseD) (w : World) (hl : ElS 2 encUse w a l) (hm : ElS 2 encUse w b l) :
    Calls Try.prog 48 #[.slice a l.length ca, .slice b l.length cb] w fun e w' => e = .returned (.bool true) ∧ Below w.heap.size w w' := by
  obtain ⟨hl1, hl⟩ := hl
  obtain ⟨_, hm⟩ := hm
  unfold maxLen at hl1
  have hne : (((l.length : Nat) : Int) != ((l.length : Nat) : Int)) = false := by simp
  have hnil : l = [] → Calls Try.prog 48 #[.slice a l.length ca, .slice b l.length cb] w fun e w' => e = .returned (.bool true) ∧ Below w.heap.size w w' := by
    rintro rfl
    clear hl hm hl1
    go_enter Try.func48, Try.ntmps48
    go_wp2
    refine wp_loop_rounds 1 ?_
    rw [rounds_succ]
    go_wp2
    go_ret
    exact ⟨rfl, Below.refl _ _⟩
  rcases hl with rfl | ⟨ba, oa, rfl, hca⟩
  · exact hnil rfl
  rcases hm with rfl | ⟨bb, ob, rfl, hcb⟩
  · exact hnil rfl
  clear hnil
  have HC := Lib.hid hca
  have HD := Lib.hid hcb
  clear hca hcb
  go_enter Try.func48, Try.ntmps48
  go_wp2
  go_loopw [5] (fun i wr => ∃ k : Nat, k ≤ l.length ∧ i = .int .i64 k ∧ Below w.heap.size w wr) (fun i _ => l.length - (intOf i).toNat)
  case atStart => exact ⟨0, Nat.zero_le _, rfl, Below.refl _ _⟩
  case round =>
    obtain ⟨k, hk, rfl, hbel⟩ := hrel
    by_cases hlt : k < l.length
    · obtain ⟨c0, c1⟩ := cellsUse hbel HC.out k hlt
      obtain ⟨e0, e1⟩ := cellsUse hbel HD.out k hlt
      go_wp2
      go_quiet (fail)
      go_wp2
      go_roundw
      case rel => exact ⟨k + 1, by omega, by go_num, hbel.trans (below_drewN (Below.refl _ _) _)⟩
      case measure => simp [intOf]; omega
    · go_wp2
      go_ret
      exact ⟨rfl, hbel⟩
end Go.Proofs.Ytlaehhdbagiciab
