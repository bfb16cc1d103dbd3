import Derived.Test.YtbioljpjpflboaaGreatDoorProg
import Derived.Test.YtbioljpjpflboaaGreatDoorBase
import Derived.Deep.QuietTactic
import Derived.BigQuiet
/- eqStringS answers whether two lists of strings are one. -/
namespace Go.Proofs.YtbioljpjpflboaaGreatDoor
open Go Go.RowKit

def eqStr (l m : List ByteArray) : Bool := decide (l = m)

set_option maxHeartbeats 400000 in
theorem eqStr_any (a b : Option Addr) (ca cb : Nat) (l m : List ByteArray) (w : World) (hl : StrS w a l) (hm : StrS w b m) :
    Calls Tryz.prog 109 #[.slice a l.length ca, .slice b m.length cb] w fun e w' => e = .returned (.bool (eqStr l m)) ∧ ∃ n, w' = w.drewN n := by
  obtain ⟨hl1, _, hl⟩ := hl
  obtain ⟨hm1, _, hm⟩ := hm
  unfold maxLen at hl1 hm1
  by_cases hlen : l.length = m.length
  · have hne : (((l.length : Nat) : Int) != ((m.length : Nat) : Int)) = false := by simp; omega
    rcases hl with rfl | ⟨ba, oa, rfl, hca⟩
    · obtain rfl : m = [] := List.eq_nil_of_length_eq_zero (by simpa using hlen.symm)
      clear hm hlen hl1 hm1
      go_enter Tryz.func109, Tryz.ntmps109
      go_wp2
      refine wp_loop_rounds 1 ?_
      rw [rounds_succ]
      go_wp2
      go_ret
      exact ⟨rfl, 0, rfl⟩
    rcases hm with rfl | ⟨bb, ob, rfl, hcb⟩
    · obtain rfl : l = [] := List.eq_nil_of_length_eq_zero (by simpa using hlen)
      clear hca hlen hl1 hm1
      go_enter Tryz.func109, Tryz.ntmps109
      go_wp2
      refine wp_loop_rounds 1 ?_
      rw [rounds_succ]
      go_wp2
      go_ret
      exact ⟨rfl, 0, rfl⟩
    have HL := Lib.hid hlen
    have hle : l.length ≤ m.length := by omega
    have hge : m.length ≤ l.length := by omega
    clear hlen
    go_enter Tryz.func109, Tryz.ntmps109
    go_wp2
    go_loopw [5] (fun i wr => ∃ k : Nat, k ≤ l.length ∧ i = .int .i64 k ∧ l.take k = m.take k ∧ ∃ n, wr = w.drewN n) (fun i _ => l.length - (intOf i).toNat)
    case atStart => exact ⟨0, Nat.zero_le _, rfl, rfl, 0, rfl⟩
    case round =>
      obtain ⟨k, hk, rfl, ht, n, rfl⟩ := hrel
      have HT := Lib.hid ht
      clear ht
      by_cases hlt : k < l.length
      · have hlt2 : k < m.length := by omega
        have c1 := hca k hlt
        have c2 := hcb k hlt2
        go_wp2
        go_quiet (fail)
        go_wp2
        · have h := str_ne_of (by assumption : (!l[k].toList == m[k].toList) = true)
          go_ret
          exact ⟨ret_bool (by simp [eqStr, ne_of_getElem hlt hlt2 h]), n + nq, by simp⟩
        · have h := str_eq_of (by assumption : (!l[k].toList == m[k].toList) = false)
          go_roundw
          case rel => exact ⟨k + 1, by omega, by go_num, take_step hlt hlt2 HT.out h, _, rfl⟩
          case measure => simp [intOf]; omega
      · go_wp2
        go_ret
        exact ⟨ret_bool (by simp [eqStr, take_full (by omega) (by omega) HT.out]), _, rfl⟩
  · have hne : (((l.length : Nat) : Int) != ((m.length : Nat) : Int)) = true := by simp; omega
    have HN := Lib.hid (show eqStr l m = false by simp [eqStr]; intro h; subst h; exact hlen rfl)
    clear hlen hl hm
    go_enter Tryz.func109, Tryz.ntmps109
    go_wp2
    go_ret
    exact ⟨ret_bool (by rw [HN.out]), 0, rfl⟩
end Go.Proofs.YtbioljpjpflboaaGreatDoor
