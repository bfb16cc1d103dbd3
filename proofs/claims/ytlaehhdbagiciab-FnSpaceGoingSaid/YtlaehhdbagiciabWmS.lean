import Derived.Test.YtlaehhdbagiciabProg
import Derived.Test.YtlaehhdbagiciabBase
import Derived.Test.YtlaehhdbagiciabStrOrd
import Derived.Deep.QuietTactic
import Derived.BigQuiet
import Derived.WalkLawsBesides
/- wmWords at equal lists, wmHas. -/
namespace Go.Proofs.Ytlaehhdbagiciab
open Go Go.RowKit

set_option maxRecDepth 100000 in
set_option maxHeartbeats 400000 in
theorem wmWords_eq (a b : Option Addr) (ca cb : Nat) (l : List ByteArray) (w : World) (hl : StrS w a l) (hm : StrS w b l) :
    Calls Try.prog 32 #[.slice a l.length ca, .slice b l.length cb] w fun e w' => e = .returned (.bool true) ∧ Below w.heap.size w w' := by
  have h1 := hl.1
  unfold maxLen at h1
  go_enter Try.func32, Try.ntmps32
  go_wp2
  go_loopw [5] (fun i wr => ∃ k : Nat, k ≤ l.length ∧ i = .int .i64 k ∧ Below w.heap.size w wr) (fun i _ => l.length - (intOf i).toNat)
  case atStart => exact ⟨0, Nat.zero_le _, rfl, (by repeat (first | exact Below.refl _ _ | (refine Below.alloc ?_ (by first | (simp; done) | (simp; omega)) _) | (refine Below.setCell ?_ (by first | (simp; done) | (simp; omega)) _) | (refine Below.drew ?_)))⟩
  case round =>
    obtain ⟨k, hk, rfl, hbel⟩ := hrel
    by_cases hlt : k < l.length
    · obtain ⟨ba, oa, rfl, hca⟩ := hl.2.2.resolve_left (by intro e; subst e; simp at hlt)
      obtain ⟨bb, ob, rfl, hcb⟩ := hm.2.2.resolve_left (by intro e; subst e; simp at hlt)
      have c1 : wr.cell? ⟨ba, oa + k, none⟩ = some (.string l[k]) := by
        rw [hbel.cell (by have := World.block_lt_of_cell? w _ (hca k hlt); simpa using this)]; exact hca k hlt
      have c2 : wr.cell? ⟨bb, ob + k, none⟩ = some (.string l[k]) := by
        rw [hbel.cell (by have := World.block_lt_of_cell? w _ (hcb k hlt); simpa using this)]; exact hcb k hlt
      go_wp2
      go_quiet (fail)
      go_wp2
      go_roundw
      case rel => exact ⟨k + 1, by omega, by go_num, hbel.trans (below_drewN (Below.refl _ _) nq |>.mono hbel.size)⟩
      case measure => simp [intOf]; omega
    · go_wp2
      go_ret
      exact ⟨rfl, hbel⟩
def hasB (l : List ByteArray) (s : ByteArray) : Bool := l.any fun x => decide (x = s)
set_option maxRecDepth 100000 in
set_option maxHeartbeats 400000 in
theorem wmHas_any (a : Option Addr) (ca : Nat) (l : List ByteArray) (s : ByteArray) (w : World) (hl : StrS w a l) :
    Calls Try.prog 36 #[.slice a l.length ca, .string s] w fun e w' => e = .returned (.bool (hasB l s)) ∧ Below w.heap.size w w' := by
  have h1 := hl.1
  unfold maxLen at h1
  go_enter Try.func36, Try.ntmps36
  go_wp2
  go_loopw [5] (fun i wr => ∃ k : Nat, k ≤ l.length ∧ i = .int .i64 k ∧ (∀ j (hj : j < l.length), j < k → l[j] ≠ s) ∧ Below w.heap.size w wr) (fun i _ => l.length - (intOf i).toNat)
  case atStart => exact ⟨0, Nat.zero_le _, rfl, fun j hj h => absurd h (Nat.not_lt_zero _), (by repeat (first | exact Below.refl _ _ | (refine Below.alloc ?_ (by first | (simp; done) | (simp; omega)) _) | (refine Below.setCell ?_ (by first | (simp; done) | (simp; omega)) _) | (refine Below.drew ?_)))⟩
  case round =>
    obtain ⟨k, hk, rfl, hto, hbel⟩ := hrel
    have HT := Lib.hid hto
    clear hto
    by_cases hlt : k < l.length
    · obtain ⟨ba, oa, rfl, hca⟩ := hl.2.2.resolve_left (by intro e; subst e; simp at hlt)
      have c1 : wr.cell? ⟨ba, oa + k, none⟩ = some (.string l[k]) := by
        rw [hbel.cell (by have := World.block_lt_of_cell? w _ (hca k hlt); simpa using this)]; exact hca k hlt
      by_cases e : l[k] = s
      · have q1 : (l[k].toList == s.toList) = true := by rw [e]; simp
        have HN := Lib.hid (show hasB l s = true from List.any_eq_true.2 ⟨_, List.getElem_mem hlt, by simp [e]⟩)
        clear e hca
        go_wp2
        go_ret
        exact ⟨ret_bool HN.out.symm, hbel⟩
      · have q1 : (l[k].toList == s.toList) = false := by
          rw [beq_eq_false_iff_ne]
          exact fun e2 => e (toList_inj e2)
        have HN := Lib.hid (show ∀ j (hj : j < l.length), j < k + 1 → l[j] ≠ s from fun j hj hjk => by
          by_cases e2 : j < k
          · exact HT.out j hj e2
          · obtain rfl : j = k := by omega
            exact e)
        clear e hca
        go_wp2
        go_roundw
        case rel => exact ⟨k + 1, by omega, by go_num, HN.out, hbel⟩
        case measure => simp [intOf]; omega
    · have HN := Lib.hid (show hasB l s = false from List.any_eq_false.2 fun x hx => by
        obtain ⟨j, hj, rfl⟩ := List.mem_iff_getElem.1 hx
        simpa using HT.out j hj (by omega))
      go_wp2
      go_ret
      exact ⟨ret_bool HN.out.symm, hbel⟩
end Go.Proofs.Ytlaehhdbagiciab
