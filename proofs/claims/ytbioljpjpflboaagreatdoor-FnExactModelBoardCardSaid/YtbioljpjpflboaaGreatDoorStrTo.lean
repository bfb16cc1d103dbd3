import Derived.Test.YtbioljpjpflboaaGreatDoorProg
import Derived.Test.YtbioljpjpflboaaGreatDoorBase
/- toStringS copies a list of strings into memory of its own. -/
namespace Go.Proofs.YtbioljpjpflboaaGreatDoor
open Go Go.RowKit

theorem infoStr : (Tryz.prog.info? 9).map (fun i => (i.zero, i.size, i.bytes)) = some (some (.string ⟨#[]⟩), 1, 16) := by kernel_rfl

set_option maxHeartbeats 400000 in
theorem toStr_any (a : Option Addr) (ca : Nat) (l : List ByteArray) (w : World) (hb : l.length ≤ 1048576) (hl : StrS w a l) :
    Calls Tryz.prog 96 #[.slice a l.length ca] w fun e w' => e = .returned (.slice (some ⟨w.heap.size, 0, none⟩) l.length l.length) ∧
      w'.ownsRow w.heap.size 9 1 (.slice (some ⟨w.heap.size, 0, none⟩) l.length l.length) l.length (l.map .string) ∧ Below w.heap.size w w' := by
  obtain ⟨i0, hi, hz0, hz1, hz2⟩ := info_parts infoStr
  obtain ⟨hl1, _, hl⟩ := hl
  unfold maxLen at hl1
  rcases hl with rfl | ⟨ba, oa, rfl, hca⟩
  · go_enter Tryz.func96, Tryz.ntmps96
    go_wp2_with (refine wpList_make_full _ rfl (.tmp 6) (.tmp 6) 55 rfl w.heap.size 9 i0 (.string ⟨#[]⟩) 1 Tryz.underlying55 hi hz0 hz1 .i64 .i64 0 0 0 rfl rfl rfl rfl (by omega) (by unfold maxLen; omega) (Nat.le_refl _) ?_; intro w1 hown hgrow)
    have hbel : Below w.heap.size w w1 := (Below.refl _ _).grown hgrow (Nat.le_refl _) (by simp)
    have HO := Lib.hid hown
    clear hown
    refine wp_loop_rounds 1 ?_
    rw [rounds_succ]
    go_wp2
    go_ret
    exact ⟨rfl, by have h := HO.out; rw [List.eq_nil_of_length_eq_zero h.1] at h; exact h, hbel⟩
  go_enter Tryz.func96, Tryz.ntmps96
  go_wp2_with (refine wpList_make_full _ rfl (.tmp 6) (.tmp 6) 55 rfl w.heap.size 9 i0 (.string ⟨#[]⟩) 1 Tryz.underlying55 hi hz0 hz1 .i64 .i64 l.length l.length l.length rfl rfl rfl rfl (by rw [hz2]; omega) (by unfold maxLen; omega) (Nat.le_refl _) ?_; intro w1 hown hgrow)
  have hbel : Below w.heap.size w w1 := (Below.refl _ _).grown hgrow (Nat.le_refl _) (by simp)
  have hlen : ((l.map Value.string).length) = l.length := by simp
  go_loopw [4] (fun i wr => ∃ k : Nat, k ≤ l.length ∧ i = .int .i64 k ∧ ∃ xs, wr.ownsRow w.heap.size 9 1 (.slice (some ⟨w.heap.size, 0, none⟩) l.length l.length) l.length xs ∧ xs.take k = (l.map Value.string).take k ∧ Below w.heap.size w wr) (fun i _ => l.length - (intOf i).toNat)
  case atStart => exact ⟨0, Nat.zero_le _, rfl, _, hown, rfl, hbel⟩
  case round =>
    clear hown hgrow hbel w1
    obtain ⟨k, hk, rfl, xs, hown, ht, hbel⟩ := hrel
    have HT := Lib.hid ht
    have HO := Lib.hid hown
    have HL := Lib.hid hlen
    clear ht hlen
    by_cases hlt : k < l.length
    · have c1 : wr.cell? ⟨ba, oa + k, none⟩ = some (.string l[k]) := by
        rw [hbel.cell (by have := World.block_lt_of_cell? w _ (hca k hlt); simpa using this)]; exact hca k hlt
      obtain ⟨v2, c2⟩ : ∃ v, wr.cell? ⟨w.heap.size, k, none⟩ = some v := ⟨_, (hown.cellAt k (by omega)).trans (List.getElem?_eq_getElem (by have := hown.1; omega))⟩
      have c3 := hown.frozenAt k
      clear hown
      go_wp2
      go_roundw
      case rel => exact ⟨k + 1, by omega, by go_num, xs.set k (.string l[k]), (HO.out.stored k _).1, set_take (l := l.map Value.string) (by simpa using hlt) (by have := HO.out.1; simp; omega) HT.out (by simp), hbel.setCell (Nat.le_refl _) _⟩
      case measure => simp [intOf]; omega
    · clear hown
      go_wp2
      go_ret
      have hx : xs = l.map Value.string := by
        have h1 := HO.out.1
        have h2 := HT.out
        rwa [List.take_of_length_le (by omega), List.take_of_length_le (by simp; omega)] at h2
      exact ⟨rfl, by rw [← hx]; exact HO.out, hbel⟩
end Go.Proofs.YtbioljpjpflboaaGreatDoor
