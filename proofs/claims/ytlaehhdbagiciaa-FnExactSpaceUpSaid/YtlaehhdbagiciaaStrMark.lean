import Derived.Test.YtlaehhdbagiciaaProg
import Derived.Test.YtlaehhdbagiciaaBase
import Derived.Test.YtlaehhdbagiciaaMark
import Derived.Deep.RegionHeld3
/- markStringS writes marks into a list of strings; heldStringS finds them there. -/
namespace Go.Proofs.Ytlaehhdbagiciaa
open Go Go.RowKit

def marksS (k : Int) (n : Nat) : List ByteArray := marks markB k n
theorem marksS_len (k : Int) (n : Nat) : (marksS k n).length = n := by simp [marksS, marks]
theorem marksS_get (k : Int) (n j : Nat) (h : j < (marksS k n).length) : (marksS k n)[j] = markB (k + (j : Int)) := by simp [marksS, marks]

set_option maxRecDepth 100000 in
set_option maxHeartbeats 400000 in
theorem markStr_any (base : Nat) (v : Value) (n : Nat) (xs : List Value) (k : Int) (w : World) (hn : n ≤ 1099511627776) (hk0 : 0 ≤ k) (hk : k ≤ 1099511627776) (hown : w.ownsRow base 9 1 v n xs) :
    Calls Try.prog 34 #[v, .int .i64 k] w fun e w' => e = .returned (.int .i64 (k + n)) ∧
      w'.ownsRow base 9 1 v n ((marksS k n).map .string) ∧ KeptOut (fun b => v.ownBlock = some b) w w' := by
  rcases hown.2 with ⟨rfl, rfl⟩ | ⟨g, cap, cur, rfl, hrest⟩
  · go_enter Try.func34, Try.ntmps34
    go_wp2
    refine wp_loop_rounds 1 ?_
    rw [rounds_succ]
    go_wp2
    go_ret
    obtain rfl : xs = [] := List.eq_nil_of_length_eq_zero hown.1
    exact ⟨ret_int (by omega), hown, KeptOut.refl _ _⟩
  · clear hrest
    have hlen := marksS_len k n
    go_enter Try.func34, Try.ntmps34
    go_wp2
    go_loopw [1, 5] (fun kk i wr => ∃ j : Nat, j ≤ n ∧ i = .int .i64 j ∧ kk = .int .i64 (k + j) ∧ ∃ ys, wr.ownsRow base 9 1 (.slice (some ⟨g, 0, none⟩) n cap) n ys ∧ ys.take j = ((marksS k n).map Value.string).take j ∧ KeptOut (fun b => b = g) w wr) (fun _ i _ => n - (intOf i).toNat)
    case atStart => exact ⟨0, Nat.zero_le _, rfl, by simp, xs, hown, rfl, KeptOut.refl _ _⟩
    case round =>
      clear hown
      obtain ⟨j, hj, rfl, rfl, ys, hown, ht, hkept⟩ := hrel
      have HT := Lib.hid ht
      have HL := Lib.hid hlen
      clear ht hlen
      by_cases hlt : j < n
      · obtain ⟨v2, c2⟩ : ∃ v, wr.cell? ⟨g, j, none⟩ = some v := ⟨_, (hown.cellAt j (by omega)).trans (List.getElem?_eq_getElem (by have := hown.1; omega))⟩
        have c3 := hown.frozenAt j
        have HO := Lib.hid hown
        have hlt' := (hown.lt g rfl).2
        clear hown
        go_wp2_with (go_at_call 61; refine (mark_any _ _ (by omega)).mono ?_; rintro e w1 ⟨rfl, hb⟩; have d2 := (hb.cell (p := ⟨g, j, none⟩) hlt').trans c2; have d3 := (hb.frozen (p := ⟨g, j, none⟩) hlt').trans c3)
        have hb1 : Below wr.heap.size wr w1 := by assumption
        have h1 := own_below HO.out hb1
        go_roundw
        case rel => exact ⟨j + 1, by omega, by go_num, by go_num, ys.set j (.string (markB (k + (j : Int)))), (h1.stored j _).1, set_take (l := (marksS k n).map Value.string) (by simp [HL.out]; omega) (by have := HO.out.1; simp [HL.out]; omega) HT.out (by simp [marksS_get]), (hkept.trans (.of_below hb1)).setCell rfl _⟩
        case measure => simp [intOf]; omega
      · have HO := Lib.hid hown
        clear hown
        go_wp2
        go_ret
        have hx : ys = (marksS k n).map Value.string := by
          have h1 := HO.out.1
          have h2 := HT.out
          rwa [List.take_of_length_le (by omega), List.take_of_length_le (by simp [HL.out]; omega)] at h2
        exact ⟨ret_int (by omega), by rw [← hx]; exact HO.out, hkept.mono (fun b _ hb => by subst hb; rfl)⟩

set_option maxRecDepth 100000 in
set_option maxHeartbeats 400000 in
theorem heldStr_any (a : Option Addr) (ca : Nat) (n : Nat) (k : Int) (w : World) (hn : n ≤ 1099511627776) (hk0 : 0 ≤ k) (hk : k ≤ 1099511627776) (hl : StrS w a (marksS k n)) :
    Calls Try.prog 35 #[.slice a n ca, .int .i64 k] w fun e w' => e = .returned (.int .i64 (k + n)) ∧ Below w.heap.size w w' := by
  obtain ⟨_, _, hl⟩ := hl
  have hlen := marksS_len k n
  rcases hl with hl | ⟨ba, oa, rfl, hca⟩
  · obtain rfl : n = 0 := by rw [← hlen, hl]; rfl
    clear hl hlen
    go_enter Try.func35, Try.ntmps35
    go_wp2
    refine wp_loop_rounds 1 ?_
    rw [rounds_succ]
    go_wp2
    go_ret
    exact ⟨ret_int (by omega), Below.refl _ _⟩
  · have HL := Lib.hid hlen
    clear hlen
    go_enter Try.func35, Try.ntmps35
    go_wp2
    go_loopw [1, 5] (fun kk i wr => ∃ j : Nat, j ≤ n ∧ i = .int .i64 j ∧ kk = .int .i64 (k + j) ∧ Below w.heap.size w wr) (fun _ i _ => n - (intOf i).toNat)
    case atStart => exact ⟨0, Nat.zero_le _, rfl, by simp, Below.refl _ _⟩
    case round =>
      obtain ⟨j, hj, rfl, rfl, hbel⟩ := hrel
      by_cases hlt : j < n
      · have c0 := hca j (by rw [HL.out]; exact hlt)
        have c1 : wr.cell? ⟨ba, oa + j, none⟩ = some (.string (markB (k + (j : Int)))) := by
          rw [hbel.cell (by have := World.block_lt_of_cell? w _ c0; simpa using this), c0, marksS_get]
        clear c0
        have hblk : ba < wr.heap.size := by have := World.block_lt_of_cell? wr _ c1; simpa using this
        go_wp2
        go_region_held3 (fun w' => w'.cell? ⟨ba, oa + j, none⟩ = some (.string (markB (k + (j : Int)))) ∧ Below w.heap.size w w') (first | exact ⟨c1, hbel.drew⟩ | exact ⟨d2, hbel1⟩)
          (first | (go_at_call 61; refine (mark_any _ _ (by omega)).mono ?_; rintro e w1 ⟨rfl, hb⟩; have d2 := (hb.cell (p := ⟨ba, oa + j, none⟩) hblk).trans c1; have hbel1 := hbel.drew.trans (hb.mono hbel.size)))
        go_wp2
        go_roundw
        case rel => exact ⟨j + 1, by omega, by go_num, by go_num, hbel1⟩
        case measure => simp [intOf]; omega
      · go_wp2
        go_ret
        exact ⟨ret_int (by omega), hbel⟩
end Go.Proofs.Ytlaehhdbagiciaa
