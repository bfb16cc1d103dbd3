import Derived.Test.YtbioljpjpflboaaGreatDoorOrdSet
import Derived.Test.YtbioljpjpflboaaGreatDoorIn
/- Marks and bodies: what may be one. -/
namespace Go.Proofs.YtbioljpjpflboaaGreatDoor
open Go Go.RowKit

def allNames (l : List ByteArray) (k : Nat) : Bool := (l.take k).all fun s => nameB s.data.toList
theorem allNames_succ {l : List ByteArray} {k : Nat} (h : k < l.length) : allNames l (k + 1) = (allNames l k && nameB l[k].data.toList) := by
  unfold allNames; rw [List.take_succ_eq_append_getElem h, List.all_append]; simp
theorem allNames_no {l : List ByteArray} {k : Nat} (h : k < l.length) (hn : nameB l[k].data.toList = false) : allNames l l.length = false := by
  unfold allNames
  rw [List.take_length, List.all_eq_false]
  exact ⟨_, List.getElem_mem h, by rw [hn]; simp⟩
def IdxPost (w : World) (l : List ByteArray) (e : Ending) (w' : World) : Prop := ∃ q : Int, e = .returned (.int .i64 q) ∧ -1 ≤ q ∧ q ≤ 1048576 ∧ (0 ≤ q ↔ allNames l l.length = false) ∧ w = w'

set_option maxHeartbeats 400000 in
theorem marks1_any (s : ByteArray) (hs : s.size ≤ maxLen) (w : World) :
    Calls Tryz.prog 128 #[.string s] w fun e w' => e = .returned (.bool (!nameB s.data.toList)) ∧ w = w' := by
  cases h : nameB s.data.toList with
  | true =>
    have H := Lib.hid h
    clear h
    go_enter Tryz.func128, Tryz.ntmps128
    go_wp2_with fail
    refine (impl_name s _ hs).mono ?_
    rintro e w1 ⟨rfl, rfl⟩
    rw [H.out]
    go_wp2
    go_ret
    exact ⟨rfl, rfl⟩
  | false =>
    have H := Lib.hid h
    clear h
    go_enter Tryz.func128, Tryz.ntmps128
    go_wp2_with fail
    refine (impl_name s _ hs).mono ?_
    rintro e w1 ⟨rfl, rfl⟩
    rw [H.out]
    go_wp2
    go_ret
    exact ⟨rfl, rfl⟩

set_option maxRecDepth 100000 in
set_option maxHeartbeats 800000 in
theorem idxMarks_any (a : Option Addr) (c : Nat) (l : List ByteArray) (w : World) (hl : StrS w a l) (hlen : l.length ≤ 1048576) :
    Calls Tryz.prog 147 #[.slice a l.length c, .func (.func 128) #[] #[]] w (IdxPost w l) := by
  obtain ⟨_, hz, hl⟩ := hl
  have HZ := Lib.hid hz
  clear hz
  go_enter Tryz.func147, Tryz.ntmps147
  go_wp2
  go_loop [8] (fun i => ∃ k : Nat, k ≤ l.length ∧ i = .int .i64 k ∧ allNames l k = true) (fun i => l.length - (intOf i).toNat)
  case atStart => exact ⟨0, Nat.zero_le _, rfl, rfl⟩
  case round =>
    obtain ⟨k, hk, rfl, hal⟩ := hrel
    have HA := Lib.hid hal
    clear hal
    by_cases hlt : k < l.length
    · obtain ⟨b, o, rfl, hcell⟩ := hl.resolve_left (fun e => by subst e; simp at hlt)
      have c1 := hcell k hlt
      have hz := HZ.out l[k] (List.getElem_mem hlt)
      have hki : (k : Int) < (l.length : Int) := by omega
      have hk0 : (0 : Int) ≤ (k : Int) := by omega
      clear hcell
      go_wp2_with fail
      refine (marks1_any l[k] hz _).mono ?_
      rintro e w1 ⟨rfl, rfl⟩
      cases hn : nameB l[k].data.toList with
      | true =>
        have HS := Lib.hid (show allNames l (k + 1) = true by rw [allNames_succ hlt, HA.out, hn]; rfl)
        clear hn
        go_wp2
        go_round
        case rel => exact ⟨k + 1, by omega, by go_num, HS.out⟩
        case measure => simp [intOf]; omega
      | false =>
        have HS := Lib.hid (allNames_no hlt hn)
        clear hn
        go_wp2
        go_ret
        exact ⟨k, rfl, by omega, by omega, ⟨fun _ => HS.out, fun _ => by omega⟩, rfl⟩
    · have HS := Lib.hid (show allNames l l.length = true by have h := HA.out; rwa [show k = l.length by omega] at h)
      go_wp2
      go_ret
      exact ⟨-1, rfl, by omega, by omega, ⟨fun h => by omega, fun h => by rw [HS.out] at h; cases h⟩, rfl⟩

set_option maxRecDepth 100000 in
set_option maxHeartbeats 800000 in
theorem hasMarks_any (a : Option Addr) (c : Nat) (l : List ByteArray) (w : World) (hl : StrS w a l) (hlen : l.length ≤ 1048576) :
    Calls Tryz.prog 127 #[.slice a l.length c, .func (.func 128) #[] #[]] w fun e w' => e = .returned (.bool (!allNames l l.length)) ∧ w = w' := by
  have HX := Lib.hid hl
  clear hl
  go_enter Tryz.func127, Tryz.ntmps127
  go_wp2_with fail
  refine (idxMarks_any a c l _ HX.out hlen).mono ?_
  rintro e w1 ⟨q, rfl, hq1, hq2, hiff, rfl⟩
  cases h : allNames l l.length with
  | true =>
    have hq : q < 0 := by
      rcases Int.lt_or_le q 0 with h1 | h1
      · exact h1
      · have := hiff.1 h1; rw [h] at this; cases this
    have H := Lib.hid h
    clear hiff h
    go_wp2
    go_ret
    exact ⟨ret_bool (by rw [H.out]; exact decide_eq_false (by omega)), rfl⟩
  | false =>
    have hq : 0 ≤ q := hiff.2 h
    have H := Lib.hid h
    clear hiff h
    go_wp2
    go_ret
    exact ⟨ret_bool (by rw [H.out]; rfl), rfl⟩

/-- what a thing can have as marks -/
def marksB (l : List ByteArray) : Bool := decide (l.length ≤ 2) && (ascTo l l.length && allNames l l.length)

set_option maxRecDepth 100000 in
set_option maxHeartbeats 1000000 in
theorem implMarks_any (a : Option Addr) (c : Nat) (l : List ByteArray) (w : World) (hl : StrS w a l) (hn : a = none → l.length = 0 ∧ c = 0) :
    Calls Tryz.prog 106 #[.slice a l.length c] w fun e w' => e = .returned (.bool (marksB l)) ∧ Below w.heap.size w w' := by
  have HX := Lib.hid hl
  have HN := Lib.hid hn
  have hml := hl.1
  unfold maxLen at hml
  clear hl hn
  by_cases h2 : 2 < l.length
  · have h2i : (2 : Int) < (l.length : Int) := by omega
    have HM := Lib.hid (show marksB l = false by unfold marksB; rw [decide_eq_false (by omega)]; rfl)
    clear h2
    go_enter Tryz.func106, Tryz.ntmps106
    go_wp2
    go_ret
    exact ⟨ret_bool (by rw [HM.out]), Below.refl _ _⟩
  · have h2i : (l.length : Int) ≤ 2 := by omega
    have HM := Lib.hid (show marksB l = (ascTo l l.length && allNames l l.length) by unfold marksB; rw [decide_eq_true (by omega)]; rfl)
    clear h2
    go_enter Tryz.func106, Tryz.ntmps106
    go_wp2_with fail
    refine (orderSetOf_any a c l _ HX.out (by omega) HN.out).mono ?_
    rintro e w1 (⟨hno, rfl, b1⟩ | ⟨hyes, v, rfl, o1, b1⟩)
    · have HF := Lib.hid (show marksB l = false by rw [HM.out, hno]; rfl)
      clear hno
      go_wp2
      go_ret
      exact ⟨ret_bool (by rw [HF.out]), b1.alloc b1.size _⟩
    · obtain ⟨va, vc, rfl⟩ := own_shape o1
      have HF := Lib.hid (show marksB l = allNames l l.length by rw [HM.out, hyes]; rfl)
      have B1 := Lib.hid b1
      clear hyes o1 b1
      have B2 := Lib.hid (show Below w.heap.size w (w1.alloc (.cells #[.slice va l.length vc] 161)) from B1.out.alloc B1.out.size _)
      go_wp2_with fail
      refine (hasMarks_any a c l _ (HX.out.below B2.out) (by omega)).mono ?_
      rintro e w2 ⟨rfl, rfl⟩
      generalize allNames l l.length = b at HF ⊢
      cases b
      all_goals
        go_wp2
        go_ret
        exact ⟨ret_bool (by rw [HF.out]), B2.out⟩
end Go.Proofs.YtbioljpjpflboaaGreatDoor
