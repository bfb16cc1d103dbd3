import Derived.Test.YtbioljpjpflboaaGreatDoorSpacesS
/- SpaceUp, SpaceIn, SpaceGoing of the model. -/
namespace Go.Proofs.YtbioljpjpflboaaGreatDoor
open Go Go.RowKit

theorem trail_lt {l : List SpaceD} : ∀ (k : Nat) (o : Option Nat), (∀ i, o = some i → i < l.length) → ∀ j ∈ trail (nxS l) o k, j < l.length
  | 0, o, _, j, hj => by rw [trail_zero] at hj; cases hj
  | k + 1, none, _, j, hj => by simp [trail] at hj
  | k + 1, some i, h, j, hj => by
    rcases List.mem_cons.1 hj with rfl | hj
    · exact h _ rfl
    · exact trail_lt k (nxS l i) (fun m hm => nxS_lt hm) j hj
theorem upS_mem {l : List SpaceD} {name u : ByteArray} (h : u ∈ upS l name) : ∃ i, ∃ hi : i < l.length, u = l[i].1 := by
  obtain ⟨i, hi, rfl⟩ := List.mem_map.1 h
  have := trail_lt 8 (idxS l name) (fun i hi => idxS_lt hi) i hi
  exact ⟨i, this, nmS_at this⟩
theorem upS_size {l : List SpaceD} (hk : ∀ x ∈ l, OkSpace x) (name : ByteArray) : ∀ u ∈ upS l name, u.size ≤ maxLen := by
  intro u hu
  obtain ⟨i, hi, rfl⟩ := upS_mem hu
  exact (hk _ (List.getElem_mem _)).1
theorem upS_len (l : List SpaceD) (name : ByteArray) : (upS l name).length ≤ 8 := by
  unfold upS; rw [List.length_map]; exact trail_le _ _ _
/-- a space is another one, or in it -/
def inSp (l : List SpaceD) (name over : ByteArray) : Bool := (upS l name).any fun u => decide (u = over)
def goneN (l : List SpaceD) (u : ByteArray) : Bool := match idxS l u with | some i => (l.getD i default).2.2.2.1 | none => false
/-- a space, or one that it is in, is to go -/
def goSp (l : List SpaceD) (name : ByteArray) : Bool := (upS l name).any (goneN l)
theorem any_at {α : Type} {p : α → Bool} {l : List α} {k : Nat} (hk : k < l.length) (h : p l[k] = true) : l.any p = true := List.any_eq_true.2 ⟨_, List.getElem_mem hk, h⟩
theorem any_none {α : Type} {p : α → Bool} {l : List α} (h : ∀ j (hj : j < l.length), p l[j] = false) : l.any p = false := by
  rw [List.any_eq_false]
  intro x hx
  obtain ⟨j, hj, rfl⟩ := List.mem_iff_getElem.1 hx
  simp [h j hj]

theorem specSpaces_is {a : Option Addr} {l : List SpaceD} {w : World} (hl : ElS 5 encSpace w a l) (hok : ∀ x ∈ l, OkSpace x) (hlen : l.length ≤ 1048576) {q : Bool} (h : spsOk l = q) (ca : Nat) :
    Calls Tryz.prog 54 #[.slice a l.length ca] w fun e w' => e = .returned (.bool q) ∧ Below w.heap.size w w' :=
  (specSpaces_any a ca l w hl hok hlen).mono fun _ _ ⟨h1, k⟩ => ⟨by rw [h1, h], k⟩
/-- what SpaceUp answers -/
def upO (l : List SpaceD) (name : ByteArray) : List ByteArray := if spsOk l then upS l name else []
set_option maxRecDepth 100000 in
set_option maxHeartbeats 800000 in
theorem l8In_any (a : Option Addr) (ca : Nat) (l : List SpaceD) (name over : ByteArray) (w : World) (hl : ElS 5 encSpace w a l) (hok : ∀ x ∈ l, OkSpace x) :
    Calls Tryz.prog 92 #[.slice a l.length ca, .string name, .string over] w fun e w' => e = .returned (.bool (inSp l name over)) ∧ Below w.heap.size w w' := by
  have HX := Lib.hid hl
  obtain ⟨u, hu⟩ : ∃ u, upS l name = u := ⟨_, rfl⟩
  have HU := Lib.hid hu
  have HUS := Lib.hid (show ∀ s ∈ u, s.size ≤ maxLen by rw [← hu]; exact upS_size hok name)
  have hu8 : u.length ≤ 8 := by rw [← hu]; exact upS_len l name
  have HI := Lib.hid (show inSp l name over = u.any fun x => decide (x = over) by rw [← hu]; rfl)
  clear hu hl hok
  go_enter Tryz.func92, Tryz.ntmps92
  go_wp2_with (go_at_call 88; refine (l8Up_any _ ca l name _ (HX.out.below (by repeat (first | exact Below.refl _ _ | (refine Below.alloc ?_ (by first | (simp; done) | (simp; omega)) _) | (refine Below.setCell ?_ (by first | (simp; done) | (simp; omega)) _) | (refine Below.drew ?_))))).mono ?_; rintro e w2 ⟨v, rfl, o2, b2⟩; rw [HU.out] at o2; obtain ⟨va, vc, rfl⟩ := own_shpU o2; have hs2 := own_str (by unfold maxLen; omega) HUS.out o2)
  have HS := Lib.hid hs2.2.2
  have B2 := Lib.hid b2
  clear hs2 o2 b2
  go_loopw [8] (fun i wr => ∃ k : Nat, k ≤ u.length ∧ i = .int .i64 k ∧ (∀ j (hj : j < k) (hl : j < u.length), u[j] ≠ over) ∧ wr = w2) (fun i _ => u.length - (intOf i).toNat)
  case atStart => exact ⟨0, Nat.zero_le _, rfl, fun j hj => absurd hj (Nat.not_lt_zero _), rfl⟩
  case round =>
    obtain ⟨k, hk, rfl, hto, rfl⟩ := hrel
    have HT := Lib.hid hto
    clear hto
    by_cases hlt : k < u.length
    · obtain ⟨b, ob, rfl, hcell⟩ := HS.out.resolve_left (fun e => by rw [e] at hlt; simp at hlt)
      have c0 := hcell k hlt
      have hk0 : (0 : Int) ≤ (k : Int) := by omega
      have hk1 : (k : Int) < (u.length : Int) := by omega
      clear hcell
      by_cases e : u[k] = over
      · have q1 : (u[k].toList == over.toList) = true := by rw [e]; simp
        have HN := Lib.hid (show inSp l name over = true by rw [HI.out]; exact any_at hlt (decide_eq_true e))
        clear e
        go_wp2
        go_ret
        exact ⟨ret_bool HN.out.symm, B2.out⟩
      · have q1 : (u[k].toList == over.toList) = false := toList_no e
        have HN := Lib.hid (show ∀ j (hj : j < k + 1) (hl : j < u.length), u[j] ≠ over from fun j hj hl' => by
          by_cases hjk : j < k
          · exact HT.out j hjk hl'
          · obtain rfl : j = k := by omega
            exact e)
        clear e
        go_wp2
        go_roundw
        case rel => exact ⟨k + 1, by omega, by go_num, HN.out, trivial⟩
        case measure => simp [intOf]; omega
    · have HN := Lib.hid (show inSp l name over = false by rw [HI.out]; exact any_none (fun j hj => decide_eq_false (HT.out j (by omega) hj)))
      go_wp2
      go_ret
      exact ⟨ret_bool HN.out.symm, B2.out⟩
end Go.Proofs.YtbioljpjpflboaaGreatDoor
