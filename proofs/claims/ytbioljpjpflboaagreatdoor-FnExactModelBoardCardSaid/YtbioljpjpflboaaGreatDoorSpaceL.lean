import Derived.Test.YtbioljpjpflboaaGreatDoorSpaceInS
/- When spaces, in order, are ok: each comes to the one that has all. -/
namespace Go.Proofs.YtbioljpjpflboaaGreatDoor
open Go Go.RowKit

theorem upto_at {p : Nat → Bool} {m : Nat} (h : upto p m = true) {i : Nat} (hi : i < m) : p i = true := List.all_eq_true.1 h i (List.mem_range.2 hi)
theorem upto_all {p : Nat → Bool} {m : Nat} (h : ∀ i, i < m → p i = true) : upto p m = true := List.all_eq_true.2 fun i hi => h i (List.mem_range.1 hi)
theorem line_lt {l : List SpaceD} (h : upto (ascP l) l.length = true) : ∀ (j : Nat), j < l.length → ∀ i, i < j → ltS (nmS l i) (nmS l j) = true
  | 0, _, i, hi => absurd hi (Nat.not_lt_zero _)
  | j + 1, hj, i, hi => by
    have h1 := upto_at h hj
    unfold ascP at h1
    simp only [Bool.and_eq_true, Bool.or_eq_true, decide_eq_true_eq, Nat.add_one_ne_zero, false_or, Nat.add_sub_cancel] at h1
    by_cases e : i = j
    · subst e; exact h1.2
    · exact ltS_trans (line_lt h j (by omega) i (by omega)) h1.2
theorem line_idx {l : List SpaceD} (h : upto (ascP l) l.length = true) {i : Nat} (hi : i < l.length) : idxS l (nmS l i) = some i := by
  rw [nmS_at hi]
  refine idxS_some hi rfl (fun j hj e => ?_)
  have h1 := line_lt h i hi j hj
  rw [nmS_at hi, nmS_at (Nat.lt_trans hj hi), e, ltS_irrefl] at h1
  cases h1
theorem line_ok {l : List SpaceD} (h : upto (ascP l) l.length = true) {i : Nat} (hi : i < l.length) : spOk l[i] = true := by
  have h1 := upto_at h hi
  unfold ascP at h1
  rw [getD_sp hi] at h1
  simp only [Bool.and_eq_true] at h1
  exact h1.1
theorem line_all {l : List SpaceD} (h : upto (ascP l) l.length = true) {i : Nat} (hi : i < l.length) (e : nmS l i = allB) : nxS l i = none := by
  have h1 := line_ok h hi
  rw [nmS_at hi] at e
  unfold spOk at h1
  rw [decide_eq_true e] at h1
  simp only [Bool.and_eq_true, beq_iff_eq, decide_eq_true_eq] at h1
  rw [nxS_at hi, h1.1.1.1.2]
  refine idxS_none (fun j hj e2 => ?_)
  have h2 := line_ok h hj
  unfold spOk at h2
  simp only [Bool.and_eq_true] at h2
  rw [e2] at h2
  exact absurd h2.1.1.1.1.1 (by decide)
/-- a space comes to the one that has all -/
def comeP (l : List SpaceD) (i : Nat) : Bool := (trail (nxS l) (some i) l.length).any fun j => decide (nmS l j = allB)
theorem mem_trail {α : Type} {nx : α → Option α} {o : Option α} {j : α} : ∀ (k : Nat), j ∈ trail nx o k → ∃ p, p < k ∧ after nx o p = some j
  | 0, h => by rw [trail_zero] at h; cases h
  | k + 1, h => by
    rw [trail_succ, List.mem_append] at h
    rcases h with h | h
    · obtain ⟨p, hp, e⟩ := mem_trail k h
      exact ⟨p, by omega, e⟩
    · exact ⟨k, by omega, by simpa using h⟩
theorem up_come {l : List SpaceD} (h : upto (ascP l) l.length = true) (h7 : l.length ≤ 7) {i : Nat} (hi : i < l.length) : upP l i = comeP l i := by
  have hu : upS l (nmS l i) = (trail (nxS l) (some i) 8).map (nmS l) := by unfold upS; rw [line_idx h hi]
  have hlt : ∀ k, ∀ j ∈ trail (nxS l) (some i) k, j < l.length := fun k => trail_lt k (some i) (fun m e => by cases e; exact hi)
  apply Bool.eq_iff_iff.2
  unfold upP comeP
  rw [hu]
  simp only [Bool.and_eq_true, decide_eq_true_eq, List.any_eq_true, List.length_map]
  constructor
  · rintro ⟨h1, h2⟩
    obtain ⟨r, hr⟩ := trail_more (nx := nxS l) (show l.length ≤ 8 by omega) (some i)
    have hr0 : r = [] := by
      cases ha : after (nxS l) (some i) l.length with
      | none =>
        have := (trail_end ha (show l.length ≤ 8 by omega)).1
        rw [hr] at this
        simpa using this
      | some j =>
        have := trail_len l.length (some i) j ha
        rw [hr, List.length_append, this] at h1
        exact List.eq_nil_of_length_eq_zero (by omega)
    rw [hr0, List.append_nil] at hr
    rw [hr, List.getLast?_map, Option.map_eq_some_iff] at h2
    obtain ⟨j, hj, e⟩ := h2
    exact ⟨j, List.mem_of_getLast? hj, e⟩
  · rintro ⟨j, hj, e⟩
    have hjl := hlt _ j hj
    obtain ⟨p, hp, ha⟩ := mem_trail _ hj
    have hn : after (nxS l) (some i) (p + 1) = none := by rw [after_succ, ha]; exact line_all h hjl e
    have h8 := (trail_end hn (show p + 1 ≤ 8 by omega)).1
    have hs : trail (nxS l) (some i) (p + 1) = trail (nxS l) (some i) p ++ [j] := by rw [trail_succ, ha]; rfl
    have hl := trail_len p (some i) j ha
    rw [h8, hs]
    refine ⟨by rw [List.length_append, hl, List.length_singleton]; omega, ?_⟩
    simp [e]
theorem sps_line {l : List SpaceD} (h : upto (ascP l) l.length = true) (h1 : 1 ≤ l.length) (h7 : l.length ≤ 7) : spsOk l = upto (comeP l) l.length := by
  rw [spsOk_def, h, Bool.true_and]
  have e1 : upto (upP l) l.length = upto (comeP l) l.length := by
    apply Bool.eq_iff_iff.2
    exact ⟨fun g => upto_all fun i hi => by rw [← up_come h h7 hi]; exact upto_at g hi, fun g => upto_all fun i hi => by rw [up_come h h7 hi]; exact upto_at g hi⟩
  rw [e1]
  have e2 : inB (l.length : Int) 1 7 = true := decide_eq_true (by omega)
  rw [e2, Bool.and_true]
  cases hc : upto (comeP l) l.length with
  | false => rfl
  | true =>
    have h0 := upto_at hc (show 0 < l.length by omega)
    unfold comeP at h0
    rw [List.any_eq_true] at h0
    obtain ⟨j, hj, e⟩ := h0
    have hjl := trail_lt _ (some 0) (fun m e => by cases e; omega) j hj
    have e3 := line_idx h hjl
    rw [of_decide_eq_true e] at e3
    rw [e3]; rfl
theorem sps_no {l : List SpaceD} (h : l.length = 0 ∨ 7 < l.length) : spsOk l = false := by
  rw [spsOk_def, show inB (l.length : Int) 1 7 = false from decide_eq_false (by omega)]
  simp
/-- where spaces are ok the way outward ends within 7 -/
theorem sps_end {l : List SpaceD} (h : spsOk l = true) (name : ByteArray) : after (nxS l) (idxS l name) l.length = none := by
  have h0 := h
  rw [spsOk_def] at h0
  simp only [Bool.and_eq_true, inB, decide_eq_true_eq] at h0
  obtain ⟨⟨⟨hl, _⟩, h1, h7⟩, _⟩ := h0
  rw [sps_line hl (by omega) (by omega)] at h
  cases hi : idxS l name with
  | none => exact after_none _ _
  | some i =>
    have hc := upto_at h (idxS_lt hi)
    unfold comeP at hc
    rw [List.any_eq_true] at hc
    obtain ⟨j, hj, e⟩ := hc
    have hjl := trail_lt _ (some i) (fun m e => by cases e; exact idxS_lt hi) j hj
    obtain ⟨p, hp, ha⟩ := mem_trail _ hj
    have hn : after (nxS l) (some i) (p + 1) = none := by rw [after_succ, ha]; exact line_all hl hjl (of_decide_eq_true e)
    exact (trail_end hn (by omega)).2
theorem sps_len {l : List SpaceD} (h : spsOk l = true) : 1 ≤ l.length ∧ l.length ≤ 7 ∧ upto (ascP l) l.length = true := by
  rw [spsOk_def] at h
  simp only [Bool.and_eq_true, inB, decide_eq_true_eq] at h
  exact ⟨by omega, by omega, h.1.1.1⟩
end Go.Proofs.YtbioljpjpflboaaGreatDoor
