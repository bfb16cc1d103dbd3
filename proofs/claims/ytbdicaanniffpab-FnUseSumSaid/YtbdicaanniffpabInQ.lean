import Derived.Test.YtbdicaanniffpabSpaceL
/- Who is in whom (as UpP, InP; for seats without uses). -/
namespace Go.Proofs.Ytbdicaanniffpab
open Go Go.RowKit

variable {α : Type}
theorem after_addQ (nx : α → Option α) : ∀ (a b : Nat) (o : Option α), after nx o (a + b) = after nx (after nx o a) b
  | 0, b, o => by rw [Nat.zero_add]; cases o <;> rfl
  | a + 1, b, none => by rw [after_none, after_none, after_none]
  | a + 1, b, some i => by
    rw [show a + 1 + b = (a + b) + 1 by omega]
    show after nx (nx i) (a + b) = after nx (after nx (nx i) a) b
    exact after_addQ nx a b (nx i)
/-- a way that comes back to where it was never ends -/
theorem after_cycleQ {nx : α → Option α} {i : α} {p : Nat} (h : after nx (some i) p = some i) : ∀ n, after nx (some i) (p * n) = some i
  | 0 => rfl
  | n + 1 => by rw [Nat.mul_succ, after_addQ, after_cycleQ h n, h]
theorem mem_of_afterQ {α : Type} {nx : α → Option α} {j : α} : ∀ (k p : Nat) (o : Option α), p < k → after nx o p = some j → j ∈ trail nx o k
  | 0, p, _, h, _ => absurd h (Nat.not_lt_zero _)
  | k + 1, p, none, _, h => by rw [after_none] at h; cases h
  | k + 1, 0, some i, _, h => by cases h; exact List.mem_cons_self
  | k + 1, p + 1, some i, hp, h => List.mem_cons_of_mem _ (mem_of_afterQ k p (nx i) (by omega) h)
/-- one space is in another: some steps outward -/
theorem inSp_stepsQ {l : List SpaceD} (hk : spsOk l = true) {x y : ByteArray} : inSp l x y = true ↔ ∃ p j, after (nxS l) (idxS l x) p = some j ∧ idxS l y = some j := by
  have hl := (sps_len hk).2.2
  have h7 := (sps_len hk).2.1
  have hend := sps_end hk x
  unfold inSp upS
  rw [List.any_map, List.any_eq_true]
  constructor
  · rintro ⟨j, hj, e⟩
    have e : nmS l j = y := of_decide_eq_true e
    have hjl := trail_lt 8 _ (fun i hi => idxS_lt hi) j hj
    obtain ⟨p, _, hp⟩ := mem_trail 8 hj
    exact ⟨p, j, hp, by rw [← e]; exact line_idx hl hjl⟩
  · rintro ⟨p, j, hp, hj⟩
    have hpl : p < l.length := by
      rcases Nat.lt_or_ge p l.length with h | h
      · exact h
      · rw [(trail_end hend h).2] at hp; cases hp
    exact ⟨j, mem_of_afterQ 8 p _ (by omega) hp, decide_eq_true (by rw [nmS_at (idxS_lt hj)]; exact idxS_name hj)⟩
theorem inSp_transQ {l : List SpaceD} (hk : spsOk l = true) {x y z : ByteArray} (h1 : inSp l x y = true) (h2 : inSp l y z = true) : inSp l x z = true := by
  obtain ⟨p, j, hp, hj⟩ := (inSp_stepsQ hk).1 h1
  obtain ⟨q, k, hq, hkk⟩ := (inSp_stepsQ hk).1 h2
  rw [hj] at hq
  exact (inSp_stepsQ hk).2 ⟨p + q, k, by rw [after_addQ, hp]; exact hq, hkk⟩
theorem inSp_antiQ {l : List SpaceD} (hk : spsOk l = true) {x y : ByteArray} (h1 : inSp l x y = true) (h2 : inSp l y x = true) : x = y := by
  obtain ⟨p, j, hp, hj⟩ := (inSp_stepsQ hk).1 h1
  obtain ⟨q, i, hq, hi⟩ := (inSp_stepsQ hk).1 h2
  rw [hj] at hq
  rw [hi] at hp
  by_cases h0 : p = 0
  · subst h0
    have e : i = j := by cases hp; rfl
    subst e
    rw [← idxS_name hi, idxS_name hj]
  · exfalso
    have hc : after (nxS l) (some i) (p + q) = some i := by rw [after_addQ, hp]; exact hq
    have h1 := after_cycleQ hc l.length
    have hend := sps_end hk x
    rw [hi] at hend
    have h2 := (trail_end hend (show l.length ≤ (p + q) * l.length from Nat.le_mul_of_pos_left _ (by omega))).2
    rw [h2] at h1
    cases h1
end Go.Proofs.Ytbdicaanniffpab
