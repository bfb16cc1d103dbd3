import Derived.Test.YtlaehhdbagiciabUpP
/- Who is in whom. -/
namespace Go.Proofs.Ytlaehhdbagiciab
open Go Go.RowKit

theorem mem_of_after {α : Type} {nx : α → Option α} {j : α} : ∀ (k p : Nat) (o : Option α), p < k → after nx o p = some j → j ∈ trail nx o k
  | 0, p, _, h, _ => absurd h (Nat.not_lt_zero _)
  | k + 1, p, none, _, h => by rw [after_none] at h; cases h
  | k + 1, 0, some i, _, h => by cases h; exact List.mem_cons_self
  | k + 1, p + 1, some i, hp, h => List.mem_cons_of_mem _ (mem_of_after k p (nx i) (by omega) h)
/-- one space is in another: some steps outward -/
theorem inSp_steps {l : List SpaceD} (hk : spsOk l = true) {x y : ByteArray} : inSp l x y = true ↔ ∃ p j, after (nxS l) (idxS l x) p = some j ∧ idxS l y = some j := by
  have hl := (sps_len hk).2.2
  have h7 := (sps_len hk).2.1
  have hend := sps_end hk x
  unfold inSp upS
  rw [List.any_map, List.any_eq_true]
  constructor
  · rintro ⟨j, hj, e⟩
    have e : nmS l j = y := of_decide_eq_true e
    have hjl := trail_lt 8 _ (fun i hi => idxS_lt hi) j hj
    obtain ⟨p, _, hp⟩ := mem_trail 8 hj
    exact ⟨p, j, hp, by rw [← e]; exact line_idx hl hjl⟩
  · rintro ⟨p, j, hp, hj⟩
    have hpl : p < l.length := by
      rcases Nat.lt_or_ge p l.length with h | h
      · exact h
      · rw [(trail_end hend h).2] at hp; cases hp
    exact ⟨j, mem_of_after 8 p _ (by omega) hp, decide_eq_true (by rw [nmS_at (idxS_lt hj)]; exact idxS_name hj)⟩
theorem inSp_trans {l : List SpaceD} (hk : spsOk l = true) {x y z : ByteArray} (h1 : inSp l x y = true) (h2 : inSp l y z = true) : inSp l x z = true := by
  obtain ⟨p, j, hp, hj⟩ := (inSp_steps hk).1 h1
  obtain ⟨q, k, hq, hkk⟩ := (inSp_steps hk).1 h2
  rw [hj] at hq
  exact (inSp_steps hk).2 ⟨p + q, k, by rw [after_add, hp]; exact hq, hkk⟩
theorem inSp_anti {l : List SpaceD} (hk : spsOk l = true) {x y : ByteArray} (h1 : inSp l x y = true) (h2 : inSp l y x = true) : x = y := by
  obtain ⟨p, j, hp, hj⟩ := (inSp_steps hk).1 h1
  obtain ⟨q, i, hq, hi⟩ := (inSp_steps hk).1 h2
  rw [hj] at hq
  rw [hi] at hp
  by_cases h0 : p = 0
  · subst h0
    have e : i = j := by cases hp; rfl
    subst e
    rw [← idxS_name hi, idxS_name hj]
  · exfalso
    have hc : after (nxS l) (some i) (p + q) = some i := by rw [after_add, hp]; exact hq
    have h1 := after_cycle hc l.length
    have hend := sps_end hk x
    rw [hi] at hend
    have h2 := (trail_end hend (show l.length ≤ (p + q) * l.length from Nat.le_mul_of_pos_left _ (by omega))).2
    rw [h2] at h1
    cases h1
/-- what is in nothing that is there, is nowhere -/
theorem inSp_no {l : List SpaceD} {x : ByteArray} (h : idxS l x = none) (y : ByteArray) : inSp l x y = false := by
  unfold inSp upS
  rw [h, trail_none]
  rfl
def inV (l : List SpaceD) (x y : ByteArray) : Bool := spsOk l && inSp l x y
theorem inV_trans {l : List SpaceD} {x y z : ByteArray} (h1 : inV l x y = true) (h2 : inV l y z = true) : inV l x z = true := by
  unfold inV at *
  rw [Bool.and_eq_true] at *
  exact ⟨h1.1, inSp_trans h1.1 h1.2 h2.2⟩
theorem inV_anti {l : List SpaceD} {x y : ByteArray} (h1 : inV l x y = true) (h2 : inV l y x = true) : x = y := by
  unfold inV at *
  rw [Bool.and_eq_true] at *
  exact inSp_anti h1.1 h1.2 h2.2
/-- who goes -/
theorem going_any {l : List SpaceD} (hk : spsOk l = true) (name : ByteArray) : goSp l name = l.any fun s => s.2.2.2.1 && inSp l name s.1 := by
  have hl := (sps_len hk).2.2
  rw [Bool.eq_iff_iff]
  unfold goSp
  rw [List.any_eq_true, List.any_eq_true]
  constructor
  · rintro ⟨u, hu, hg⟩
    obtain ⟨i, hi, rfl⟩ := upS_mem hu
    have e : idxS l l[i].1 = some i := by have := line_idx hl hi; rwa [nmS_at hi] at this
    refine ⟨l[i], List.getElem_mem hi, ?_⟩
    unfold goneN at hg
    rw [e] at hg
    have hg : (l.getD i default).2.2.2.1 = true := hg
    rw [getD_sp hi] at hg
    rw [hg, Bool.true_and]
    unfold inSp
    exact List.any_eq_true.2 ⟨_, hu, by simp⟩
  · rintro ⟨s, hs, hg⟩
    rw [Bool.and_eq_true] at hg
    obtain ⟨i, hi, rfl⟩ := List.mem_iff_getElem.1 hs
    have e : idxS l l[i].1 = some i := by have := line_idx hl hi; rwa [nmS_at hi] at this
    have h2 := hg.2
    unfold inSp at h2
    obtain ⟨u, hu, hue⟩ := List.any_eq_true.1 h2
    have hue : u = l[i].1 := of_decide_eq_true hue
    refine ⟨u, hu, ?_⟩
    unfold goneN
    rw [hue, e]
    show (l.getD i default).2.2.2.1 = true
    rw [getD_sp hi]
    exact hg.1
end Go.Proofs.Ytlaehhdbagiciab
