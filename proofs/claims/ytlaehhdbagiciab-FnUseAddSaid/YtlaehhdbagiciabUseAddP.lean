import Derived.Test.YtlaehhdbagiciabUseAddS
import Derived.Test.YtlaehhdbagiciabUseMayI
/- UseAdd: one after the other, along the way outward. -/
namespace Go.Proofs.Ytlaehhdbagiciab
open Go Go.RowKit

section
variable {α : Type}
theorem after_add (nx : α → Option α) : ∀ (a b : Nat) (o : Option α), after nx o (a + b) = after nx (after nx o a) b
  | 0, b, o => by rw [Nat.zero_add]; cases o <;> rfl
  | a + 1, b, none => by rw [after_none, after_none, after_none]
  | a + 1, b, some i => by
    rw [show a + 1 + b = (a + b) + 1 by omega]
    show after nx (nx i) (a + b) = after nx (after nx (nx i) a) b
    exact after_add nx a b (nx i)
theorem after_mem {nx : α → Option α} {o : Option α} {j : α} : ∀ (k : Nat), j ∈ trail nx o k → ∃ p, p < k ∧ after nx o p = some j := fun k h => mem_trail k h
/-- a way that comes back to where it was never ends -/
theorem after_cycle {nx : α → Option α} {i : α} {p : Nat} (h : after nx (some i) p = some i) : ∀ n, after nx (some i) (p * n) = some i
  | 0 => rfl
  | n + 1 => by rw [Nat.mul_succ, after_add, after_cycle h n, h]
theorem trail_nodup {nx : α → Option α} : ∀ (N : Nat) (o : Option α), after nx o N = none → (trail nx o N).Nodup
  | N, none, _ => by rw [trail_none]; exact List.nodup_nil
  | 0, some i, h => by cases h
  | N + 1, some i, h => by
    show (i :: trail nx (nx i) N).Nodup
    refine List.nodup_cons.2 ⟨fun hm => ?_, trail_nodup N (nx i) h⟩
    obtain ⟨p, _, hp⟩ := after_mem N hm
    have hc : after nx (some i) (p + 1) = some i := hp
    have h1 := after_cycle hc (N + 1)
    have h2 := (trail_end h (show N + 1 ≤ (p + 1) * (N + 1) by have := Nat.le_mul_of_pos_left (N + 1) (Nat.succ_pos p); exact this)).2
    rw [h2] at h1
    cases h1
end

/-- what a use at a place is with more -/
def moreAt (u : List UseD) (more : Int) (i : Nat) : UseD := ((u.getD i default).1, (u.getD i default).2 + more)
def stepU (more : Int) (row : List UseD) (i : Nat) : Option (List UseD) := if inB ((row.getD i default).2 + more) 0 99999 then some (row.set i (moreAt row more i)) else none
def stU (more : Int) : List Nat → List UseD → Option (List UseD)
  | [], row => some row
  | i :: t, row => (stepU more row i).bind (stU more t)
theorem stU_snoc (more : Int) : ∀ (s : List Nat) (y : Nat) (row : List UseD), stU more (s ++ [y]) row = (stU more s row).bind fun r => stepU more r y
  | [], y, row => by simp [stU]
  | i :: t, y, row => by
    show (stepU more row i).bind (stU more (t ++ [y])) = ((stepU more row i).bind (stU more t)).bind _
    cases stepU more row i with
    | none => rfl
    | some r => exact stU_snoc more t y r
theorem stU_none (more : Int) : ∀ (s t : List Nat) (row : List UseD), stU more s row = none → stU more (s ++ t) row = none
  | [], _, _, h => by cases h
  | i :: s, t, row, h => by
    show (stepU more row i).bind (stU more (s ++ t)) = none
    have h' : (stepU more row i).bind (stU more s) = none := h
    cases e : stepU more row i with
    | none => rfl
    | some r => rw [e] at h'; exact stU_none more s t r h'
theorem getD_set_ne {row : List UseD} {i j : Nat} {x : UseD} (h : i ≠ j) : (row.set i x).getD j default = row.getD j default := by
  simp [List.getD_eq_getElem?_getD, List.getElem?_set_ne h]
/-- along a way without a return: all at once -/
theorem stU_all (more : Int) : ∀ (t : List Nat) (row : List UseD), t.Nodup → (∀ i ∈ t, i < row.length) →
    stU more t row = if t.all (fun i => inB ((row.getD i default).2 + more) 0 99999) then some ((List.range row.length).map fun i => if i ∈ t then moreAt row more i else row.getD i default) else none
  | [], row, _, _ => by
    have : (List.range row.length).map (fun i => if i ∈ ([] : List Nat) then moreAt row more i else row.getD i default) = row := by
      refine List.ext_getElem (by simp) fun j h1 h2 => ?_
      simp [List.getD_eq_getElem?_getD, List.getElem?_eq_getElem h2]
    rw [this]
    rfl
  | i :: t, row, hn, hl => by
    obtain ⟨hi, hn⟩ := List.nodup_cons.1 hn
    show (stepU more row i).bind (stU more t) = _
    unfold stepU
    have hil := hl i (by simp)
    cases hq : inB ((row.getD i default).2 + more) 0 99999 with
    | false => simp only [List.all_cons, hq]; rfl
    | true =>
      simp only [List.all_cons, hq, Bool.true_and]
      show stU more t (row.set i (moreAt row more i)) = _
      rw [stU_all more t _ hn (fun j hj => by rw [List.length_set]; exact hl j (by simp [hj]))]
      have e1 : (t.all fun j => inB (((row.set i (moreAt row more i)).getD j default).2 + more) 0 99999) = t.all fun j => inB ((row.getD j default).2 + more) 0 99999 := by
        refine all_congr (fun j hj => ?_)
        rw [getD_set_ne (i := i) (j := j) (fun e => hi (by rw [e]; exact hj))]
      have e2 : ((List.range (row.set i (moreAt row more i)).length).map fun j => if j ∈ t then moreAt (row.set i (moreAt row more i)) more j else (row.set i (moreAt row more i)).getD j default) = (List.range row.length).map fun j => if j ∈ i :: t then moreAt row more j else row.getD j default := by
        rw [List.length_set]
        refine List.map_congr_left (fun j hj => ?_)
        have hj' := List.mem_range.1 hj
        by_cases h1 : j ∈ t
        · have hne : i ≠ j := fun e => hi (by rw [e]; exact h1)
          rw [if_pos h1, if_pos (by simp [h1])]
          unfold moreAt
          rw [getD_set_ne hne]
        · rw [if_neg h1]
          by_cases h2 : j = i
          · subst h2
            rw [if_pos (by simp)]
            simp [List.getD_eq_getElem?_getD, hil]
          · rw [if_neg (by simp [h1, h2]), getD_set_ne (fun e => h2 e.symm)]
      rw [e1, e2]
where
  all_congr {t : List Nat} {p q : Nat → Bool} (h : ∀ j ∈ t, p j = q j) : t.all p = t.all q := by
    rw [Bool.eq_iff_iff, List.all_eq_true, List.all_eq_true]
    exact ⟨fun k j hj => by rw [← h j hj]; exact k j hj, fun k j hj => by rw [h j hj]; exact k j hj⟩

/-- who is in a space, by places -/
theorem inSp_at {l : List SpaceD} {m : Nat} (h : m = l.length) (hk : spsOk l = true) (name : ByteArray) {i : Nat} (hi : i < l.length) :
    inSp l name (nmS l i) = decide (i ∈ (trail (nxF l m) (finO m (idxS l name)) l.length).map Fin.val) := by
  rw [← isIn_names h hk name, Bool.eq_iff_iff, List.any_eq_true, decide_eq_true_eq, List.mem_map]
  have hln := (sps_len hk).2.2
  constructor
  · rintro ⟨y, hy, e⟩
    refine ⟨y, hy, ?_⟩
    have e : nmS l y.val = nmS l i := of_decide_eq_true e
    have hyl : y.val < l.length := by rw [← h]; exact y.2
    have h1 := line_idx hln hyl
    have h2 := line_idx hln hi
    rw [e, h2] at h1
    exact (Option.some.inj h1).symm
  · rintro ⟨y, hy, rfl⟩
    exact ⟨y, hy, by simp [isN, nmF]⟩
/-- what UseAdd comes to -/
theorem add_names {l : List SpaceD} {u : List UseD} {m : Nat} (h : m = l.length) (hk : spsOk l = true) (hu : usesB l u = true) (name : ByteArray) {more : Int} (hm : inB more (-99999) 99999 = true) :
    (stU more ((trail (nxF l m) (finO m (idxS l name)) l.length).map Fin.val) u).getD [] = addO l u name more := by
  obtain ⟨t, ht⟩ : ∃ t, (trail (nxF l m) (finO m (idxS l name)) l.length).map Fin.val = t := ⟨_, rfl⟩
  obtain ⟨hub, hul, hun⟩ := usesB_ub hu
  have hnd : t.Nodup := by
    rw [← ht]
    exact List.Pairwise.map _ (fun a b hne e => hne (Fin.ext e)) (trail_nodup _ _ (end_fin h hk name))
  have hlt : ∀ i ∈ t, i < u.length := by
    rw [← ht, hul, ← h]
    intro i hi
    obtain ⟨y, _, rfl⟩ := List.mem_map.1 hi
    exact y.2
  have hin : ∀ i, i < l.length → inSp l name (nmS l i) = decide (i ∈ t) := fun i hi => by rw [inSp_at h hk name hi, ht]
  rw [ht, stU_all more t u hnd hlt]
  have hrow : ((List.range u.length).map fun i => if i ∈ t then moreAt u more i else u.getD i default) = addU l u name more := by
    refine List.ext_getElem (by simp [addU]) fun j h1 h2 => ?_
    have hj : j < u.length := by simpa [addU] using h2
    have hjl : j < l.length := by omega
    have e1 : u.getD j default = u[j] := by simp [List.getD_eq_getElem?_getD, hj]
    simp only [List.getElem_map, List.getElem_range, addU, addN, moreAt, e1]
    rw [hun j hj, hin j hjl]
    by_cases g : j ∈ t
    · rw [if_pos g, if_pos (decide_eq_true g)]
    · rw [if_neg g, if_neg (by simp [g])]
  have hall : usesB l (addU l u name more) = t.all (fun i => inB ((u.getD i default).2 + more) 0 99999) := by
    have hlen : (addU l u name more).length = u.length := by simp [addU]
    unfold usesB
    rw [hlen, decide_eq_true hul, Bool.true_and, Bool.eq_iff_iff, List.all_eq_true]
    have hat : ∀ j (hj : j < u.length), useP l (addU l u name more) j = inB (if j ∈ t then u[j].2 + more else u[j].2) 0 99999 := fun j hj => by
      have hjl : j < l.length := by omega
      unfold useP
      rw [getD_us (by rw [hlen]; exact hj)]
      have e1 : (addU l u name more)[j]'(by rw [hlen]; exact hj) = addN l name more u[j] := by simp [addU]
      rw [e1]
      have e2 : inSp l name u[j].1 = decide (j ∈ t) := by rw [hun j hj]; exact hin j hjl
      unfold addN
      rw [e2]
      by_cases g : j ∈ t
      · rw [if_pos (decide_eq_true g), if_pos g, decide_eq_true (hun j hj), Bool.true_and]
      · rw [if_neg (by simp [g]), if_neg g, decide_eq_true (hun j hj), Bool.true_and]
    constructor
    · intro hq i hi
      have hil := hlt i hi
      have := upto_at hq hil
      rw [hat i hil, if_pos hi] at this
      have e1 : u.getD i default = u[i] := by simp [List.getD_eq_getElem?_getD, hil]
      rw [e1]
      exact this
    · intro hq
      refine upto_all fun j hj => ?_
      rw [hat j hj]
      by_cases g : j ∈ t
      · rw [if_pos g]
        have := hq j g
        have e1 : u.getD j default = u[j] := by simp [List.getD_eq_getElem?_getD, hj]
        rw [e1] at this
        exact this
      · rw [if_neg g]
        exact decide_eq_true (hub _ (List.getElem_mem hj))
  rw [hrow]
  unfold addO addOk
  rw [hk, hu, hm, hall]
  simp only [Bool.true_and]
  split <;> rfl
end Go.Proofs.Ytlaehhdbagiciab
