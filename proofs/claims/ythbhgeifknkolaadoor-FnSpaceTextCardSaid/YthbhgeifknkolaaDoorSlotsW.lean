import Derived.Test.YthbhgeifknkolaaDoorSlots
/- XSlots once more, where an operation may name a later one that does not bind it. -/
namespace Go.Proofs.YthbhgeifknkolaaDoor
open Go Go.RowKit
variable {P : Program}

/-- every operation waits only for such as stand ahead of it: so none is left behind -/
theorem fin_ofB {md : Region.Mode} {ops : Array Oper} (h : ∀ (i : Nat) (o : Oper), ops[i]? = some o → ∀ e ∈ o.after, Region.binds md e = true → e.on < i) (listed : Array Bool) (hl : listed.size = ops.size) (hr : Region.ready md ops listed = []) : ∀ i, i < ops.size → listed.getD i false = true := by
  intro i
  induction i using Nat.strongRecOn with
  | ind i ih =>
    intro hi
    cases hq : listed.getD i false with
    | true => rfl
    | false =>
      exfalso
      have hm : i ∈ Region.ready md ops listed := by
        unfold Region.ready
        rw [List.mem_filter, List.mem_range, Bool.and_eq_true]
        refine ⟨hi, ?_, ?_⟩
        · rw [Array.getD_eq_getD_getElem?, Array.getElem?_eq_getElem (by rw [hl]; exact hi), Option.getD_some] at hq ⊢
          rw [hq]; rfl
        · rw [Array.getElem?_eq_getElem hi]
          simp only [Option.map_some, Option.getD_some, Array.all_eq_true']
          intro e he
          cases hb : Region.binds md e with
          | false => simp
          | true =>
            have := h i _ (Array.getElem?_eq_getElem hi) e he hb
            rw [ih e.on this (by omega)]
            simp
      rw [hr] at hm
      cases hm
theorem wpAny_slotsB {md : Region.Mode} {ops : Array Oper} {Q : Exit → Act → World → Prop} {ds : Nat → Nat} {G : Nat → Value → World → Prop} {S : Nat → World → Prop} {a0 : Act} (R : World → World → Prop) (m : Nat) (hm : m ≤ ops.size)
    (hG : ∀ i v w w', G i v w → R w w' → G i v w')
    (hord : ∀ (i : Nat) (o : Oper), i < m → ops[i]? = some o → o.guard = none ∧ o.dst = some (ds i) ∧ ds i < a0.tmps.size) (hdj : ∀ i j, i < m → j < m → i ≠ j → ds i ≠ ds j)
    (hback : ∀ (i : Nat) (o : Oper), ops[i]? = some o → ∀ e ∈ o.after, Region.binds md e = true → e.on < i)
    (hsz : ∀ o : Oper, ops[m]? = some o → ops.size = m + 1 ∧ o.guard = none ∧ ∀ j, j < m → ∃ e ∈ o.after, Region.binds md e = true ∧ e.on = j)
    (hstep : ∀ (i : Nat) (o : Oper) (a : Act) (w : World) (k : Nat) (K : Act → World → Prop), i < m → ops[i]? = some o → Same ops a0 a → (∀ e ∈ o.after, Region.binds md e = true → G e.on (at_ a (ds e.on)) w) → S (k + 1) w →
      (∀ v w', R w w' → G i v w' → S k w' → K (a.put o.dst v) w') → o.wp P a w K Q)
    (hdone : ∀ a w, ops.size = m → Same ops a0 a → (∀ i, i < m → G i (at_ a (ds i)) w) → S 0 w → Q .normal a w)
    (hlast : ∀ (o : Oper) (a : Act) (w : World) (K : Act → World → Prop), ops[m]? = some o → Same ops a0 a → (∀ i, i < m → G i (at_ a (ds i)) w) → S 1 w → (∀ a' w', Q .normal a' w' → K a' w') → o.wp P a w K Q) :
    ∀ (fuel : Nat) (listed : Array Bool) (a : Act) (w : World), openN listed ≤ fuel → listed.getD m false = false → OnWay ops ds G S a0 listed a w → wpAny P md ops Q fuel listed a w := by
  have done : ∀ (listed : Array Bool) (a : Act) (w : World), listed.getD m false = false → OnWay ops ds G S a0 listed a w → Region.ready md ops listed = [] → Q .normal a w := by
    intro listed a w hmf h hr
    have hall := fin_ofB hback listed h.len hr
    have hsm : ops.size = m := by
      rcases Nat.lt_or_ge m ops.size with hlt | hge
      · rw [hall m hlt] at hmf; cases hmf
      · omega
    have h0 : openN listed = 0 := by
      unfold openN
      rw [List.count_eq_zero]
      intro hm
      obtain ⟨i, hi, e⟩ := List.mem_iff_getElem.1 hm
      have hi' : i < listed.size := by simpa using hi
      have := hall i (by rw [← h.len]; exact hi')
      rw [Array.getD_eq_getD_getElem?, Array.getElem?_eq_getElem hi', Option.getD_some] at this
      rw [Array.getElem_toList, this] at e
      cases e
    have hs := h.st
    rw [h0] at hs
    exact hdone a w hsm h.same (fun i hi => h.has i (hall i (by omega))) hs
  intro fuel
  induction fuel with
  | zero =>
    intro listed a w hf hmf h
    have hr : Region.ready md ops listed = [] := by
      cases hq : Region.ready md ops listed with
      | nil => rfl
      | cons i rest =>
        obtain ⟨hi, hl, _⟩ := ready_mem (md := md) (ops := ops) (listed := listed) (i := i) (by rw [hq]; exact List.mem_cons_self)
        have := openN_set (by rw [h.len]; exact hi) hl
        omega
    exact ⟨hr, done listed a w hmf h hr⟩
  | succ fuel ih =>
    intro listed a w hf hmf h
    refine ⟨done listed a w hmf h, fun i hi => ?_⟩
    obtain ⟨hil, hl, haf⟩ := ready_mem hi
    have hls : i < listed.size := by rw [h.len]; exact hil
    have hn := openN_set hls hl
    obtain ⟨o, ho⟩ : ∃ o, ops[i]? = some o := ⟨_, Array.getElem?_eq_getElem hil⟩
    refine wpOp_step ho fun K hK => ?_
    have hget : ∀ j, j ≠ i → (listed.setIfInBounds i true).getD j false = listed.getD j false := fun j hj => by
      rw [Array.getD_eq_getD_getElem?, Array.getD_eq_getD_getElem?, Array.getElem?_setIfInBounds_ne (fun e => hj e.symm)]
    by_cases him : i < m
    · obtain ⟨hg, hd, e2⟩ := hord i o him ho
      rw [if_pos (by simp [Region.wanted, hg])]
      refine hstep i o a w (openN (listed.setIfInBounds i true)) K him ho h.same (fun e he hb => h.has e.on (haf o ho e he hb)) (by rw [hn]; exact h.st) (fun v w' hR hv hS => hK _ _ (ih _ _ _ (by omega) (by rw [hget m (by omega)]; exact hmf) ⟨by simpa using h.len, h.same.put ho v, fun j hj => ?_, hS⟩))
      by_cases e : i = j
      · subst e
        rw [hd, at_put_self (by rw [h.same.size]; exact e2)]
        exact hv
      · rw [hget j (fun e' => e e'.symm)] at hj
        have hjl : j < ops.size := by
          rw [← h.len]
          rcases Nat.lt_or_ge j listed.size with hlt | hge
          · exact hlt
          · rw [Array.getD_eq_getD_getElem?, Array.getElem?_eq_none hge] at hj; cases hj
        have hjm : j < m := by
          rcases Nat.lt_or_ge j m with hlt | hge
          · exact hlt
          · exfalso
            have hjm : j = m := by
              have h1 : m < ops.size := by omega
              have := (hsz _ (Array.getElem?_eq_getElem h1)).1
              omega
            rw [hjm] at hj
            rw [hj] at hmf; cases hmf
        rw [hd, at_put (hdj i j him hjm e)]
        exact hG j _ _ _ (h.has j hj) hR
    · have him' : i = m := by
        have h1 : m < ops.size := by omega
        have := (hsz _ (Array.getElem?_eq_getElem h1)).1
        omega
      subst him'
      obtain ⟨hs1, hg, hall⟩ := hsz o ho
      rw [if_pos (by simp [Region.wanted, hg])]
      have hothers : ∀ j, j < i → listed.getD j false = true := fun j hj => by
        obtain ⟨e, he, hb, rfl⟩ := hall j hj
        exact haf o ho e he hb
      have hone : openN listed = 1 := by
        have h0 : openN (listed.setIfInBounds i true) = 0 := by
          unfold openN
          rw [List.count_eq_zero]
          intro hm
          obtain ⟨j, hj, e⟩ := List.mem_iff_getElem.1 hm
          have hj' : j < listed.size := by simpa using hj
          have hji : j < ops.size := by rw [← h.len]; exact hj'
          have : (listed.setIfInBounds i true).getD j false = true := by
            by_cases e2 : j = i
            · subst e2
              simp [Array.getD_eq_getD_getElem?, hls]
            · rw [hget j e2]
              exact hothers j (by omega)
          rw [Array.getD_eq_getD_getElem?, Array.getElem?_eq_getElem (by simpa using hj'), Option.getD_some] at this
          rw [Array.getElem_toList, this] at e
          cases e
        omega
      refine hlast o a w K ho h.same (fun j hj => h.has j (hothers j hj)) (by have := h.st; rwa [hone] at this) (fun a' w' hq => hK _ _ (wpAny_done ?_ hq fuel))
      cases hq' : Region.ready md ops (listed.setIfInBounds i true) with
      | nil => rfl
      | cons j rest =>
        exfalso
        obtain ⟨hj, hjl, _⟩ := ready_mem (md := md) (ops := ops) (listed := listed.setIfInBounds i true) (i := j) (by rw [hq']; exact List.mem_cons_self)
        by_cases e : j = i
        · subst e
          rw [Array.getD_eq_getD_getElem?] at hjl
          simp [hls] at hjl
        · have h1 := hothers j (by omega)
          rw [← hget j e, Array.getD_eq_getD_getElem?] at h1
          rw [Array.getD_eq_getD_getElem?] at hjl
          cases hz : (listed.setIfInBounds i true)[j]? with
          | none => rw [hz] at h1; cases h1
          | some b => rw [hz] at h1 hjl; simp at h1 hjl; rw [h1] at hjl; cases hjl
/-- what must be of a region that is walked so: m operations with slots of their own, and perhaps one without behind all of them -/
def slotsW (md : Region.Mode) (ops : Array Oper) (m n : Nat) : Bool :=
  decide (m ≤ ops.size) &&
  ((List.range m).all fun i => match ops[i]? with | some o => o.guard.isNone && (match o.dst with | some d => decide (d < n) && (List.range i).all (fun j => decide (dstOf ops j ≠ d)) | none => false) | none => false) &&
  ((List.range ops.size).all fun i => match ops[i]? with | some o => o.after.all fun e => !Region.binds md e || decide (e.on < i) | none => true) &&
  (match ops[m]? with | some o => decide (ops.size = m + 1) && o.guard.isNone && (List.range m).all (fun j => o.after.any fun e => Region.binds md e && decide (e.on = j)) | none => true)
theorem wp_region_slotsW {id : Nat} {ops : Array Oper} {Q : Exit → Act → World → Prop} {G : Nat → Value → World → Prop} {S : Nat → World → Prop} {a0 : Act} {w0 : World} (hmo : P.follows .mixedOrders = true) (m n : Nat) (hn : a0.tmps.size = n) (hB : slotsW .any ops m n = true) (R : World → World → Prop)
    (hG : ∀ i v w w', G i v w → R w w' → G i v w') (hS : S ops.size w0.drew)
    (hstep : ∀ (i : Nat) (o : Oper) (a : Act) (w : World) (k : Nat) (K : Act → World → Prop), i < m → ops[i]? = some o → Same ops a0 a → (∀ e ∈ o.after, Region.binds .any e = true → G e.on (at_ a (dstOf ops e.on)) w) → S (k + 1) w →
      (∀ v w', R w w' → G i v w' → S k w' → K (a.put o.dst v) w') → o.wp P a w K Q)
    (hdone : ∀ a w, ops.size = m → Same ops a0 a → (∀ i, i < m → G i (at_ a (dstOf ops i)) w) → S 0 w → Q .normal a w)
    (hlast : ∀ (o : Oper) (a : Act) (w : World) (K : Act → World → Prop), ops[m]? = some o → Same ops a0 a → (∀ i, i < m → G i (at_ a (dstOf ops i)) w) → S 1 w → (∀ a' w', Q .normal a' w' → K a' w') → o.wp P a w K Q) :
    (Code.region id ops true).wp P Q a0 w0 := by
  unfold slotsW at hB
  simp only [Bool.and_eq_true, decide_eq_true_eq, List.all_eq_true, List.mem_range] at hB
  obtain ⟨⟨⟨h1, h2⟩, h3⟩, h4⟩ := hB
  have hord : ∀ (i : Nat) (o : Oper), i < m → ops[i]? = some o → o.guard = none ∧ o.dst = some (dstOf ops i) ∧ dstOf ops i < a0.tmps.size ∧ ∀ j, j < i → dstOf ops j ≠ dstOf ops i := fun i o hi ho => by
    have := h2 i hi
    rw [ho] at this
    simp only [Bool.and_eq_true] at this
    obtain ⟨g1, g2⟩ := this
    cases hd : o.dst with
    | none => rw [hd] at g2; cases g2
    | some d =>
      rw [hd] at g2
      simp only [Bool.and_eq_true, decide_eq_true_eq, List.all_eq_true, List.mem_range] at g2
      have e : dstOf ops i = d := by simp [dstOf, ho, hd]
      exact ⟨Option.isNone_iff_eq_none.1 g1, by rw [e], by rw [e, hn]; exact g2.1, fun j hj => by rw [e]; exact g2.2 j hj⟩
  refine wp_region_any hmo (wpAny_slotsB (ds := dstOf ops) (G := G) (S := S) (a0 := a0) R m h1 hG (fun i o hi ho => ⟨(hord i o hi ho).1, (hord i o hi ho).2.1, (hord i o hi ho).2.2.1⟩) (fun i j hi hj hne => ?_) (fun i o ho e he hb => ?_) (fun o ho => ?_) hstep hdone ?_ ops.size _ a0 _ ?_ ?_ ⟨by simp, ⟨rfl, rfl, fun _ _ => rfl⟩, fun i hi => ?_, ?_⟩)
  · rcases Nat.lt_or_gt_of_ne hne with h | h
    · exact (hord j _ hj (Array.getElem?_eq_getElem (by omega))).2.2.2 i h
    · exact fun e => (hord i _ hi (Array.getElem?_eq_getElem (by omega))).2.2.2 j h e.symm
  · have hi : i < ops.size := by
      rcases Nat.lt_or_ge i ops.size with h | h
      · exact h
      · rw [Array.getElem?_eq_none h] at ho; cases ho
    have := h3 i hi
    rw [ho] at this
    simp only [Array.all_eq_true'] at this
    have := this e he
    rw [hb] at this
    simpa using this
  · rw [ho] at h4
    simp only [Bool.and_eq_true, decide_eq_true_eq, List.all_eq_true, List.mem_range, Array.any_eq_true'] at h4
    refine ⟨h4.1.1, Option.isNone_iff_eq_none.1 h4.1.2, fun j hj => ?_⟩
    obtain ⟨e, he, hb, hq⟩ := h4.2 j hj
    exact ⟨e, he, hb, hq⟩
  · exact hlast
  · rw [openN_all]; exact Nat.le_refl _
  · exact getD_all _ _
  · rw [getD_all] at hi; cases hi
  · rw [openN_all]; exact hS
end Go.Proofs.YthbhgeifknkolaaDoor
