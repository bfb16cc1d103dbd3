import Derived.Test.YtbdicaanniffpabInQ
import Derived.Test.YtbdicaanniffpabUseSumS
/- What a space uses: its own things, and what the spaces in it use. -/
namespace Go.Proofs.Ytbdicaanniffpab
open Go Go.RowKit

theorem nx_self_no {l : List SpaceD} (hk : spsOk l = true) {x : ByteArray} {j : Nat} (hj : idxS l x = some j) (h : nxS l j = some j) : False := by
  have hend := sps_end hk x
  rw [hj] at hend
  have hc : after (nxS l) (some j) 1 = some j := by show after (nxS l) (nxS l j) 0 = some j; rw [h]; rfl
  have h1 := after_cycleQ hc l.length
  have h2 := (trail_end hend (show l.length ≤ 1 * l.length by omega)).2
  rw [h2] at h1
  cases h1
theorem idx_at {l : List SpaceD} (hk : spsOk l = true) {i : Nat} (hi : i < l.length) : idxS l l[i].1 = some i := by
  have := line_idx (sps_len hk).2.2 hi
  rwa [nmS_at hi] at this
theorem nx_lt {l : List SpaceD} {i j : Nat} (h : nxS l i = some j) : i < l.length := by
  rcases Nat.lt_or_ge i l.length with g | g
  · exact g
  · unfold nxS at h
    rw [List.getElem?_eq_none g] at h
    cases h
theorem in_child {l : List SpaceD} (hk : spsOk l = true) {x name : ByteArray} (h : inSp l x name = true) (hne : x ≠ name) : ∃ i, ∃ hi : i < l.length, l[i].2.1 = name ∧ inSp l x l[i].1 = true := by
  obtain ⟨p, j, hp, hj⟩ := (inSp_stepsQ hk).1 h
  cases p with
  | zero =>
    have e : idxS l x = some j := by cases hx : idxS l x with
      | none => rw [hx, after_none] at hp; cases hp
      | some i => rw [hx] at hp; exact hp
    exact absurd ((idxS_name e).symm.trans (idxS_name hj)) hne
  | succ p =>
    rw [after_succ] at hp
    obtain ⟨i, hi, hn⟩ := Option.bind_eq_some_iff.1 hp
    have hil := nx_lt hn
    rw [nxS_at hil] at hn
    exact ⟨i, hil, (idxS_name hn).symm.trans (idxS_name hj), (inSp_stepsQ hk).2 ⟨p, i, hi, idx_at hk hil⟩⟩
theorem child_in {l : List SpaceD} (hk : spsOk l = true) {name : ByteArray} {i j : Nat} (hi : i < l.length) (ho : l[i].2.1 = name) (hj : idxS l name = some j) : nxS l i = some j ∧ inSp l l[i].1 name = true := by
  have h1 : nxS l i = some j := by rw [nxS_at hi, ho, hj]
  exact ⟨h1, (inSp_stepsQ hk).2 ⟨1, j, by rw [idx_at hk hi]; show after (nxS l) (nxS l i) 0 = some j; rw [h1]; rfl, hj⟩⟩
theorem child_there {l : List SpaceD} (hk : spsOk l = true) {name : ByteArray} {i : Nat} (hi : i < l.length) (ho : l[i].2.1 = name) (hn : name ≠ ⟨#[]⟩) : ∃ j, idxS l name = some j := by
  cases h : idxS l name with
  | some j => exact ⟨j, rfl⟩
  | none =>
    exfalso
    have hnx : nxS l i = none := by rw [nxS_at hi, ho, h]
    have hk2 := hk
    unfold spsOk at hk2
    simp only [Bool.and_eq_true] at hk2
    have hu : upP l i = true := List.all_eq_true.1 hk2.1.1.2 i (List.mem_range.2 hi)
    unfold upP at hu
    rw [Bool.and_eq_true] at hu
    have h2 := of_decide_eq_true hu.2
    unfold upS at h2
    rw [line_idx (sps_len hk).2.2 hi] at h2
    have ht : trail (nxS l) (some i) 8 = [i] := by
      show i :: trail (nxS l) (nxS l i) 7 = [i]
      rw [hnx, trail_none]
    rw [ht] at h2
    have hall : nmS l i = allB := by simpa using h2
    rw [nmS_at hi] at hall
    have hs := line_ok (sps_len hk).2.2 hi
    unfold spOk at hs
    simp only [Bool.and_eq_true] at hs
    have h3 := hs.1.1.1.2
    rw [decide_eq_true hall] at h3
    have h4 : decide (l[i].2.1 = ⟨#[]⟩) = true := by simpa using h3
    exact hn (ho.symm.trans (of_decide_eq_true h4))
theorem child_lt {l : List SpaceD} (hk : spsOk l = true) {x name : ByteArray} {i k j p q : Nat} (hi : i < l.length) (hkl : k < l.length) (ho : l[i].2.1 = name) (hq : l[k].2.1 = name) (hj : idxS l name = some j)
    (h1 : after (nxS l) (idxS l x) p = some i) (h2 : after (nxS l) (idxS l x) q = some k) (hlt : p < q) : False := by
  have e1 : after (nxS l) (idxS l x) (p + 1) = some j := by rw [after_succ, h1]; exact (child_in hk hi ho hj).1
  obtain ⟨d, rfl⟩ : ∃ d, q = (p + 1) + d := ⟨q - (p + 1), by omega⟩
  rw [after_addQ, e1] at h2
  have h3 : inSp l name l[k].1 = true := (inSp_stepsQ hk).2 ⟨d, k, by rw [hj]; exact h2, idx_at hk hkl⟩
  have h4 := inSp_antiQ hk h3 (child_in hk hkl hq hj).2
  have h5 := idx_at hk hkl
  rw [← h4, hj] at h5
  cases h5
  exact nx_self_no hk hj (child_in hk hkl hq hj).1
theorem child_one {l : List SpaceD} (hk : spsOk l = true) {x name : ByteArray} (hn : name ≠ ⟨#[]⟩) {i k : Nat} (hi : i < l.length) (hkl : k < l.length) (ho : l[i].2.1 = name) (hq : l[k].2.1 = name) (h1 : inSp l x l[i].1 = true) (h2 : inSp l x l[k].1 = true) : i = k := by
  obtain ⟨j, hj⟩ := child_there hk hi ho hn
  obtain ⟨p, a, hp, ha⟩ := (inSp_stepsQ hk).1 h1
  obtain ⟨q, b, hq2, hb⟩ := (inSp_stepsQ hk).1 h2
  rw [idx_at hk hi] at ha
  rw [idx_at hk hkl] at hb
  cases ha
  cases hb
  rcases Nat.lt_trichotomy p q with h | h | h
  · exact (child_lt hk hi hkl ho hq hj hp hq2 h).elim
  · subst h
    rw [hp] at hq2
    exact Option.some.inj hq2
  · exact (child_lt hk hkl hi hq ho hj hq2 hp h).elim
theorem child_self {l : List SpaceD} (hk : spsOk l = true) {name : ByteArray} (hn : name ≠ ⟨#[]⟩) {i : Nat} (hi : i < l.length) (ho : l[i].2.1 = name) : inSp l name l[i].1 = false := by
  cases h : inSp l name l[i].1 with
  | false => rfl
  | true =>
    exfalso
    obtain ⟨j, hj⟩ := child_there hk hi ho hn
    have h4 := inSp_antiQ hk h (child_in hk hi ho hj).2
    have h5 := idx_at hk hi
    rw [← h4, hj] at h5
    cases h5
    exact nx_self_no hk hj (child_in hk hi ho hj).1
theorem sum_zero {α : Type} {f : α → Nat} : ∀ {l : List α}, (∀ s ∈ l, f s = 0) → (l.map f).sum = 0
  | [], _ => rfl
  | x :: l, h => by
    rw [List.map_cons, List.sum_cons, h x List.mem_cons_self, sum_zero (fun s hs => h s (List.mem_cons_of_mem _ hs))]
theorem sum_at {α : Type} {f : α → Nat} : ∀ {l : List α} {i : Nat} (hi : i < l.length), (∀ k (hk : k < l.length), k ≠ i → f l[k] = 0) → (l.map f).sum = f l[i]
  | [], _, hi, _ => absurd hi (by simp)
  | x :: l, 0, _, h => by
    rw [List.map_cons, List.sum_cons, sum_zero (fun s hs => ?_)]
    · simp
    · obtain ⟨k, hk, rfl⟩ := List.mem_iff_getElem.1 hs
      exact h (k + 1) (by simpa using hk) (by omega)
  | x :: l, i + 1, hi, h => by
    have e := h 0 (by simp) (by omega)
    rw [List.map_cons, List.sum_cons, sum_at (l := l) (i := i) (by simpa using hi) (fun k hk hne => h (k + 1) (by simpa using hk) (by omega))]
    simp only [List.getElem_cons_zero] at e
    rw [e]
    simp
def ofN (l : List SpaceD) (name x : ByteArray) (c : Nat) (s : SpaceD) : Nat := if s.2.1 = name ∧ inSp l x s.1 = true then c else 0
def ownC (l : List SpaceD) (name x : ByteArray) (c : Nat) : Nat := if x = name ∧ (idxS l name).isSome = true then c else 0
theorem adds_split {l : List SpaceD} (hk : spsOk l = true) {name : ByteArray} (hn : name ≠ ⟨#[]⟩) (x : ByteArray) (c : Nat) : (if inSp l x name then c else 0) = (l.map (ofN l name x c)).sum + ownC l name x c := by
  cases h : inSp l x name with
  | true =>
    obtain ⟨p, j, hp, hj⟩ := (inSp_stepsQ hk).1 h
    by_cases e : x = name
    · subst e
      rw [sum_zero (fun s hs => ?_)]
      · unfold ownC
        rw [hj]
        simp
      · obtain ⟨i, hi, rfl⟩ := List.mem_iff_getElem.1 hs
        unfold ofN
        rw [if_neg]
        rintro ⟨h1, h2⟩
        rw [child_self hk hn hi h1] at h2
        cases h2
    · obtain ⟨i, hi, ho, hin⟩ := in_child hk h e
      rw [sum_at hi (fun k hkl hne => ?_)]
      · have e1 : ofN l name x c l[i] = c := if_pos ⟨ho, hin⟩
        have e2 : ownC l name x c = 0 := if_neg (fun q => e q.1)
        rw [e1, e2]
        rfl
      · unfold ofN
        rw [if_neg]
        rintro ⟨h1, h2⟩
        exact hne (child_one hk hn hkl hi h1 ho h2 hin)
  | false =>
    rw [sum_zero (fun s hs => ?_)]
    · have e2 : ownC l name x c = 0 := if_neg (by
        rintro ⟨h1, h2⟩
        obtain ⟨j, hj⟩ := Option.isSome_iff_exists.1 h2
        subst h1
        have := (inSp_stepsQ hk).2 ⟨0, j, by rw [hj]; rfl, hj⟩
        rw [h] at this
        cases this)
      rw [e2]
      rfl
    · obtain ⟨i, hi, rfl⟩ := List.mem_iff_getElem.1 hs
      unfold ofN
      rw [if_neg]
      rintro ⟨h1, h2⟩
      obtain ⟨j, hj⟩ := child_there hk hi h1 hn
      have := inSp_transQ hk h2 (child_in hk hi h1 hj).2
      rw [h] at this
      cases this
/-- what the spaces in it use -/
def kidN (N : ByteArray → Nat) (name : ByteArray) (s : SpaceD) : Nat := if s.2.1 = name then N s.1 else 0
/-- what its own thing uses -/
def ownN (l : List SpaceD) (name : ByteArray) (t : ThingD) : Nat := ownC l name t.sp (1 + t.body.size)
theorem sum_add {α : Type} (f g : α → Nat) : ∀ (l : List α), (l.map fun s => f s + g s).sum = (l.map f).sum + (l.map g).sum
  | [] => rfl
  | x :: l => by
    rw [List.map_cons, List.sum_cons, sum_add f g l, List.map_cons, List.sum_cons, List.map_cons, List.sum_cons]
    omega
theorem sum_split {l : List SpaceD} (hk : spsOk l = true) {name : ByteArray} (hn : name ≠ ⟨#[]⟩) : ∀ (ths : List ThingD), (ths.map (addsN l name)).sum = (l.map (kidN (fun s => (ths.map (addsN l s)).sum) name)).sum + (ths.map (ownN l name)).sum
  | [] => by
    rw [sum_zero (l := l) (f := kidN _ name) (fun s _ => by unfold kidN; split <;> rfl)]
    rfl
  | t :: ths => by
    have ih := sum_split hk hn ths
    have e : (l.map (kidN (fun s => ((t :: ths).map (addsN l s)).sum) name)).sum = (l.map (ofN l name t.sp (1 + t.body.size))).sum + (l.map (kidN (fun s => (ths.map (addsN l s)).sum) name)).sum := by
      rw [← sum_add]
      congr 1
      refine List.map_congr_left fun s _ => ?_
      unfold kidN ofN
      by_cases ho : s.2.1 = name
      · simp only [ho, if_true, true_and, List.map_cons, List.sum_cons]
        unfold addsN
        rfl
      · simp [ho]
    rw [e, List.map_cons, List.sum_cons, ih, List.map_cons, List.sum_cons]
    have h1 : addsN l name t = (l.map (ofN l name t.sp (1 + t.body.size))).sum + ownN l name t := adds_split hk hn t.sp (1 + t.body.size)
    rw [h1]
    omega
def useA (l : List SpaceD) (ths : List ThingD) (name : ByteArray) : Nat := if spsOk l && ths.all thingB then sumTo (addsN l name) ths ths.length else 0
theorem useA_eq (l : List SpaceD) (ths : List ThingD) (name : ByteArray) : useSum l ths name = (useA l ths name : Nat) := by
  unfold useSum useA sumS
  split <;> rfl
theorem sumTo_all {α : Type} (f : α → Nat) (l : List α) : sumTo f l l.length = (l.map f).sum := by unfold sumTo; rw [List.take_length]
theorem use_split {l : List SpaceD} (hk : spsOk l = true) {name : ByteArray} (hn : name ≠ ⟨#[]⟩) {ths : List ThingD} (ha : ths.all thingB = true) :
    useA l ths name = sumTo (kidN (useA l ths) name) l l.length + sumTo (ownN l name) ths ths.length := by
  have e : ∀ s, useA l ths s = (ths.map (addsN l s)).sum := fun s => by unfold useA; rw [hk, ha, sumTo_all]; rfl
  rw [sumTo_all, sumTo_all, e, funext e]
  exact sum_split hk hn ths
theorem sumTo_max {α : Type} (f : α → Nat) (l : List α) (c : Nat) (h : ∀ s ∈ l, f s ≤ c) : ∀ k, sumTo f l k ≤ k * c
  | 0 => by rw [sumTo_zero]; omega
  | k + 1 => by
    by_cases hk : k < l.length
    · have := sumTo_max f l c h k
      have h2 := h _ (List.getElem_mem hk)
      rw [sumTo_succ _ _ k hk, Nat.add_mul]
      omega
    · have := sumTo_max f l c h k
      rw [show sumTo f l (k + 1) = sumTo f l k by unfold sumTo; rw [List.take_of_length_le (by omega), List.take_of_length_le (by omega)], Nat.add_mul]
      omega
end Go.Proofs.Ytbdicaanniffpab
