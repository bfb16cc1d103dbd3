import Derived.Test.YteejabpohnfoaaaDoorScanP
/- Laws of trimming and of looking at many: plain words. -/
namespace Go.Proofs.YteejabpohnfoaaaDoor
open Go Go.RowKit

/-- trimmed, entry by entry; last: the key that hides -/
def trimR (floor : Int) (bottom : Bool) : ByteArray → List EntryD → List EntryD
  | _, [] => []
  | last, e :: l => if e.1 = last then trimR floor bottom last l else if e.2.1 ≤ floor then (if (bottom && e.2.2.1) = true then trimR floor bottom e.1 l else e :: trimR floor bottom e.1 l) else e :: trimR floor bottom last l

theorem trimL_eq {l : List EntryD} {floor : Int} {bottom : Bool} (hs : ∀ j (hj : j + 1 < l.length), lessB (l[j]'(by omega)) l[j+1] = true) (hne : ∀ j (hj : j < l.length), l[j].1 ≠ ⟨#[]⟩) :
    trimL l floor bottom = trimR floor bottom ⟨#[]⟩ l := by
  have step : ∀ k, k ≤ l.length → ∃ last, lastOk l floor k last ∧ trimTo l floor bottom k ++ trimR floor bottom last (l.drop k) = trimR floor bottom ⟨#[]⟩ l := by
    intro k
    induction k with
    | zero => exact fun _ => ⟨⟨#[]⟩, lastOk_zero _ _, rfl⟩
    | succ k ih =>
      intro hk
      have hlt : k < l.length := by omega
      obtain ⟨last, hl, he⟩ := ih (by omega)
      have hn := last_next hs hne hlt hl
      have hh := last_hid hs hne hlt hl
      have hK := keepB_eq (l := l) (floor := floor) (bottom := bottom) hlt
      rw [hh] at hK
      refine ⟨_, hn, ?_⟩
      rw [← he, List.drop_eq_getElem_cons hlt]
      conv => rhs; rw [trimR]
      by_cases h1 : l[k].1 = last
      · rw [if_pos h1, if_pos h1, trim_skip hlt (by rw [hK]; simp [h1])]
      · rw [if_neg h1, if_neg h1]
        by_cases h2 : l[k].2.1 ≤ floor
        · rw [if_pos h2, if_pos h2]
          by_cases h3 : (bottom && l[k].2.2.1) = true
          · rw [if_pos h3, trim_skip hlt (by rw [hK]; simp [h1, h2, h3])]
          · rw [if_neg h3, trim_take hlt (by rw [hK]; simp [h1, h3]), List.append_assoc]; rfl
        · rw [if_neg h2, if_neg h2, trim_take hlt (by rw [hK]; simp [h1, h2]), List.append_assoc]; rfl
  obtain ⟨last, _, h⟩ := step l.length (Nat.le_refl _)
  rw [List.drop_length] at h
  rw [← h]
  simp [trimL, trimR]

theorem trimR_sub (floor : Int) (bottom : Bool) : ∀ (m : List EntryD) (last : ByteArray), (trimR floor bottom last m).Sublist m
  | [], _ => by simp [trimR]
  | e :: m, last => by
    have h1 := trimR_sub floor bottom m last
    have h2 := trimR_sub floor bottom m e.1
    unfold trimR
    split
    · exact h1.cons _
    · split
      · split
        · exact h2.cons _
        · exact h2.cons_cons _
      · exact h1.cons_cons _

/-- behind a key that is another one, in order, that key does not come again -/
theorem no_more {e : EntryD} {m : List EntryD} {t : ByteArray} (hs : ∀ x ∈ m, lessB e x = true) (ht : ∀ x ∈ e :: m, ltS x.1 t = false) (h : e.1 ≠ t) : ∀ x ∈ e :: m, x.1 ≠ t := by
  have h1 : ltS t e.1 = true := ltS_total (ht e List.mem_cons_self) h
  intro x hx
  rcases List.mem_cons.1 hx with rfl | hx
  · exact h
  · intro q
    have h2 := less_key (hs x hx)
    rw [q, h1] at h2
    cases h2

theorem scan_told {pre : ByteArray} {seq : Int} {t1 t2 : ByteArray} : ∀ (m : List EntryD), (∀ x ∈ m, x.1 ≠ t1) → (∀ x ∈ m, x.1 ≠ t2) → scanR pre seq t1 m = scanR pre seq t2 m
  | [], _, _ => rfl
  | e :: m, h1, h2 => by
    have ih := scan_told (pre := pre) (seq := seq) m (fun x hx => h1 x (List.mem_cons_of_mem _ hx)) (fun x hx => h2 x (List.mem_cons_of_mem _ hx))
    unfold scanR
    rw [decide_eq_false (h1 e List.mem_cons_self), decide_eq_false (h2 e List.mem_cons_self), ih]

theorem scan_skip1 {seq : Int} {told : ByteArray} {e : EntryD} {m : List EntryD} (h : seq < e.2.1 ∨ e.1 = told) : scanR ⟨#[]⟩ seq told (e :: m) = scanR ⟨#[]⟩ seq told m := by
  rw [scanR, if_pos]
  rcases h with h | h <;> simp [h]
theorem scan_take1 {seq : Int} {told : ByteArray} {e : EntryD} {m : List EntryD} (h : ¬ seq < e.2.1) (h2 : e.1 ≠ told) : scanR ⟨#[]⟩ seq told (e :: m) = if e.2.2.1 then scanR ⟨#[]⟩ seq e.1 m else e :: scanR ⟨#[]⟩ seq e.1 m := by
  rw [scanR, if_neg]
  simp [h2, starts_nil]
  omega

theorem trim_scan {floor seq : Int} {bottom : Bool} (hf : floor ≤ seq) : ∀ (m : List EntryD) (last told told' : ByteArray), PW m →
    (∀ x ∈ m, ltS x.1 last = false) → (∀ x ∈ m, ltS x.1 told = false) →
    ((told = told' ∧ ((∀ x ∈ m, x.1 ≠ last) ∨ told' = last)) ∨ (told' = last ∧ ∀ x ∈ m, x.1 ≠ told)) →
    scanR ⟨#[]⟩ seq told (trimR floor bottom last m) = scanR ⟨#[]⟩ seq told' m
  | [], _, _, _, _, _, _, _ => rfl
  | e :: m, last, told, told', hs, hl, ht, inv => by
    obtain ⟨hs1, hs2⟩ := List.pairwise_cons.1 hs
    have hl' : ∀ x ∈ m, ltS x.1 last = false := fun x hx => hl x (List.mem_cons_of_mem _ hx)
    have ht' : ∀ x ∈ m, ltS x.1 told = false := fun x hx => ht x (List.mem_cons_of_mem _ hx)
    have he' : ∀ x ∈ m, ltS x.1 e.1 = false := fun x hx => less_key (hs1 x hx)
    by_cases h1 : e.1 = last
    · have hq : told' = last := by
        rcases inv with ⟨_, h | h⟩ | ⟨h, _⟩
        · exact absurd h1 (h e List.mem_cons_self)
        · exact h
        · exact h
      rw [trimR, if_pos h1, scan_skip1 (.inr (h1.trans hq.symm))]
      refine trim_scan hf m last told told' hs2 hl' ht' ?_
      rcases inv with ⟨h, _⟩ | ⟨_, h⟩
      · exact .inl ⟨h, .inr hq⟩
      · exact .inr ⟨hq, fun x hx => h x (List.mem_cons_of_mem _ hx)⟩
    · have hnl := no_more hs1 hl h1
      have heq : scanR ⟨#[]⟩ seq told' (e :: m) = scanR ⟨#[]⟩ seq told (e :: m) := by
        rcases inv with ⟨h, _⟩ | ⟨h, h2⟩
        · rw [h]
        · rw [h]; exact scan_told _ hnl h2
      rw [heq]
      clear heq inv
      have tail : ∀ {t : ByteArray}, (∀ x ∈ e :: m, x.1 ≠ t) → ∀ x ∈ m, x.1 ≠ t := fun h x hx => h x (List.mem_cons_of_mem _ hx)
      rw [trimR, if_neg h1]
      by_cases hq : seq < e.2.1
      · rw [if_neg (by omega), scan_skip1 (.inl hq), scan_skip1 (.inl hq)]
        exact trim_scan hf m last told told hs2 hl' ht' (.inl ⟨rfl, .inl (tail hnl)⟩)
      · by_cases h2 : e.1 = told
        · rw [scan_skip1 (m := m) (.inr h2)]
          by_cases h3 : e.2.1 ≤ floor
          · rw [if_pos h3]
            have ih := trim_scan (bottom := bottom) hf m e.1 told told hs2 he' ht' (.inl ⟨rfl, .inr h2.symm⟩)
            split
            · exact ih
            · rw [scan_skip1 (.inr h2)]; exact ih
          · rw [if_neg h3, scan_skip1 (.inr h2)]
            exact trim_scan hf m last told told hs2 hl' ht' (.inl ⟨rfl, .inl (tail hnl)⟩)
        · have hnt := no_more hs1 ht h2
          rw [scan_take1 (m := m) hq h2]
          by_cases h3 : e.2.1 ≤ floor
          · rw [if_pos h3]
            by_cases h4 : (bottom && e.2.2.1) = true
            · rw [if_pos h4, if_pos (by simp at h4; exact h4.2)]
              exact trim_scan hf m e.1 told e.1 hs2 he' ht' (.inr ⟨rfl, tail hnt⟩)
            · rw [if_neg h4, scan_take1 hq h2, trim_scan hf m e.1 e.1 e.1 hs2 he' he' (.inl ⟨rfl, .inr rfl⟩)]
          · rw [if_neg h3, scan_take1 hq h2, trim_scan hf m last e.1 e.1 hs2 hl' he' (.inl ⟨rfl, .inl (tail hnl)⟩)]

theorem trim_idem {floor : Int} {bottom : Bool} : ∀ (m : List EntryD) (last last' : ByteArray), PW m →
    (∀ x ∈ m, ltS x.1 last' = false) → (last' = last ∨ ∀ x ∈ m, x.1 ≠ last') →
    trimR floor bottom last' (trimR floor bottom last m) = trimR floor bottom last m
  | [], _, _, _, _, _ => rfl
  | e :: m, last, last', hs, hl, inv => by
    obtain ⟨hs1, hs2⟩ := List.pairwise_cons.1 hs
    have hl' : ∀ x ∈ m, ltS x.1 last' = false := fun x hx => hl x (List.mem_cons_of_mem _ hx)
    have he' : ∀ x ∈ m, ltS x.1 e.1 = false := fun x hx => less_key (hs1 x hx)
    have inv' : last' = last ∨ ∀ x ∈ m, x.1 ≠ last' := inv.imp id (fun h x hx => h x (List.mem_cons_of_mem _ hx))
    by_cases h1 : e.1 = last
    · rw [trimR, if_pos h1]
      exact trim_idem m last last' hs2 hl' inv'
    · have h2 : e.1 ≠ last' := by
        rcases inv with h | h
        · rw [h]; exact h1
        · exact h e List.mem_cons_self
      have hn := no_more hs1 hl h2
      conv => lhs; rw [trimR, if_neg h1]
      conv => rhs; rw [trimR, if_neg h1]
      by_cases h3 : e.2.1 ≤ floor
      · rw [if_pos h3]
        by_cases h4 : (bottom && e.2.2.1) = true
        · rw [if_pos h4]
          exact trim_idem m e.1 last' hs2 hl' (.inr (fun x hx => hn x (List.mem_cons_of_mem _ hx)))
        · rw [if_neg h4, trimR, if_neg h2, if_pos h3, if_neg h4, trim_idem m e.1 e.1 hs2 he' (.inl rfl)]
      · rw [if_neg h3, trimR, if_neg h2, if_neg h3, trim_idem m last last' hs2 hl' inv']

theorem entsB_of {l : List EntryD} (h1 : l.length ≤ 240) (h2 : ∀ x ∈ l, entB x = true) (h3 : PW l) : entsB l = true := by
  have h4 := List.pairwise_iff_getElem.1 h3
  simp only [entsB, Bool.and_eq_true, decide_eq_true_eq, okTo, List.all_eq_true, List.mem_range]
  refine ⟨h1, fun k hk => ?_⟩
  rcases k with _ | k
  · rw [okAt_zero (List.getElem?_eq_getElem hk)]; exact h2 _ (List.getElem_mem _)
  · rw [okAt_succ (List.getElem?_eq_getElem (by omega)) (List.getElem?_eq_getElem hk), Bool.and_eq_true]
    exact ⟨h2 _ (List.getElem_mem _), h4 k (k + 1) (by omega) hk (by omega)⟩
theorem entsB_all {l : List EntryD} (h : entsB l = true) : l.length ≤ 240 ∧ (∀ x ∈ l, entB x = true) ∧ PW l := by
  obtain ⟨h1, h2, h3⟩ := entsB_at h
  exact ⟨h1, fun x hx => by obtain ⟨j, hj, rfl⟩ := List.getElem_of_mem hx; exact h2 j hj, pw_of h3⟩

/-- trimmed entries are ok -/
theorem trim_ok {l : List EntryD} {floor : Int} {bottom : Bool} (h : entsB l = true) : entsB (trimL l floor bottom) = true := by
  obtain ⟨h1, h2, h3⟩ := entsB_all h
  rw [trimL_eq (entsB_at h).2.2 (ents_ne h)]
  have hsub := trimR_sub floor bottom l ⟨#[]⟩
  exact entsB_of (Nat.le_trans hsub.length_le h1) (fun x hx => h2 x (hsub.subset hx)) (h3.sublist hsub)
theorem nil_le (x : ByteArray) : ltS x ⟨#[]⟩ = false := by
  unfold ltS
  rw [ByteArray.toList_eq, ByteArray.toList_eq]
  cases x.data.toList <;> rfl
theorem trim_twice {l : List EntryD} {floor : Int} {bottom : Bool} (h : entsB l = true) : trimL (trimL l floor bottom) floor bottom = trimL l floor bottom := by
  have h2 := trim_ok (floor := floor) (bottom := bottom) h
  rw [trimL_eq (entsB_at h2).2.2 (ents_ne h2), trimL_eq (entsB_at h).2.2 (ents_ne h)]
  exact trim_idem _ _ _ (entsB_all h).2.2 (fun x _ => nil_le _) (.inl rfl)
theorem trim_seen {l : List EntryD} {floor seq : Int} {bottom : Bool} (h : entsB l = true) (hf : floor ≤ seq) : scanV (trimL l floor bottom) ⟨#[]⟩ seq = scanV l ⟨#[]⟩ seq := by
  rw [scanV_yes (trim_ok h), scanV_yes h, trimL_eq (entsB_at h).2.2 (ents_ne h)]
  exact trim_scan hf _ _ _ _ (entsB_all h).2.2 (fun x _ => nil_le _) (fun x _ => nil_le _) (.inl ⟨rfl, .inr rfl⟩)

theorem trimR_live {floor : Int} : ∀ (m : List EntryD) (last : ByteArray), ∀ x ∈ trimR floor true last m, x.2.1 ≤ floor → x.2.2.1 = false
  | [], _, x, hx, _ => by simp [trimR] at hx
  | e :: m, last, x, hx, hf => by
    unfold trimR at hx
    split at hx
    · exact trimR_live m _ x hx hf
    · split at hx
      · split at hx
        · exact trimR_live m _ x hx hf
        · rename_i h3
          rcases List.mem_cons.1 hx with rfl | hx
          · simpa using h3
          · exact trimR_live m _ x hx hf
      · rename_i h2
        rcases List.mem_cons.1 hx with rfl | hx
        · exact absurd hf h2
        · exact trimR_live m _ x hx hf
theorem trimR_ne {floor : Int} {bottom : Bool} : ∀ (m : List EntryD) (last : ByteArray), PW m → (∀ x ∈ m, ltS x.1 last = false) → ∀ x ∈ trimR floor bottom last m, x.1 ≠ last
  | [], _, _, _, x, hx => by simp [trimR] at hx
  | e :: m, last, hs, hl, x, hx => by
    obtain ⟨hs1, hs2⟩ := List.pairwise_cons.1 hs
    by_cases h1 : e.1 = last
    · rw [trimR, if_pos h1] at hx
      exact trimR_ne m last hs2 (fun y hy => hl y (List.mem_cons_of_mem _ hy)) x hx
    · exact no_more hs1 hl h1 x ((trimR_sub floor bottom (e :: m) last).subset hx)
theorem trimR_apart {floor : Int} {bottom : Bool} : ∀ (m : List EntryD) (last : ByteArray), PW m → (trimR floor bottom last m).Pairwise (fun a b => ¬ (a.1 = b.1 ∧ a.2.1 ≤ floor))
  | [], _, _ => by simp [trimR]
  | e :: m, last, hs => by
    obtain ⟨hs1, hs2⟩ := List.pairwise_cons.1 hs
    have he' : ∀ x ∈ m, ltS x.1 e.1 = false := fun x hx => less_key (hs1 x hx)
    unfold trimR
    split
    · exact trimR_apart m _ hs2
    · split
      · split
        · exact trimR_apart m _ hs2
        · exact List.pairwise_cons.2 ⟨fun x hx h => trimR_ne m e.1 hs2 he' x hx h.1.symm, trimR_apart m _ hs2⟩
      · rename_i h2
        exact List.pairwise_cons.2 ⟨fun x hx h => h2 h.2, trimR_apart m _ hs2⟩
theorem bottom_live {l : List EntryD} {floor : Int} (h : entsB l = true) (i : Nat) (hi : i < (trimL l floor true).length) (hf : (trimL l floor true)[i].2.1 ≤ floor) : (trimL l floor true)[i].2.2.1 = false := by
  have hm : (trimL l floor true)[i] ∈ trimR floor true ⟨#[]⟩ l := by rw [← trimL_eq (entsB_at h).2.2 (ents_ne h)]; exact List.getElem_mem _
  exact trimR_live l _ _ hm hf
theorem bottom_apart {l : List EntryD} {floor : Int} {bottom : Bool} (h : entsB l = true) (i : Nat) (hi : i + 1 < (trimL l floor bottom).length) : ¬ ((trimL l floor bottom)[i].1 = (trimL l floor bottom)[i+1].1 ∧ (trimL l floor bottom)[i].2.1 ≤ floor) := by
  have hp : (trimL l floor bottom).Pairwise (fun a b => ¬ (a.1 = b.1 ∧ a.2.1 ≤ floor)) := by
    rw [trimL_eq (entsB_at h).2.2 (ents_ne h)]; exact trimR_apart _ _ (entsB_all h).2.2
  exact List.pairwise_iff_getElem.1 hp i (i + 1) (by omega) hi (by omega)

/-- what a look at many tells is what its key has -/
theorem scan_get {pre : ByteArray} {seq : Int} {x : EntryD} : ∀ (m : List EntryD) (told : ByteArray), PW m → (∀ y ∈ m, ltS y.1 told = false) → x ∈ scanR pre seq told m →
    x.1 ≠ told ∧ getE m x.1 seq = some x ∧ x.2.2.1 = false ∧ startsB x.1 pre = true
  | [], _, _, _, h => by simp [scanR] at h
  | e :: m, told, hs, ht, h => by
    obtain ⟨hs1, hs2⟩ := List.pairwise_cons.1 hs
    have ht' : ∀ x ∈ m, ltS x.1 told = false := fun x hx => ht x (List.mem_cons_of_mem _ hx)
    have he' : ∀ x ∈ m, ltS x.1 e.1 = false := fun x hx => less_key (hs1 x hx)
    by_cases h1 : (decide (seq < e.2.1) || decide (e.1 = told) || !startsB e.1 pre) = true
    · rw [scanR, if_pos h1] at h
      obtain ⟨g1, g2, g3, g4⟩ := scan_get m told hs2 ht' h
      refine ⟨g1, ?_, g3, g4⟩
      have hno : tells x.1 seq e = false := by
        simp only [Bool.or_eq_true, decide_eq_true_eq, Bool.not_eq_true'] at h1
        cases hc : tells x.1 seq e with
        | false => rfl
        | true =>
          simp only [tells, Bool.and_eq_true, decide_eq_true_eq] at hc
          rcases h1 with (h1 | h1) | h1
          · omega
          · exact absurd (hc.1.symm.trans h1) g1
          · rw [hc.1, g4] at h1; cases h1
      unfold getE at g2 ⊢
      rw [List.find?_cons_of_neg (by simp [hno])]
      exact g2
    · rw [scanR, if_neg h1] at h
      simp only [Bool.or_eq_true, decide_eq_true_eq, Bool.not_eq_true', not_or] at h1
      have hnt := no_more hs1 ht h1.1.2
      have rest : x ∈ scanR pre seq e.1 m → x.1 ≠ told ∧ getE (e :: m) x.1 seq = some x ∧ x.2.2.1 = false ∧ startsB x.1 pre = true := fun h => by
        obtain ⟨g1, g2, g3, g4⟩ := scan_get m e.1 hs2 he' h
        refine ⟨hnt x (List.mem_cons_of_mem _ (scanR_mem h)), ?_, g3, g4⟩
        unfold getE at g2 ⊢
        rw [List.find?_cons_of_neg (by simp [tells, Ne.symm g1])]
        exact g2
      split at h
      · exact rest h
      · rename_i hd
        rcases List.mem_cons.1 h with rfl | h
        · refine ⟨h1.1.2, ?_, by simpa using hd, by simpa using h1.2⟩
          unfold getE
          rw [List.find?_cons_of_pos]
          simp only [tells, decide_true, Bool.true_and, decide_eq_true_eq]
          omega
        · exact rest h
theorem scan_asc {pre : ByteArray} {seq : Int} : ∀ (m : List EntryD) (told : ByteArray), PW m → (scanR pre seq told m).Pairwise (fun a b => ltS a.1 b.1 = true)
  | [], _, _ => by simp [scanR]
  | e :: m, told, hs => by
    obtain ⟨hs1, hs2⟩ := List.pairwise_cons.1 hs
    have he' : ∀ x ∈ m, ltS x.1 e.1 = false := fun x hx => less_key (hs1 x hx)
    unfold scanR
    split
    · exact scan_asc m _ hs2
    · split
      · exact scan_asc m _ hs2
      · refine List.pairwise_cons.2 ⟨fun x hx => ?_, scan_asc m _ hs2⟩
        exact ltS_total (he' x (scanR_mem hx)) (scan_get m e.1 hs2 he' hx).1
/-- what a key has, and begins so, a look at many tells -/
theorem scan_has {pre key : ByteArray} {seq : Int} {x : EntryD} : ∀ (m : List EntryD) (told : ByteArray), getE m key seq = some x → key ≠ told → x.2.2.1 = false → startsB key pre = true → x ∈ scanR pre seq told m
  | [], _, h, _, _, _ => by simp [getE] at h
  | e :: m, told, h, hk, hd, hp => by
    by_cases h0 : tells key seq e = true
    · unfold getE at h
      rw [List.find?_cons_of_pos h0] at h
      obtain rfl : e = x := by simpa using h
      simp only [tells, Bool.and_eq_true, decide_eq_true_eq] at h0
      rw [scanR, if_neg (by simp [h0.1, hk, hp]; omega), if_neg (by simp [hd])]
      exact List.mem_cons_self
    · have h' : getE m key seq = some x := by
        unfold getE at h ⊢
        rwa [List.find?_cons_of_neg h0] at h
      unfold scanR
      split
      · exact scan_has m told h' hk hd hp
      · rename_i h1
        simp only [Bool.or_eq_true, decide_eq_true_eq, Bool.not_eq_true', not_or] at h1
        have hke : key ≠ e.1 := fun q => h0 (by simp only [tells, Bool.and_eq_true, decide_eq_true_eq]; exact ⟨q.symm, by omega⟩)
        split
        · exact scan_has m e.1 h' hke hd hp
        · exact List.mem_cons_of_mem _ (scan_has m e.1 h' hke hd hp)

theorem nodup_len {α : Type} [DecidableEq α] : ∀ (a b : List α), a.Nodup → (∀ x ∈ a, x ∈ b) → a.length ≤ b.length
  | [], _, _, _ => Nat.zero_le _
  | x :: a, b, hn, h => by
    obtain ⟨h1, h2⟩ := List.nodup_cons.1 hn
    have hx := h x List.mem_cons_self
    have ih := nodup_len a (b.erase x) h2 (fun y hy => (List.mem_erase_of_ne (by intro q; subst q; exact h1 hy)).2 (h y (List.mem_cons_of_mem _ hy)))
    rw [List.length_erase_of_mem hx] at ih
    have := List.length_pos_of_mem hx
    simp
    omega

/-- the keys, each once -/
def keysR : ByteArray → List EntryD → List ByteArray
  | _, [] => []
  | last, e :: m => if e.1 = last then keysR e.1 m else e.1 :: keysR e.1 m
/-- how many keys have something, and begin so -/
def cntR (q : ByteArray → Bool) : ByteArray → List EntryD → Nat
  | _, [] => 0
  | last, e :: m => (if e.1 ≠ last ∧ q e.1 = true then 1 else 0) + cntR q e.1 m
theorem cntR_eq (q : ByteArray → Bool) : ∀ (m : List EntryD) (last : ByteArray), cntR q last m = ((keysR last m).filter q).length
  | [], _ => rfl
  | e :: m, last => by
    have ih := cntR_eq q m e.1
    unfold cntR keysR
    rw [ih]
    by_cases h : e.1 = last
    · simp [h]
    · cases hq : q e.1 with
      | true => simp [h, hq]; omega
      | false => simp [h, hq]
theorem keysR_mem {k : ByteArray} : ∀ (m : List EntryD) (last : ByteArray), k ∈ keysR last m → ∃ e ∈ m, e.1 = k
  | [], _, h => by simp [keysR] at h
  | e :: m, last, h => by
    have ih := keysR_mem (k := k) m e.1
    unfold keysR at h
    split at h
    · obtain ⟨x, hx, hk⟩ := ih h; exact ⟨x, List.mem_cons_of_mem _ hx, hk⟩
    · rcases List.mem_cons.1 h with h | h
      · exact ⟨e, List.mem_cons_self, h.symm⟩
      · obtain ⟨x, hx, hk⟩ := ih h; exact ⟨x, List.mem_cons_of_mem _ hx, hk⟩
theorem keysR_has : ∀ (m : List EntryD) (last : ByteArray), ∀ e ∈ m, e.1 ≠ last → e.1 ∈ keysR last m
  | [], _, e, h, _ => by simp at h
  | x :: m, last, e, h, hn => by
    unfold keysR
    rcases List.mem_cons.1 h with rfl | h
    · rw [if_neg hn]; exact List.mem_cons_self
    · by_cases hx : e.1 = x.1
      · rw [if_neg (fun q => hn (hx.trans q)), hx]; exact List.mem_cons_self
      · have ih := keysR_has m x.1 e h hx
        split
        · exact ih
        · exact List.mem_cons_of_mem _ ih
theorem keysR_ne : ∀ (m : List EntryD) (last : ByteArray), PW m → (∀ x ∈ m, ltS x.1 last = false) → ∀ k ∈ keysR last m, k ≠ last
  | [], _, _, _, k, h => by simp [keysR] at h
  | e :: m, last, hs, hl, k, h => by
    obtain ⟨hs1, hs2⟩ := List.pairwise_cons.1 hs
    by_cases h1 : e.1 = last
    · rw [keysR, if_pos h1] at h
      subst h1
      exact keysR_ne m e.1 hs2 (fun x hx => less_key (hs1 x hx)) k h
    · obtain ⟨x, hx, rfl⟩ := keysR_mem _ _ h
      exact no_more hs1 hl h1 x hx
theorem keysR_nodup : ∀ (m : List EntryD) (last : ByteArray), PW m → (keysR last m).Nodup
  | [], _, _ => by simp [keysR]
  | e :: m, last, hs => by
    obtain ⟨hs1, hs2⟩ := List.pairwise_cons.1 hs
    have ih := keysR_nodup m e.1 hs2
    unfold keysR
    split
    · exact ih
    · exact List.nodup_cons.2 ⟨fun h => keysR_ne m e.1 hs2 (fun x hx => less_key (hs1 x hx)) _ h rfl, ih⟩

/-- as many as are told -/
theorem scan_count {l : List EntryD} {pre : ByteArray} {seq : Int} (h : entsB l = true) : cntR (fun k => getB l k seq && startsB k pre) ⟨#[]⟩ l = (scanR pre seq ⟨#[]⟩ l).length := by
  obtain ⟨_, h2, h3⟩ := entsB_all h
  rw [cntR_eq]
  have e : (scanR pre seq ⟨#[]⟩ l).length = ((scanR pre seq ⟨#[]⟩ l).map (·.1)).length := by simp
  rw [e]
  have nd : ((scanR pre seq ⟨#[]⟩ l).map (·.1)).Nodup := by
    have := scan_asc (pre := pre) (seq := seq) l ⟨#[]⟩ h3
    rw [List.Nodup, List.pairwise_map]
    exact this.imp (fun {a b} hab q => by rw [q, ltS_irrefl] at hab; cases hab)
  apply Nat.le_antisymm
  · apply nodup_len _ _ ((keysR_nodup l _ h3).filter _)
    intro k hk
    obtain ⟨hk1, hk2⟩ := List.mem_filter.1 hk
    simp only [Bool.and_eq_true] at hk2
    obtain ⟨x, hx, hxk⟩ := keysR_mem _ _ hk1
    cases hg : getE l k seq with
    | none => simp [getB, hg, optB] at hk2
    | some y =>
      have hy : y.1 = k := by
        have := List.find?_some hg
        simp only [tells, Bool.and_eq_true, decide_eq_true_eq] at this
        exact this.1
      have hd : y.2.2.1 = false := by simpa [getB, hg, optB] using hk2.1
      have hkn : k ≠ ⟨#[]⟩ := by rw [← hxk]; exact entB_key (h2 x hx)
      exact List.mem_map.2 ⟨y, scan_has l _ hg hkn hd hk2.2, hy⟩
  · apply nodup_len _ _ nd
    intro k hk
    obtain ⟨x, hx, rfl⟩ := List.mem_map.1 hk
    obtain ⟨g1, g2, g3, g4⟩ := scan_get l _ h3 (fun y _ => nil_le _) hx
    refine List.mem_filter.2 ⟨keysR_has l _ x (scanR_mem hx) g1, ?_⟩
    simp [getB, g2, optB, g3, g4]
end Go.Proofs.YteejabpohnfoaaaDoor
