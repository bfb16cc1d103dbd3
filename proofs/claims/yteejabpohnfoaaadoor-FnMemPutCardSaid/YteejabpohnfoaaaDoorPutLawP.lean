import Derived.Test.YteejabpohnfoaaaDoorMemAll
import Derived.Test.YteejabpohnfoaaaDoorLawsP
/- What one entry more does to what is told: plain words. -/
namespace Go.Proofs.YteejabpohnfoaaaDoor
open Go Go.RowKit

theorem entsB_mk {l : List EntryD} (h1 : l.length ≤ 240) (h2 : ∀ x ∈ l, entB x = true) (h3 : SrtL l) : entsB l = true := by
  unfold entsB okTo
  rw [Bool.and_eq_true, decide_eq_true_eq, List.all_eq_true]
  refine ⟨h1, fun j hj => ?_⟩
  have hj := List.mem_range.1 hj
  cases j with
  | zero => rw [okAt_zero (List.getElem?_eq_getElem hj)]; exact h2 _ (List.getElem_mem _)
  | succ j =>
    rw [okAt_succ (List.getElem?_eq_getElem (by omega)) (List.getElem?_eq_getElem hj), h2 _ (List.getElem_mem _)]
    exact List.pairwise_iff_getElem.1 h3 j (j + 1) (by omega) hj (by omega)
theorem entsB_each {l : List EntryD} (h : entsB l = true) : ∀ x ∈ l, entB x = true := by
  intro x hx
  obtain ⟨j, hj, rfl⟩ := List.getElem_of_mem hx
  exact (entsB_at h).2.1 j hj
theorem mem_put {L : List EntryD} {e x : EntryD} : x ∈ putE L e ↔ x = e ∨ x ∈ L := by
  refine ⟨putE_mem, fun h => ?_⟩
  have hs : L.takeWhile (fun x => lessB x e) ++ L.dropWhile (fun x => lessB x e) = L := List.takeWhile_append_dropWhile
  unfold putE
  rcases h with rfl | h
  · exact List.mem_append_right _ List.mem_cons_self
  · rw [← hs] at h
    rcases List.mem_append.1 h with h | h
    · exact List.mem_append_left _ h
    · exact List.mem_append_right _ (List.mem_cons_of_mem _ h)
theorem putOk_parts {l : List EntryD} {e : EntryD} (h : putOk l e = true) : entsB l = true ∧ entB e = true ∧ l.length < 240 ∧ hasE l e = false := by
  unfold putOk at h
  simp only [Bool.and_eq_true, decide_eq_true_eq, Bool.not_eq_true'] at h
  exact ⟨h.1.1.1, h.1.1.2, h.1.2, h.2⟩
theorem putOk_of {l : List EntryD} {e : EntryD} (h1 : entsB l = true) (h2 : entB e = true) (h3 : l.length < 240) (h4 : hasE l e = false) : putOk l e = true := by
  unfold putOk
  rw [h1, h2, h4, decide_eq_true h3]
  rfl
theorem put_ents {l : List EntryD} {e : EntryD} (h : putOk l e = true) : entsB (putE l e) = true := by
  obtain ⟨h1, h2, h3, h4⟩ := putOk_parts h
  refine entsB_mk (by rw [putE_len]; omega) (fun x hx => ?_) (srt_put (srt_of h1) h4)
  rcases putE_mem hx with rfl | hx
  · exact h2
  · exact entsB_each h1 x hx
/-- what does not tell does not matter -/
theorem get_put_no {L : List EntryD} {e : EntryD} {key : ByteArray} {seq : Int} (h : tells key seq e = false) : getE (putE L e) key seq = getE L key seq := by
  have hs : L.takeWhile (fun x => lessB x e) ++ L.dropWhile (fun x => lessB x e) = L := List.takeWhile_append_dropWhile
  unfold getE putE
  rw [List.find?_append, List.find?_cons_of_neg (by rw [h]; exact Bool.false_ne_true), ← List.find?_append, hs]
theorem get_put_yes (L : List EntryD) (e : EntryD) : getE (putE L e) e.1 e.2.1 = some e := by
  have h0 : (L.takeWhile (fun x => lessB x e)).find? (tells e.1 e.2.1) = none := by
    rw [List.find?_eq_none]
    intro x hx
    have h := tw_all L e x hx
    unfold lessB at h
    unfold tells
    rw [Bool.or_eq_true] at h
    rcases h with h | h
    · rw [decide_eq_false (fun q : x.1 = e.1 => by rw [q, ltS_irrefl] at h; cases h)]
      simp
    · rw [Bool.and_eq_true, decide_eq_true_eq, decide_eq_true_eq] at h
      rw [decide_eq_false (fun q : x.2.1 ≤ e.2.1 => by omega)]
      simp
  unfold getE putE
  rw [List.find?_append, h0, List.find?_cons_of_pos (by unfold tells; simp)]
  rfl
theorem getVV_yes {l : List EntryD} {key : ByteArray} {seq : Int} {o : Option EntryD} (h : entsB l = true) (g : getE l key seq = o) : getVV l key seq = optV o ∧ getBB l key seq = optB o := by
  unfold getVV getBB getV getB
  rw [if_pos h, if_pos h, g]
  exact ⟨rfl, rfl⟩
theorem put_seen {L : List EntryD} {e : EntryD} (h : putOk L e = true) : getVV (putE L e) e.1 e.2.1 = e.2.2.2 ∧ getBB (putE L e) e.1 e.2.1 = !e.2.2.1 := getVV_yes (put_ents h) (get_put_yes L e)
theorem put_else {L : List EntryD} {e : EntryD} (h : putOk L e = true) {key : ByteArray} {seq : Int} (hn : tells key seq e = false) : getVV (putE L e) key seq = getVV L key seq ∧ getBB (putE L e) key seq = getBB L key seq := by
  obtain ⟨h1, h2⟩ := getVV_yes (put_ents h) (get_put_no (L := L) hn)
  obtain ⟨h3, h4⟩ := getVV_yes (putOk_parts h).1 (rfl : getE L key seq = getE L key seq)
  exact ⟨h1.trans h3.symm, h2.trans h4.symm⟩
theorem tells_old (e : EntryD) : tells e.1 (e.2.1 - 1) e = false := by
  unfold tells
  rw [decide_eq_false (fun q : e.2.1 ≤ e.2.1 - 1 => by omega)]
  simp
theorem tells_zz {e : EntryD} (h : e.1 ≠ ⟨#[122, 122]⟩) (seq : Int) : tells ⟨#[122, 122]⟩ seq e = false := by
  unfold tells
  rw [decide_eq_false h]
  rfl
/-- in order, and with the same members: the same -/
theorem srt_ext : ∀ {a b : List EntryD}, SrtL a → SrtL b → (∀ x, x ∈ a ↔ x ∈ b) → a = b
  | [], [], _, _, _ => rfl
  | [], y :: b, _, _, h => absurd ((h y).2 List.mem_cons_self) (by simp)
  | x :: a, [], _, _, h => absurd ((h x).1 List.mem_cons_self) (by simp)
  | x :: a, y :: b, ha, hb, h => by
    have pa := List.pairwise_cons.1 ha
    have pb := List.pairwise_cons.1 hb
    have e : x = y := by
      rcases List.mem_cons.1 ((h x).1 List.mem_cons_self) with e | hx
      · exact e
      · rcases List.mem_cons.1 ((h y).2 List.mem_cons_self) with e | hy
        · exact e.symm
        · have h1 := pb.1 x hx
          have h2 := pa.1 y hy
          rw [lessB_asymm h1] at h2
          cases h2
    subst e
    refine congrArg _ (srt_ext pa.2 pb.2 fun z => ⟨fun hz => ?_, fun hz => ?_⟩)
    · rcases List.mem_cons.1 ((h z).1 (List.mem_cons_of_mem _ hz)) with e | hz2
      · subst e
        have := pa.1 z hz
        rw [lessB_irrefl] at this
        cases this
      · exact hz2
    · rcases List.mem_cons.1 ((h z).2 (List.mem_cons_of_mem _ hz)) with e | hz2
      · subst e
        have := pb.1 z hz
        rw [lessB_irrefl] at this
        cases this
      · exact hz2
theorem has_put (L : List EntryD) (e f : EntryD) : hasE (putE L e) f = (isE f e || hasE L f) := by
  rw [Bool.eq_iff_iff]
  unfold hasE
  rw [Bool.or_eq_true, List.any_eq_true, List.any_eq_true]
  constructor
  · rintro ⟨x, hx, hq⟩
    rcases mem_put.1 hx with rfl | hx
    · exact .inl hq
    · exact .inr ⟨x, hx, hq⟩
  · rintro (hq | ⟨x, hx, hq⟩)
    · exact ⟨e, mem_put.2 (.inl rfl), hq⟩
    · exact ⟨x, mem_put.2 (.inr hx), hq⟩
theorem isE_comm (a b : EntryD) : isE a b = isE b a := by
  unfold isE
  rw [show decide (b.1 = a.1) = decide (a.1 = b.1) from by rw [Bool.eq_iff_iff]; simp [eq_comm], show decide (b.2.1 = a.2.1) = decide (a.2.1 = b.2.1) from by rw [Bool.eq_iff_iff]; simp [eq_comm]]
/-- in which order does not matter -/
theorem put_turn {L : List EntryD} {e f : EntryD} (h1 : putOk L e = true) (h2 : putOk (putE L e) f = true) : putOk L f = true ∧ putOk (putE L f) e = true ∧ putE (putE L e) f = putE (putE L f) e := by
  obtain ⟨a1, a2, a3, a4⟩ := putOk_parts h1
  obtain ⟨b1, b2, b3, b4⟩ := putOk_parts h2
  rw [has_put, Bool.or_eq_false_iff] at b4
  rw [putE_len] at b3
  have hf : putOk L f = true := putOk_of a1 b2 a3 b4.2
  have he : hasE (putE L f) e = false := by rw [has_put, a4, isE_comm, b4.1]; rfl
  have h3 : putOk (putE L f) e = true := putOk_of (put_ents hf) a2 (by rw [putE_len]; omega) he
  refine ⟨hf, h3, srt_ext (srt_of (put_ents h2)) (srt_of (put_ents h3)) fun x => ?_⟩
  rw [mem_put, mem_put, mem_put, mem_put]
  constructor
  · rintro (h | h | h)
    · exact .inr (.inl h)
    · exact .inl h
    · exact .inr (.inr h)
  · rintro (h | h | h)
    · exact .inr (.inl h)
    · exact .inl h
    · exact .inr (.inr h)
end Go.Proofs.YteejabpohnfoaaaDoor
