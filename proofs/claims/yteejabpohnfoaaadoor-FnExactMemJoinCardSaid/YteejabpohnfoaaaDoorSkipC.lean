import Derived.Test.YteejabpohnfoaaaDoorSkipB
/- Linked entries as a list: one more, and a list put in one by one. -/
namespace Go.Proofs.YteejabpohnfoaaaDoor
open Go Go.RowKit

def SrtL (L : List EntryD) : Prop := L.Pairwise (fun a b => lessB a b = true)
/-- a list with one more, if it has none at that place -/
def addE (L : List EntryD) (e : EntryD) : List EntryD := if hasE L e = true then L else putE L e
def joinE (L M : List EntryD) : List EntryD := M.foldl addE L
theorem joinE_snoc (L M : List EntryD) (e : EntryD) : joinE L (M ++ [e]) = addE (joinE L M) e := by unfold joinE; rw [List.foldl_append]; rfl
theorem joinE_take {L M : List EntryD} {k : Nat} (h : k < M.length) : joinE L (M.take (k + 1)) = addE (joinE L (M.take k)) M[k] := by rw [List.take_succ_eq_append_getElem h, joinE_snoc]
theorem isE_not_less {a b : EntryD} (h : isE b a = true) : lessB b a = false ∧ lessB a b = false := by
  unfold isE at h
  rw [Bool.and_eq_true, decide_eq_true_eq, decide_eq_true_eq] at h
  unfold lessB
  rw [h.1, h.2]
  simp [ltS_irrefl]
theorem lessB_total {a b : EntryD} (h : lessB a b = false) (hn : isE b a = false) : lessB b a = true := by
  unfold lessB at h ⊢
  unfold isE at hn
  rw [Bool.or_eq_false_iff] at h
  by_cases e : a.1 = b.1
  · rw [e] at h hn ⊢
    simp at h hn ⊢
    exact .inr (by omega)
  · rw [ltS_total h.1 e]; rfl
theorem lessB_asymm {a b : EntryD} (h : lessB a b = true) : lessB b a = false := by
  cases q : lessB b a with
  | false => rfl
  | true => have := lessB_trans h q; rw [lessB_irrefl] at this; cases this
theorem srt_drop {L : List EntryD} (h : SrtL L) (e : EntryD) : ∀ x ∈ L.dropWhile (fun x => lessB x e), lessB x e = false := by
  induction L with
  | nil => intro x hx; cases hx
  | cons a L ih =>
    have hp := List.pairwise_cons.1 h
    by_cases q : lessB a e = true
    · rw [List.dropWhile_cons, if_pos q]
      exact ih hp.2
    · rw [List.dropWhile_cons, if_neg q]
      intro x hx
      rcases List.mem_cons.1 hx with rfl | hx
      · simpa using q
      · cases g : lessB x e with
        | false => rfl
        | true => exact absurd (lessB_trans (hp.1 x hx) g) q
theorem tw_all (L : List EntryD) (e : EntryD) : ∀ x ∈ L.takeWhile (fun x => lessB x e), lessB x e = true := by
  induction L with
  | nil => intro x hx; cases hx
  | cons a L ih =>
    intro x hx
    rw [List.takeWhile_cons] at hx
    split at hx
    · rename_i q
      rcases List.mem_cons.1 hx with rfl | hx
      · exact q
      · exact ih x hx
    · cases hx
/-- the entry at that place stands first behind those ahead -/
theorem has_head {L : List EntryD} (h : SrtL L) (e : EntryD) : hasE L e = (match L.dropWhile (fun x => lessB x e) with | [] => false | c :: _ => isE e c) := by
  have hs : L.takeWhile (fun x => lessB x e) ++ L.dropWhile (fun x => lessB x e) = L := List.takeWhile_append_dropWhile
  have h1 : (L.takeWhile (fun x => lessB x e)).any (isE e) = false := by
    rw [List.any_eq_false]
    intro x hx q
    have := tw_all L e x hx
    rw [(isE_not_less q).2] at this
    cases this
  have h2 : hasE L e = (L.dropWhile (fun x => lessB x e)).any (isE e) := by
    unfold hasE
    rw [← hs, List.any_append, hs, h1]
    rfl
  rw [h2]
  have hd : SrtL (L.dropWhile (fun x => lessB x e)) := List.Pairwise.sublist (List.dropWhile_sublist _) h
  have hn := srt_drop h e
  cases hq : L.dropWhile (fun x => lessB x e) with
  | nil => rfl
  | cons c C =>
    rw [hq] at hd hn
    show (isE e c || C.any (isE e)) = isE e c
    cases hc : isE e c with
    | true => rfl
    | false =>
      have hlt := lessB_total (hn c List.mem_cons_self) hc
      have : C.any (isE e) = false := by
        rw [List.any_eq_false]
        intro x hx q
        have := lessB_trans hlt ((List.pairwise_cons.1 hd).1 x hx)
        rw [(isE_not_less q).1] at this
        cases this
      rw [this]; rfl
theorem srt_put {L : List EntryD} (h : SrtL L) {e : EntryD} (hn : hasE L e = false) : SrtL (putE L e) := by
  have hd : SrtL (L.dropWhile (fun x => lessB x e)) := List.Pairwise.sublist (List.dropWhile_sublist _) h
  have hdn := srt_drop h e
  have hh := has_head h e
  rw [hn] at hh
  have hlt : ∀ x ∈ L.dropWhile (fun x => lessB x e), lessB e x = true := by
    cases hq : L.dropWhile (fun x => lessB x e) with
    | nil => intro x hx; cases hx
    | cons c C =>
      rw [hq] at hd hdn hh
      have h0 := lessB_total (hdn c List.mem_cons_self) hh.symm
      intro x hx
      rcases List.mem_cons.1 hx with rfl | hx
      · exact h0
      · exact lessB_trans h0 ((List.pairwise_cons.1 hd).1 x hx)
  unfold SrtL putE
  refine List.pairwise_append.2 ⟨List.Pairwise.sublist (List.takeWhile_sublist _) h, List.pairwise_cons.2 ⟨hlt, hd⟩, fun a ha b hb => ?_⟩
  have h1 := tw_all L e a ha
  rcases List.mem_cons.1 hb with rfl | hb
  · exact h1
  · exact lessB_trans h1 (hlt b hb)
theorem srt_add {L : List EntryD} (h : SrtL L) (e : EntryD) : SrtL (addE L e) := by
  unfold addE
  split
  · exact h
  · rename_i q; exact srt_put h (by simpa using q)
theorem srt_join {L : List EntryD} (h : SrtL L) (M : List EntryD) : SrtL (joinE L M) := by
  induction M generalizing L with
  | nil => exact h
  | cons e M ih => exact ih (srt_add h e)
theorem srt_of {l : List EntryD} (h : entsB l = true) : SrtL l := by
  have hs := (entsB_at h).2.2
  refine List.pairwise_iff_getElem.2 fun i j hi hj hij => sorted_lt hs i j hij hj
theorem addE_mem {L : List EntryD} {e x : EntryD} (h : x ∈ addE L e) : x = e ∨ x ∈ L := by
  unfold addE at h
  split at h
  · exact .inr h
  · exact putE_mem h
theorem joinE_mem {L M : List EntryD} {x : EntryD} (h : x ∈ joinE L M) : x ∈ M ∨ x ∈ L := by
  induction M generalizing L with
  | nil => exact .inr h
  | cons e M ih =>
    rcases ih h with h | h
    · exact .inl (List.mem_cons_of_mem _ h)
    · rcases addE_mem h with rfl | h
      · exact .inl List.mem_cons_self
      · exact .inr h
theorem joinE_len (L M : List EntryD) : (joinE L M).length ≤ L.length + M.length := by
  induction M generalizing L with
  | nil => simp [joinE]
  | cons e M ih =>
    have h := ih (addE L e)
    have h2 : (addE L e).length ≤ L.length + 1 := by
      unfold addE
      split
      · omega
      · rw [putE_len]; omega
    show (joinE (addE L e) M).length ≤ _
    simp only [List.length_cons]
    omega
theorem put_end {L : List EntryD} {e : EntryD} (h : ∀ x ∈ L, lessB x e = true) : putE L e = L ++ [e] := by
  have h1 : L.takeWhile (fun x => lessB x e) = L := by
    induction L with
    | nil => rfl
    | cons a L ih => rw [List.takeWhile_cons, h a List.mem_cons_self, if_pos rfl, ih fun x hx => h x (List.mem_cons_of_mem _ hx)]
  have h2 : L.dropWhile (fun x => lessB x e) = [] := by
    have := congrArg List.length (List.takeWhile_append_dropWhile (p := fun x => lessB x e) (l := L))
    rw [List.length_append, h1] at this
    exact List.eq_nil_of_length_eq_zero (by omega)
  unfold putE
  rw [h1, h2]
theorem join_start_aux (M : List EntryD) : ∀ L, SrtL (L ++ M) → joinE L M = L ++ M := by
  induction M with
  | nil => intro L _; rw [List.append_nil]; rfl
  | cons e M ih =>
    intro L h
    have hL : ∀ x ∈ L, lessB x e = true := fun x hx => (List.pairwise_append.1 h).2.2 x hx e List.mem_cons_self
    have h0 : addE L e = L ++ [e] := by
      unfold addE
      rw [if_neg]
      · exact put_end hL
      · intro q
        obtain ⟨x, hx, hq⟩ := List.any_eq_true.1 q
        have := hL x hx
        rw [(isE_not_less hq).2] at this
        cases this
    show joinE (addE L e) M = _
    rw [h0, ih (L ++ [e]) (by rw [List.append_assoc]; exact h), List.append_assoc]
    rfl
theorem join_start {M : List EntryD} (h : SrtL M) : joinE [] M = M := join_start_aux M [] h
/-- linked entries: a list -/
def SkipL (B hb : Nat) (w : World) (L : List EntryD) : Prop := ∃ (z : EntryD) (S : List Nd), S.map (·.2.1) = L ∧ Skip w ((hb, z, 4) :: S) ∧ (∀ n ∈ S, 1 ≤ n.2.2) ∧ B ≤ hb ∧ ∀ n ∈ S, B ≤ n.1
theorem SkipL.below {B hb : Nat} {w w' : World} {L : List EntryD} (h : SkipL B hb w L) (hk : Below w.heap.size w w') : SkipL B hb w' L := by
  obtain ⟨z, S, h1, h2, h3⟩ := h
  exact ⟨z, S, h1, h2.below hk, h3⟩
theorem map_tw (S : List Nd) (e : EntryD) : (S.takeWhile (fun n => lessB n.2.1 e)).map (·.2.1) = (S.map (·.2.1)).takeWhile (fun x => lessB x e) := by
  rw [List.takeWhile_map]; rfl
theorem map_dw (S : List Nd) (e : EntryD) : (S.dropWhile (fun n => lessB n.2.1 e)).map (·.2.1) = (S.map (·.2.1)).dropWhile (fun x => lessB x e) := by
  rw [List.dropWhile_map]; rfl
theorem put_list (B hb : Nat) (L : List EntryD) (x0 : ByteArray) (x1 : Int) (x2 : Bool) (x3 : ByteArray) (w : World) (hB : B ≤ w.heap.size) (hS : SkipL B hb w L) (hL : SrtL L) (hm : x0.size ≤ 549755813888) (ht : HashT w) :
    Calls Tryd.prog 31 #[.pointer (some ⟨hb, 0, none⟩), .agg #[.string x0, .int .i64 x1, .bool x2, .string x3]] w fun en w' => en = .returned (.bool (!hasE L (x0, x1, x2, x3))) ∧ SkipL B hb w' (addE L (x0, x1, x2, x3)) ∧ Below B w w' := by
  obtain ⟨z, S, hSL, hsk, hh, hBh, hBn⟩ := hS
  subst hSL
  have hs : S.takeWhile (fun n => lessB n.2.1 (x0, x1, x2, x3)) ++ S.dropWhile (fun n => lessB n.2.1 (x0, x1, x2, x3)) = S := List.takeWhile_append_dropWhile
  have hd := map_dw S (x0, x1, x2, x3)
  have htk := map_tw S (x0, x1, x2, x3)
  have a1 : ∀ n ∈ S.takeWhile (fun n => lessB n.2.1 (x0, x1, x2, x3)), lessB n.2.1 (x0, x1, x2, x3) = true := fun n hn => tw_all (S.map (·.2.1)) _ n.2.1 (by rw [← htk]; exact List.mem_map_of_mem hn)
  have a2 : ∀ n ∈ S.dropWhile (fun n => lessB n.2.1 (x0, x1, x2, x3)), lessB n.2.1 (x0, x1, x2, x3) = false := fun n hn => srt_drop hL _ n.2.1 (by rw [← hd]; exact List.mem_map_of_mem hn)
  have hit : hitN (S.dropWhile (fun n => lessB n.2.1 (x0, x1, x2, x3))) (x0, x1, x2, x3) = hasE (S.map (·.2.1)) (x0, x1, x2, x3) := by
    rw [has_head hL, ← hd]
    cases S.dropWhile (fun n => lessB n.2.1 (x0, x1, x2, x3)) with
    | nil => rfl
    | cons c C => rfl
  have hput : putE (S.map (·.2.1)) (x0, x1, x2, x3) = (S.takeWhile (fun n => lessB n.2.1 (x0, x1, x2, x3))).map (·.2.1) ++ (x0, x1, x2, x3) :: (S.dropWhile (fun n => lessB n.2.1 (x0, x1, x2, x3))).map (·.2.1) := by rw [hd, htk]; rfl
  generalize S.takeWhile (fun n => lessB n.2.1 (x0, x1, x2, x3)) = S1 at *
  generalize S.dropWhile (fun n => lessB n.2.1 (x0, x1, x2, x3)) = C at *
  refine (put_any B hb z S1 C x0 x1 x2 x3 w hB (fun n hn => ?_) (by rw [List.cons_append, hs]; exact hsk) a1 a2 (fun n hn => hh n (by rw [← hs]; exact List.mem_append_right _ hn)) hm ht).mono ?_
  · rw [List.cons_append, hs] at hn
    rcases List.mem_cons.1 hn with rfl | hn
    · exact hBh
    · exact hBn n hn
  · rintro en w' ⟨hbl, ⟨ht1, rfl, hsk'⟩ | ⟨ht1, nb, h, rfl, hsk', hnb, h1⟩⟩
    · rw [hit] at ht1
      refine ⟨by rw [ht1]; rfl, ⟨z, S, by unfold addE; rw [if_pos ht1], by rw [List.cons_append, hs] at hsk'; exact hsk', hh, hBh, hBn⟩, hbl⟩
    · rw [hit] at ht1
      refine ⟨by rw [ht1]; rfl, ⟨z, S1 ++ (nb, (x0, x1, x2, x3), h) :: C, by unfold addE; rw [if_neg (by rw [ht1]; exact Bool.false_ne_true), hput, List.map_append, List.map_cons], hsk', fun n hn => ?_, hBh, fun n hn => ?_⟩, hbl⟩
      · rcases List.mem_append.1 hn with hn | hn
        · exact hh n (by rw [← hs]; exact List.mem_append_left _ hn)
        · rcases List.mem_cons.1 hn with rfl | hn
          · exact h1
          · exact hh n (by rw [← hs]; exact List.mem_append_right _ hn)
      · rcases List.mem_append.1 hn with hn | hn
        · exact hBn n (by rw [← hs]; exact List.mem_append_left _ hn)
        · rcases List.mem_cons.1 hn with rfl | hn
          · show B ≤ nb
            omega
          · exact hBn n (by rw [← hs]; exact List.mem_append_right _ hn)
end Go.Proofs.YteejabpohnfoaaaDoor
