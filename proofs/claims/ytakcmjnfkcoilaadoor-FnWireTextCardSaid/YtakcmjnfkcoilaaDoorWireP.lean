import Derived.Test.YtakcmjnfkcoilaaDoorWirePutS
import Derived.Test.YtakcmjnfkcoilaaDoorWireS
import Derived.Test.YtakcmjnfkcoilaaDoorDecP
/- Words written and read again. -/
namespace Go.Proofs.YtakcmjnfkcoilaaDoor
open Go Go.RowKit

theorem fold_ge : ∀ (l : List UInt8) (n : Nat), n ≤ l.foldl (fun n c => n * 10 + (c.toNat - 48)) n
  | [], n => Nat.le_refl _
  | c :: l, n => by
    have := fold_ge l (n * 10 + (c.toNat - 48))
    rw [List.foldl_cons]
    omega
theorem dig_val {c : UInt8} (h : digB c = true) : 48 ≤ c.toNat ∧ c.toNat ≤ 57 := by
  unfold digB at h
  have := of_decide_eq_true h
  omega
theorem digit_back {c : UInt8} (h : digB c = true) : UInt8.ofNat (48 + (c.toNat - 48)) = c := by
  have h1 := dig_val h
  rw [show 48 + (c.toNat - 48) = c.toNat by omega]
  simp
theorem lead_pos {c : UInt8} {m : List UInt8} (h : digB c = true) (hc : c ≠ 48) : 1 ≤ numV (c :: m) := by
  have h1 := dig_val h
  have h2 := fold_ge m (0 * 10 + (c.toNat - 48))
  have h3 : c.toNat ≠ 48 := fun e => hc (UInt8.toNat_inj.1 e)
  unfold numV
  rw [List.foldl_cons]
  omega
/-- a number written without noughts ahead is written so again -/
theorem dec_num : ∀ (k : Nat) (l : List UInt8), l.length = k → 1 ≤ l.length → l.all digB = true → (1 < l.length → l[0]? ≠ some 48) → decL (numV l) = l
  | 0, l, h, h1, _, _ => by omega
  | k + 1, l, h, h1, hd, hz => by
    obtain ⟨m, c, rfl⟩ : ∃ m c, l = m ++ [c] := ⟨l.dropLast, l.getLast (by intro e; rw [e] at h1; simp at h1), (List.dropLast_concat_getLast _).symm⟩
    rw [List.all_append, Bool.and_eq_true] at hd
    have hc : digB c = true := by simpa using hd.2
    have hv := dig_val hc
    rw [List.length_append, List.length_singleton] at h
    cases m with
    | nil =>
      have e : numV ([] ++ [c]) = c.toNat - 48 := by simp [numV]
      rw [e, decL_small (by omega), digit_back hc]
      rfl
    | cons a m =>
      have ha : digB a = true := (by simpa using hd.1 : digB a = true ∧ _).1
      have hne : a ≠ 48 := fun e => hz (by simp) (by simp [e])
      have hp := lead_pos (m := m) ha hne
      rw [numV_snoc]
      have hge : ¬ numV (a :: m) * 10 + (c.toNat - 48) < 10 := by omega
      rw [decL_next hge]
      have e1 : (numV (a :: m) * 10 + (c.toNat - 48)) / 10 = numV (a :: m) := by omega
      have e2 : (numV (a :: m) * 10 + (c.toNat - 48)) % 10 = c.toNat - 48 := by omega
      rw [e1, e2, digit_back hc, dec_num k (a :: m) (by omega) (by simp) hd.1 (fun _ => by simpa using hne)]
theorem num_back {l : List UInt8} (h : numOk l = true) : decL (numV l) = l := by
  unfold numOk at h
  simp only [Bool.and_eq_true, Bool.not_eq_true', decide_eq_true_eq, decide_eq_false_iff_not] at h
  obtain ⟨⟨⟨h1, h2⟩, h3⟩, h4⟩ := h
  exact dec_num l.length l rfl h1 h4 (fun hl e => h3 ⟨hl, e⟩)
def wordL (x : ByteArray) : List UInt8 := decL x.size ++ 58 :: (x.data.toList ++ [44])
theorem wordB_list (x : ByteArray) : (wordB x).data.toList = wordL x := by
  unfold wordB wordL decB
  simp [decL]
theorem wireTo_list (l : List ByteArray) : ∀ k, k ≤ l.length → (wireTo l k).data.toList = (l.take k).flatMap wordL
  | 0, _ => by simp [wireTo]
  | k + 1, h => by
    have ih := wireTo_list l k (by omega)
    rw [wireTo_succ (by omega), List.take_succ_eq_append_getElem (by omega), List.flatMap_append, List.flatMap_singleton, ← ih, ← wordB_list]
    unfold wordB
    simp
theorem colon_split : ∀ (l : List UInt8), colon l < l.length → l = l.take (colon l) ++ 58 :: l.drop (colon l + 1)
  | [], h => by simp at h
  | c :: l, h => by
    unfold colon at h ⊢
    by_cases hc : c = 58
    · subst hc
      simp
    · rw [if_neg hc] at h ⊢
      have ih := colon_split l (by simpa using h)
      rw [List.take_succ_cons, List.drop_succ_cons, List.cons_append, ← ih]
theorem word_split {s : ByteArray} (h : wordOk s = true) : s.data.toList = wordL (wordW s) ++ (wordR s).data.toList := by
  unfold wordOk at h
  simp only [Bool.and_eq_true, decide_eq_true_eq] at h
  obtain ⟨h1, h2, h3⟩ := h
  have h4 : (cutB s).data.toList[wordN s]? = some 44 := by simpa using h3
  have hlt : colon s.data.toList < s.data.toList.length := by
    rcases Nat.lt_or_ge (colon s.data.toList) s.data.toList.length with g | g
    · exact g
    · exfalso
      have : (cutB s).size = 0 := by unfold cutB; show (s.data.toList.drop _).length = 0; rw [List.length_drop]; omega
      omega
  have e1 := colon_split _ hlt
  have e2 : (cutA s).data.toList = s.data.toList.take (colon s.data.toList) := by simp [cutA]
  have e3 : (cutB s).data.toList = s.data.toList.drop (colon s.data.toList + 1) := by simp [cutB]
  rw [← e2, ← e3] at e1
  have e4 : (cutB s).data.toList = (cutB s).data.toList.take (wordN s) ++ 44 :: (cutB s).data.toList.drop (wordN s + 1) := by
    obtain ⟨hl, hv⟩ := List.getElem?_eq_some_iff.1 h4
    rw [← hv, List.getElem_cons_drop, List.take_append_drop]
  have e5 : (wordW s).size = wordN s := by
    unfold wordW
    show ((cutB s).data.toList.take (wordN s)).length = wordN s
    have : (cutB s).data.toList.length = (cutB s).size := rfl
    rw [List.length_take]
    omega
  have e6 : decL (wordN s) = (cutA s).data.toList := num_back h1
  unfold wordL
  rw [e5, e6]
  have e7 : (wordW s).data.toList = (cutB s).data.toList.take (wordN s) := by simp [wordW]
  have e8 : (wordR s).data.toList = (cutB s).data.toList.drop (wordN s + 1) := by simp [wordR]
  rw [e7, e8]
  conv => lhs; rw [e1, e4]
  simp
/-- what is read was written so -/
theorem wires_back : ∀ (n : Nat) (s : ByteArray) (l : List ByteArray), s.size ≤ n → wires s = some l → l.flatMap wordL = s.data.toList
  | n, s, l, hn, h => by
    by_cases h0 : s.size = 0
    · rw [wires_nil h0] at h
      cases h
      have : s.data.toList.length = 0 := h0
      rw [List.flatMap_nil, List.eq_nil_of_length_eq_zero this]
    · cases hw : wordOk s with
      | false => rw [wires_no h0 hw] at h; cases h
      | true =>
        rw [wires_yes h0 hw] at h
        cases hr : wires (wordR s) with
        | none => rw [hr] at h; cases h
        | some r =>
          rw [hr] at h
          cases h
          have hz := wordR_size s hw
          cases n with
          | zero => omega
          | succ n =>
            rw [List.flatMap_cons, wires_back n (wordR s) r (by omega) hr]
            exact (word_split hw).symm
theorem word_of {s x r : ByteArray} (hx : x.size < 100000000) (h : s.data.toList = wordL x ++ r.data.toList) : wordOk s = true ∧ wordW s = x ∧ wordR s = r := by
  have e0 : s.data.toList = decL x.size ++ 58 :: (x.data.toList ++ 44 :: r.data.toList) := by rw [h]; simp [wordL]
  have ec : colon s.data.toList = (decL x.size).length := by rw [e0]; exact colon_dig (decL_dig _)
  have eA : (cutA s).data.toList = decL x.size := by
    have : (cutA s).data.toList = s.data.toList.take (colon s.data.toList) := by simp [cutA]
    rw [this, ec, e0, List.take_left]
  have eB : (cutB s).data.toList = x.data.toList ++ 44 :: r.data.toList := by
    have : (cutB s).data.toList = s.data.toList.drop (colon s.data.toList + 1) := by simp [cutB]
    rw [this, ec, e0, List.drop_append, List.drop_of_length_le (by omega)]
    simp
  have eN : wordN s = x.size := by unfold wordN; rw [eA, decL_num]
  have hl : x.data.toList.length = x.size := rfl
  have hB : (cutB s).size = (cutB s).data.toList.length := rfl
  refine ⟨?_, ?_, ?_⟩
  · unfold wordOk
    rw [eA, decL_ok hx, eN, hB, eB]
    simp only [Bool.true_and, Bool.and_eq_true, decide_eq_true_eq]
    refine ⟨by rw [List.length_append, List.length_cons]; omega, ?_⟩
    rw [List.getElem?_append_right (by omega), hl]
    simp
  · apply bytes_ext
    have : (wordW s).data.toList = (cutB s).data.toList.take (wordN s) := by simp [wordW]
    rw [this, eB, eN, ← hl, List.take_left]
  · apply bytes_ext
    have : (wordR s).data.toList = (cutB s).data.toList.drop (wordN s + 1) := by simp [wordR]
    rw [this, eB, eN, ← hl, List.drop_append, List.drop_of_length_le (by omega)]
    simp
/-- what is written is read so -/
theorem wires_of : ∀ (l : List ByteArray) (s : ByteArray), (∀ x ∈ l, x.size < 100000000) → s.data.toList = l.flatMap wordL → wires s = some l
  | [], s, _, h => wires_nil (by have : s.data.toList.length = s.size := rfl; rw [h] at this; simpa using this.symm)
  | x :: l, s, hs, h => by
    have h1 : s.data.toList = wordL x ++ (⟨(l.flatMap wordL).toArray⟩ : ByteArray).data.toList := by rw [h]; simp
    obtain ⟨g1, g2, g3⟩ := word_of (hs x List.mem_cons_self) h1
    have h0 : s.size ≠ 0 := by
      have : s.data.toList.length = s.size := rfl
      rw [h, List.flatMap_cons] at this
      intro e
      rw [e] at this
      simp [wordL] at this
    rw [wires_yes h0 g1, g2, g3, wires_of l _ (fun y hy => hs y (List.mem_cons_of_mem _ hy)) (by simp)]
    rfl
theorem get_put {s : ByteArray} (h : (wireGet s).2 = true) : putB (wireGet s).1 = s := by
  unfold wireGet at h ⊢
  by_cases hz : s.size ≤ 2000
  · rw [if_pos hz] at h ⊢
    cases hw : wires s with
    | none => rw [hw] at h; cases h
    | some l =>
      have e : wireTo l l.length = s := by
        apply bytes_ext
        rw [wireTo_list l l.length (Nat.le_refl _), List.take_length]
        exact wires_back s.size s l (Nat.le_refl _) hw
      show putB l = s
      unfold putB
      rw [e, if_pos hz]
  · rw [if_neg hz] at h
    cases h
theorem put_get {d : List ByteArray} (hd : ∀ x ∈ d, x.size < 100000000) : ((putB d = ⟨#[]⟩ ∧ 0 < d.length) ∨ wireGet (putB d) = (d, true)) := by
  by_cases hz : (wireTo d d.length).size ≤ 2000
  · right
    unfold putB
    rw [if_pos hz]
    unfold wireGet
    rw [if_pos hz, wires_of d _ hd (by rw [wireTo_list d d.length (Nat.le_refl _), List.take_length])]
    rfl
  · left
    refine ⟨by unfold putB; rw [if_neg hz], ?_⟩
    cases d with
    | nil => exact absurd (by show (0 : Nat) ≤ 2000; omega) hz
    | cons x d => simp
end Go.Proofs.YtakcmjnfkcoilaaDoor
