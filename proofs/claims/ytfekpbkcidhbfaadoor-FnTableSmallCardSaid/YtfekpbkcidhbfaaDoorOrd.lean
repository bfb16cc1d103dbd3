import Derived.Test.YtfekpbkcidhbfaaDoorEntry
import Derived.Test.YtfekpbkcidhbfaaDoorIn
/- Entries in order: plain words and their laws. -/
namespace Go.Proofs.YtfekpbkcidhbfaaDoor
open Go Go.RowKit

theorem bl_irrefl : ∀ a : List UInt8, Op.bytesLess a a = false
  | [] => rfl
  | x :: a => by simp [Op.bytesLess, bl_irrefl a]
theorem bl_trans : ∀ a b c : List UInt8, Op.bytesLess a b = true → Op.bytesLess b c = true → Op.bytesLess a c = true
  | _, _, [], _, h2 => by simp [Op.bytesLess] at h2
  | _, [], _ :: _, h1, _ => by simp [Op.bytesLess] at h1
  | [], _ :: _, _ :: _, _, _ => by simp [Op.bytesLess]
  | x :: a, y :: b, z :: c, h1, h2 => by
    have ih := bl_trans a b c
    simp only [Op.bytesLess, Bool.or_eq_true, decide_eq_true_eq, Bool.and_eq_true, beq_iff_eq] at h1 h2 ⊢
    rcases h1 with h1 | ⟨rfl, h1⟩
    · rcases h2 with h2 | ⟨rfl, h2⟩
      · left; exact UInt8.lt_trans h1 h2
      · left; exact h1
    · rcases h2 with h2 | ⟨rfl, h2⟩
      · left; exact h2
      · right; exact ⟨rfl, ih h1 h2⟩
theorem bl_total : ∀ a b : List UInt8, Op.bytesLess a b = false → a ≠ b → Op.bytesLess b a = true
  | [], [], _, h => absurd rfl h
  | [], _ :: _, h, _ => by simp [Op.bytesLess] at h
  | _ :: _, [], _, _ => by simp [Op.bytesLess]
  | x :: a, y :: b, h, hn => by
    have ih := bl_total a b
    simp only [Op.bytesLess, Bool.or_eq_false_iff, decide_eq_false_iff_not, Bool.and_eq_false_iff, beq_eq_false_iff_ne] at h
    simp only [Op.bytesLess, Bool.or_eq_true, decide_eq_true_eq, Bool.and_eq_true, beq_iff_eq]
    by_cases hxy : x = y
    · subst hxy
      right
      refine ⟨rfl, ih ?_ (fun e => hn (by rw [e]))⟩
      rcases h.2 with h2 | h2
      · exact absurd rfl h2
      · exact h2
    · left
      have := h.1
      have h3 := UInt8.not_lt.1 this
      exact UInt8.lt_of_le_of_ne h3 (fun e => hxy e.symm)
theorem bl_asymm (a b : List UInt8) (h : Op.bytesLess a b = true) : Op.bytesLess b a = false := by
  cases hc : Op.bytesLess b a with
  | false => rfl
  | true => have := bl_trans a b a h hc; rw [bl_irrefl] at this; cases this

/-- text x stands ahead of text y -/
def ltS (x y : ByteArray) : Bool := Op.bytesLess x.toList y.toList
theorem ltS_irrefl (x : ByteArray) : ltS x x = false := bl_irrefl _
theorem ltS_trans {x y z : ByteArray} (h : ltS x y = true) (k : ltS y z = true) : ltS x z = true := bl_trans _ _ _ h k
theorem ltS_asymm {x y : ByteArray} (h : ltS x y = true) : ltS y x = false := bl_asymm _ _ h
theorem toList_inj {x y : ByteArray} (h : x.toList = y.toList) : x = y := by
  rw [ByteArray.toList_eq, ByteArray.toList_eq] at h
  cases x; cases y; simp at h; simp [h]
theorem ltS_total {x y : ByteArray} (h : ltS x y = false) (hn : x ≠ y) : ltS y x = true := bl_total _ _ h (fun e => hn (toList_inj e))

/-- entry a stands ahead of entry b -/
def lessB (a b : EntryD) : Bool := ltS a.1 b.1 || (decide (a.1 = b.1) && decide (b.2.1 < a.2.1))
theorem lessB_trans {a b c : EntryD} (h : lessB a b = true) (k : lessB b c = true) : lessB a c = true := by
  simp only [lessB, Bool.or_eq_true, Bool.and_eq_true, decide_eq_true_eq] at h k ⊢
  rcases h with h | ⟨e1, h⟩
  · rcases k with k | ⟨e2, k⟩
    · exact .inl (ltS_trans h k)
    · exact .inl (e2 ▸ h)
  · rcases k with k | ⟨e2, k⟩
    · exact .inl (e1 ▸ k)
    · exact .inr ⟨e1.trans e2, by omega⟩
theorem lessB_irrefl (a : EntryD) : lessB a a = false := by
  simp [lessB, ltS_irrefl]

/-- how two entries stand, as a number -/
def cmpS (x y : ByteArray) : Int := if ltS x y = true then -1 else if x = y then 0 else 1
def cmpI (x y : Int) : Int := if x < y then -1 else if y < x then 1 else 0
def ordI (a b : EntryD) : Int := if cmpS a.1 b.1 ≠ 0 then cmpS a.1 b.1 else cmpI b.2.1 a.2.1
theorem ordI_neg (a b : EntryD) : ordI a b < 0 ↔ lessB a b = true := by
  unfold ordI cmpS cmpI lessB
  by_cases h : ltS a.1 b.1 = true
  · simp [h]
  · simp only [h, if_false, Bool.false_or, Bool.false_eq_true]
    by_cases e : a.1 = b.1
    · simp [e]
      by_cases g : b.2.1 < a.2.1
      · simp [g]
      · simp [g]; by_cases g2 : a.2.1 < b.2.1 <;> simp [g2]
    · simp [e]
theorem ordI_lo (a b : EntryD) : -1 ≤ ordI a b ∧ ordI a b ≤ 1 := by
  unfold ordI cmpS cmpI
  (repeat' split) <;> simp_all

def keyC (c : UInt8) : Bool := decide (46 ≤ (c.toNat : Int) ∧ (c.toNat : Int) ≤ 126 ∧ (c.toNat : Int) ≠ 58)
def valC (lo : Int) (c : UInt8) : Bool := decide (lo ≤ (c.toNat : Int) ∧ (c.toNat : Int) ≤ 126)
def keyB (s : ByteArray) : Bool := s.data.toList.all keyC && inB s.size 1 24
def valB (s : ByteArray) : Bool := s.data.toList.all (valC 32) && inB s.size 0 80
def entB (e : EntryD) : Bool := keyB e.1 && inB e.2.1 1 99999999 && valB e.2.2.2 && (!e.2.2.1 || decide (e.2.2.2.size = 0))

def okAt (l : List EntryD) (j : Nat) : Bool :=
  match l[j]? with
  | none => true
  | some e => entB e && (match (if j = 0 then none else l[j-1]?) with | none => true | some p => lessB p e)
def okTo (l : List EntryD) (k : Nat) : Bool := (List.range k).all (okAt l)
def entsB (l : List EntryD) : Bool := decide (l.length ≤ 240) && okTo l l.length
theorem okTo_zero (l : List EntryD) : okTo l 0 = true := rfl
theorem okTo_succ (l : List EntryD) (k : Nat) : okTo l (k + 1) = (okTo l k && okAt l k) := by simp [okTo, List.range_succ, List.all_append]
theorem okTo_no {l : List EntryD} {k n : Nat} (hk : k < n) (h : okAt l k = false) : okTo l n = false := by
  unfold okTo
  rw [List.all_eq_false]
  exact ⟨k, by simpa using hk, by simp [h]⟩
theorem okAt_zero {l : List EntryD} {e : EntryD} (h : l[0]? = some e) : okAt l 0 = entB e := by simp [okAt, h]
theorem okAt_succ {l : List EntryD} {k : Nat} {p e : EntryD} (h0 : l[k]? = some p) (h : l[k+1]? = some e) : okAt l (k+1) = (entB e && lessB p e) := by
  simp [okAt, h, h0]
theorem entsB_at {l : List EntryD} (h : entsB l = true) : l.length ≤ 240 ∧ (∀ j (hj : j < l.length), entB l[j] = true) ∧ (∀ j (hj : j + 1 < l.length), lessB (l[j]'(by omega)) l[j+1] = true) := by
  simp only [entsB, Bool.and_eq_true, decide_eq_true_eq, okTo, List.all_eq_true, List.mem_range] at h
  refine ⟨h.1, fun j hj => ?_, fun j hj => ?_⟩
  · have := h.2 j hj
    simp only [okAt, List.getElem?_eq_getElem hj, Bool.and_eq_true] at this
    exact this.1
  · have := h.2 (j+1) hj
    rw [okAt_succ (List.getElem?_eq_getElem (by omega)) (List.getElem?_eq_getElem hj), Bool.and_eq_true] at this
    exact this.2
/-- in a list that is in order, what stands ahead is less -/
theorem sorted_lt {l : List EntryD} (h : ∀ j (hj : j + 1 < l.length), lessB (l[j]'(by omega)) l[j+1] = true) : ∀ (i j : Nat) (hi : i < j) (hj : j < l.length), lessB (l[i]'(by omega)) l[j] = true := by
  intro i j hi
  induction j with
  | zero => omega
  | succ j ih =>
    intro hj
    by_cases e : i = j
    · subst e; exact h i hj
    · exact lessB_trans (ih (by omega) (by omega)) (h j hj)
/-- ahead of a target: an initial part -/
theorem ahead_mono {l : List EntryD} (h : ∀ j (hj : j + 1 < l.length), lessB (l[j]'(by omega)) l[j+1] = true) (t : EntryD) {i j : Nat} (hi : i ≤ j) (hj : j < l.length) (ht : lessB l[j] t = true) : lessB (l[i]'(by omega)) t = true := by
  by_cases e : i = j
  · subst e; exact ht
  · exact lessB_trans (sorted_lt h i j (by omega) hj) ht

/-- the entry that tells what a key has at a moment -/
def tells (key : ByteArray) (seq : Int) (e : EntryD) : Bool := decide (e.1 = key) && decide (e.2.1 ≤ seq)
def getE (l : List EntryD) (key : ByteArray) (seq : Int) : Option EntryD := l.find? (tells key seq)
def tgt (key : ByteArray) (seq : Int) : EntryD := (key, seq, false, ⟨#[]⟩)
theorem getE_none_take {l : List EntryD} {key : ByteArray} {seq : Int} {k : Nat} (hk : l.length ≤ k) (h : (l.take k).find? (tells key seq) = none) : getE l key seq = none := by
  rwa [List.take_of_length_le hk] at h
theorem find_take_succ {l : List EntryD} {p : EntryD → Bool} {k : Nat} (hk : k < l.length) (h : (l.take k).find? p = none) (hp : p l[k] = false) : (l.take (k+1)).find? p = none := by
  rw [List.take_succ_eq_append_getElem hk, List.find?_append, h]
  simp [hp]
theorem find_take_hit {l : List EntryD} {p : EntryD → Bool} {k : Nat} (hk : k < l.length) (h : (l.take k).find? p = none) (hp : p l[k] = true) : l.find? p = some l[k] := by
  have e : (l.take k ++ l[k] :: l.drop (k+1)).find? p = some l[k] := by rw [List.find?_append, h, List.find?_cons_of_pos hp]; rfl
  rwa [List.getElem_cons_drop, List.take_append_drop] at e
theorem lessB_tgt (e : EntryD) (key : ByteArray) (seq : Int) : lessB e (tgt key seq) = (ltS e.1 key || (decide (e.1 = key) && decide (seq < e.2.1))) := rfl
/-- behind all that stand ahead of the target: the one that tells, if the key is the same -/
theorem getE_place {l : List EntryD} {key : ByteArray} {seq : Int} {i : Nat} (hi : i < l.length) (h1 : ∀ j (hj : j < l.length), j < i → lessB l[j] (tgt key seq) = true) (h2 : lessB l[i] (tgt key seq) = false) (hk : l[i].1 = key) : getE l key seq = some l[i] := by
  refine find_take_hit hi ?_ ?_
  · rw [List.find?_eq_none]
    intro x hx
    obtain ⟨j, hj, rfl⟩ := List.getElem_of_mem hx
    simp only [List.length_take] at hj
    have := h1 j (by omega) (by omega)
    rw [List.getElem_take]
    rw [lessB_tgt] at this
    simp only [tells, Bool.and_eq_true, decide_eq_true_eq, not_and]
    intro e
    simp [e, ltS_irrefl] at this
    omega
  · rw [lessB_tgt] at h2
    simp [hk, ltS_irrefl] at h2
    simp [tells, hk, h2]
theorem getE_gone {l : List EntryD} {key : ByteArray} {seq : Int} {i : Nat} (hs : ∀ j (hj : j + 1 < l.length), lessB (l[j]'(by omega)) l[j+1] = true) (h1 : ∀ j (hj : j < l.length), j < i → lessB l[j] (tgt key seq) = true) (h2 : ∀ (hi : i < l.length), lessB l[i] (tgt key seq) = false ∧ l[i].1 ≠ key) : getE l key seq = none := by
  unfold getE
  rw [List.find?_eq_none]
  intro x hx
  obtain ⟨j, hj, rfl⟩ := List.getElem_of_mem hx
  simp only [tells, Bool.and_eq_true, decide_eq_true_eq, not_and]
  intro e
  by_cases hji : j < i
  · have := h1 j hj hji
    rw [lessB_tgt] at this
    simp [e, ltS_irrefl] at this
    omega
  · have hi : i < l.length := by omega
    obtain ⟨g1, g2⟩ := h2 hi
    rw [lessB_tgt] at g1
    simp only [Bool.or_eq_false_iff] at g1
    have g3 : ltS key l[i].1 = true := ltS_total g1.1 g2
    by_cases hij : i = j
    · subst hij; exact absurd e g2
    · have g4 := sorted_lt hs i j (by omega) hj
      simp only [lessB, Bool.or_eq_true, Bool.and_eq_true, decide_eq_true_eq] at g4
      rw [e] at g4
      rcases g4 with g4 | g4
      · rw [ltS_asymm g3] at g4; cases g4
      · exact absurd g4.1 g2

/-- trimmed: an entry that the one just ahead of it hides goes; at the bottom, what is nothing goes too -/
def hidB (l : List EntryD) (k : Nat) (floor : Int) : Bool :=
  match (if k = 0 then none else l[k-1]?), l[k]? with
  | some p, some e => decide (p.1 = e.1) && decide (p.2.1 ≤ floor)
  | _, _ => false
def keepB (l : List EntryD) (floor : Int) (bottom : Bool) (k : Nat) : Bool :=
  match l[k]? with
  | none => false
  | some e => !hidB l k floor && !(bottom && e.2.2.1 && decide (e.2.1 ≤ floor))
def trimTo (l : List EntryD) (floor : Int) (bottom : Bool) (k : Nat) : List EntryD := (List.range k).flatMap fun j => if keepB l floor bottom j then l[j]?.toList else []
def trimL (l : List EntryD) (floor : Int) (bottom : Bool) : List EntryD := trimTo l floor bottom l.length
theorem trimTo_succ (l : List EntryD) (floor : Int) (bottom : Bool) (k : Nat) (h : k < l.length) : trimTo l floor bottom (k + 1) = trimTo l floor bottom k ++ (if keepB l floor bottom k then [l[k]] else []) := by
  simp [trimTo, List.range_succ, List.flatMap_append, List.getElem?_eq_getElem h]
theorem trimTo_len (l : List EntryD) (floor : Int) (bottom : Bool) (k : Nat) (h : k ≤ l.length) : (trimTo l floor bottom k).length ≤ k := by
  induction k with
  | zero => simp [trimTo]
  | succ k ih =>
    rw [trimTo_succ l floor bottom k (by omega), List.length_append]
    have := ih (by omega)
    split <;> simp <;> omega
/-- what the specification keeps in mind: the last key that was told at or ahead of the floor -/
def lastOk (l : List EntryD) (floor : Int) (k : Nat) (last : ByteArray) : Prop :=
  match (if k = 0 then none else l[k-1]?) with
  | none => last = ⟨#[]⟩
  | some p => (last = p.1 ↔ p.2.1 ≤ floor) ∧ (last = p.1 ∨ ltS last p.1 = true)
theorem last_hid {l : List EntryD} {floor : Int} {k : Nat} {last : ByteArray} (hs : ∀ j (hj : j + 1 < l.length), lessB (l[j]'(by omega)) l[j+1] = true) (hne : ∀ j (hj : j < l.length), l[j].1 ≠ ⟨#[]⟩) (hk : k < l.length) (h : lastOk l floor k last) :
    hidB l k floor = decide (l[k].1 = last) := by
  unfold lastOk at h
  unfold hidB
  rcases k with _ | k
  · simp at h
    subst h
    simp [hne 0 hk]
  · simp only [Nat.succ_ne_zero, if_false, Nat.add_sub_cancel, List.getElem?_eq_getElem (show k < l.length by omega), List.getElem?_eq_getElem hk] at h ⊢
    have h4 := hs k hk
    simp only [lessB, Bool.or_eq_true, Bool.and_eq_true, decide_eq_true_eq] at h4
    by_cases e : l[k].1 = l[k+1].1
    · by_cases g : l[k].2.1 ≤ floor
      · have := h.1.2 g
        simp [e, g, this]
      · have g2 : last ≠ l[k].1 := fun q => g (h.1.1 q)
        simp [g]
        rw [← e]; exact fun q => g2 q.symm
    · have h5 : ltS l[k].1 l[k+1].1 = true := by
        rcases h4 with h4 | h4
        · exact h4
        · exact absurd h4.1 e
      simp [e]
      intro q
      rcases h.2 with h6 | h6
      · exact e (h6 ▸ q.symm)
      · rw [← q, ltS_asymm h5] at h6; cases h6
theorem last_next {l : List EntryD} {floor : Int} {k : Nat} {last : ByteArray} (hs : ∀ j (hj : j + 1 < l.length), lessB (l[j]'(by omega)) l[j+1] = true) (hne : ∀ j (hj : j < l.length), l[j].1 ≠ ⟨#[]⟩) (hk : k < l.length) (h : lastOk l floor k last) :
    lastOk l floor (k + 1) (if l[k].1 = last then last else if l[k].2.1 ≤ floor then l[k].1 else last) := by
  have hid := last_hid hs hne hk h
  unfold lastOk
  simp only [Nat.succ_ne_zero, if_false, Nat.add_sub_cancel, List.getElem?_eq_getElem hk]
  by_cases e : l[k].1 = last
  · simp only [e, if_true]
    refine ⟨⟨fun _ => ?_, fun _ => trivial⟩, .inl trivial⟩
    rw [decide_eq_true e] at hid
    unfold hidB at hid
    rcases k with _ | k
    · simp at hid
    · simp only [Nat.succ_ne_zero, if_false, Nat.add_sub_cancel, List.getElem?_eq_getElem (show k < l.length by omega), List.getElem?_eq_getElem hk, Bool.and_eq_true, decide_eq_true_eq] at hid
      have h4 := hs k hk
      simp only [lessB, Bool.or_eq_true, Bool.and_eq_true, decide_eq_true_eq] at h4
      rcases h4 with h4 | h4
      · rw [hid.1, ltS_irrefl] at h4; cases h4
      · omega
  · by_cases g : l[k].2.1 ≤ floor
    · simp [e, g]
    · simp only [e, g, if_false, iff_false]
      refine ⟨fun q => e q.symm, .inr ?_⟩
      unfold lastOk at h
      rcases k with _ | k
      · simp at h
        subst h
        have : (l[0].1).toList ≠ [] := fun q => hne 0 hk (toList_inj (by rw [q, ByteArray.toList_eq]))
        unfold ltS
        cases hq : (l[0].1).toList with
        | nil => exact absurd hq this
        | cons a b => rw [ByteArray.toList_eq]; rfl
      · simp only [Nat.succ_ne_zero, if_false, Nat.add_sub_cancel, List.getElem?_eq_getElem (show k < l.length by omega)] at h
        have h4 := hs k hk
        simp only [lessB, Bool.or_eq_true, Bool.and_eq_true, decide_eq_true_eq] at h4
        rcases h4 with h4 | h4
        · rcases h.2 with h6 | h6
          · rw [h6]; exact h4
          · exact ltS_trans h6 h4
        · rcases h.2 with h6 | h6
          · exact absurd (h4.1.symm.trans h6.symm) e
          · rw [← h4.1]; exact h6
end Go.Proofs.YtfekpbkcidhbfaaDoor
