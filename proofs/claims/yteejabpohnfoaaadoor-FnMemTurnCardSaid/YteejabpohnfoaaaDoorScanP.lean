import Derived.Test.YteejabpohnfoaaaDoorTrimI
/- What many keys have at a moment: plain words and their laws. -/
namespace Go.Proofs.YteejabpohnfoaaaDoor
open Go Go.RowKit

theorem bl_pre : ∀ p t : List UInt8, Op.bytesLess (p ++ t) p = false
  | [], t => by cases t <;> rfl
  | c :: p, t => by
    have ih := bl_pre p t
    simp [Op.bytesLess, ih]
theorem bl_mid : ∀ p t x : List UInt8, Op.bytesLess x p = false → Op.bytesLess (p ++ t) x = false → ∃ u, x = p ++ u
  | [], _, x, _, _ => ⟨x, rfl⟩
  | c :: p, t, [], h, _ => by simp [Op.bytesLess] at h
  | c :: p, t, d :: x, h1, h2 => by
    simp only [List.cons_append, Op.bytesLess, Bool.or_eq_false_iff, decide_eq_false_iff_not, Bool.and_eq_false_iff, beq_eq_false_iff_ne] at h1 h2
    have hcd : c = d := UInt8.le_antisymm (UInt8.not_lt.1 h1.1) (UInt8.not_lt.1 h2.1)
    subst hcd
    obtain ⟨u, hu⟩ := bl_mid p t x (h1.2.resolve_left (fun k => k rfl)) (h2.2.resolve_left (fun k => k rfl))
    exact ⟨u, by rw [hu]; rfl⟩

/-- text s begins with text pre -/
def startsB (s pre : ByteArray) : Bool := decide (s.data.toList.take pre.size = pre.data.toList)
theorem starts_iff {s pre : ByteArray} : startsB s pre = true ↔ ∃ t, s.toList = pre.toList ++ t := by
  rw [ByteArray.toList_eq, ByteArray.toList_eq]
  unfold startsB
  rw [decide_eq_true_eq]
  constructor
  · intro h
    exact ⟨s.data.toList.drop pre.size, by rw [← h, List.take_append_drop]⟩
  · rintro ⟨t, h⟩
    rw [h, List.take_left' (by simp)]
theorem starts_nil (s : ByteArray) : startsB s ⟨#[]⟩ = true := decide_eq_true rfl
theorem starts_ge {s pre : ByteArray} (h : startsB s pre = true) : ltS s pre = false := by
  obtain ⟨t, ht⟩ := starts_iff.1 h
  unfold ltS
  rw [ht]
  exact bl_pre _ _
theorem starts_mid {x y pre : ByteArray} (h1 : ltS x pre = false) (h2 : ltS y x = false) (h : startsB y pre = true) : startsB x pre = true := by
  obtain ⟨t, ht⟩ := starts_iff.1 h
  unfold ltS at h1 h2
  rw [ht] at h2
  exact starts_iff.2 (bl_mid _ _ _ h1 h2)

/-- what each key has, key by key; told: the key that was told last -/
def seenR (seq : Int) : ByteArray → List EntryD → List EntryD
  | _, [] => []
  | told, e :: l => if decide (seq < e.2.1) || decide (e.1 = told) then seenR seq told l else if e.2.2.1 then seenR seq e.1 l else e :: seenR seq e.1 l
/-- the same, of keys that begin so -/
def scanR (pre : ByteArray) (seq : Int) : ByteArray → List EntryD → List EntryD
  | _, [] => []
  | last, e :: l => if decide (seq < e.2.1) || decide (e.1 = last) || !startsB e.1 pre then scanR pre seq last l else if e.2.2.1 then scanR pre seq e.1 l else e :: scanR pre seq e.1 l

theorem seenR_mem {seq : Int} {x : EntryD} : ∀ {m : List EntryD} {told : ByteArray}, x ∈ seenR seq told m → x ∈ m
  | [], _, h => by simp [seenR] at h
  | e :: m, told, h => by
    unfold seenR at h
    split at h
    · exact List.mem_cons_of_mem _ (seenR_mem h)
    · split at h
      · exact List.mem_cons_of_mem _ (seenR_mem h)
      · rcases List.mem_cons.1 h with h | h
        · rw [h]; exact List.mem_cons_self
        · exact List.mem_cons_of_mem _ (seenR_mem h)
theorem scanR_mem {pre : ByteArray} {seq : Int} {x : EntryD} : ∀ {m : List EntryD} {told : ByteArray}, x ∈ scanR pre seq told m → x ∈ m
  | [], _, h => by simp [scanR] at h
  | e :: m, told, h => by
    unfold scanR at h
    split at h
    · exact List.mem_cons_of_mem _ (scanR_mem h)
    · split at h
      · exact List.mem_cons_of_mem _ (scanR_mem h)
      · rcases List.mem_cons.1 h with h | h
        · rw [h]; exact List.mem_cons_self
        · exact List.mem_cons_of_mem _ (scanR_mem h)
theorem seenR_len (seq : Int) : ∀ (m : List EntryD) (told : ByteArray), (seenR seq told m).length ≤ m.length
  | [], _ => by simp [seenR]
  | e :: m, told => by
    have h1 := seenR_len seq m told
    have h2 := seenR_len seq m e.1
    unfold seenR
    split
    · simp; omega
    · split <;> simp <;> omega
theorem scanR_len (pre : ByteArray) (seq : Int) : ∀ (m : List EntryD) (told : ByteArray), (scanR pre seq told m).length ≤ m.length
  | [], _ => by simp [scanR]
  | e :: m, told => by
    have h1 := scanR_len pre seq m told
    have h2 := scanR_len pre seq m e.1
    unfold scanR
    split
    · simp; omega
    · split <;> simp <;> omega
theorem scanR_skip {pre : ByteArray} {seq : Int} : ∀ (l m : List EntryD) (told : ByteArray), (∀ e ∈ l, startsB e.1 pre = false) → scanR pre seq told (l ++ m) = scanR pre seq told m
  | [], _, _, _ => rfl
  | e :: l, m, told, h => by
    rw [List.cons_append]
    unfold scanR
    rw [if_pos (by simp [h e List.mem_cons_self])]
    rw [scanR_skip l m told (fun x hx => h x (List.mem_cons_of_mem _ hx))]
    cases m <;> rfl
theorem take_none {α : Type} {p : α → Bool} : ∀ {l : List α}, (∀ x ∈ l, p x = false) → l.takeWhile p = []
  | [], _ => rfl
  | x :: l, h => by simp [h x List.mem_cons_self]

/-- in order, as a list -/
def PW (l : List EntryD) : Prop := l.Pairwise (fun a b => lessB a b = true)
theorem pw_of {l : List EntryD} (h : ∀ j (hj : j + 1 < l.length), lessB (l[j]'(by omega)) l[j+1] = true) : PW l :=
  List.pairwise_iff_getElem.2 fun i j _ hj hij => sorted_lt h i j hij hj
theorem less_key {a b : EntryD} (h : lessB a b = true) : ltS b.1 a.1 = false := by
  simp only [lessB, Bool.or_eq_true, Bool.and_eq_true, decide_eq_true_eq] at h
  rcases h with h | h
  · exact ltS_asymm h
  · rw [h.1]; exact ltS_irrefl _

theorem seen_no {seq : Int} {told : ByteArray} {e : EntryD} {m : List EntryD} (h : (decide (seq < e.2.1) || decide (e.1 = told)) = true) : seenR seq told (e :: m) = seenR seq told m := by rw [seenR, if_pos h]
theorem seen_yes {seq : Int} {told : ByteArray} {e : EntryD} {m : List EntryD} (h : ¬ (decide (seq < e.2.1) || decide (e.1 = told)) = true) : seenR seq told (e :: m) = if e.2.2.1 then seenR seq e.1 m else e :: seenR seq e.1 m := by rw [seenR, if_neg h]
theorem scan_no {pre : ByteArray} {seq : Int} {told : ByteArray} {e : EntryD} {m : List EntryD} (h : (decide (seq < e.2.1) || decide (e.1 = told) || !startsB e.1 pre) = true) : scanR pre seq told (e :: m) = scanR pre seq told m := by rw [scanR, if_pos h]
theorem scan_yes {pre : ByteArray} {seq : Int} {told : ByteArray} {e : EntryD} {m : List EntryD} (h : ¬ (decide (seq < e.2.1) || decide (e.1 = told) || !startsB e.1 pre) = true) : scanR pre seq told (e :: m) = if e.2.2.1 then scanR pre seq e.1 m else e :: scanR pre seq e.1 m := by rw [scanR, if_neg h]
theorem seen_take {pre : ByteArray} {seq : Int} : ∀ (m : List EntryD) (told : ByteArray), PW m → (∀ e ∈ m, ltS e.1 pre = false) →
    (seenR seq told m).takeWhile (fun e => startsB e.1 pre) = scanR pre seq told m
  | [], _, _, _ => rfl
  | e :: m, told, hs, hp => by
    obtain ⟨hs1, hs2⟩ := List.pairwise_cons.1 hs
    have hm : ∀ x ∈ m, ltS x.1 pre = false := fun x hx => hp x (List.mem_cons_of_mem _ hx)
    by_cases h1 : (decide (seq < e.2.1) || decide (e.1 = told)) = true
    · rw [seen_no h1, scan_no (by rw [h1]; rfl)]
      exact seen_take m told hs2 hm
    · cases h2 : startsB e.1 pre with
      | true =>
        have h3 : ¬ (decide (seq < e.2.1) || decide (e.1 = told) || !startsB e.1 pre) = true := by rw [h2, Bool.not_true, Bool.or_false]; exact h1
        rw [seen_yes h1, scan_yes h3]
        have ih := seen_take (pre := pre) (seq := seq) m e.1 hs2 hm
        cases hd : e.2.2.1 with
        | true => rw [if_pos rfl, if_pos rfl]; exact ih
        | false => rw [if_neg Bool.false_ne_true, if_neg Bool.false_ne_true, List.takeWhile_cons, h2, if_pos rfl, ih]
      | false =>
        have h3 : (decide (seq < e.2.1) || decide (e.1 = told) || !startsB e.1 pre) = true := by rw [h2]; simp
        have hno : ∀ x ∈ m, startsB x.1 pre = false := fun x hx => by
          cases hc : startsB x.1 pre with
          | false => rfl
          | true => rw [starts_mid (hp e List.mem_cons_self) (less_key (hs1 x hx)) hc] at h2; cases h2
        have hnil : scanR pre seq told m = [] := by
          have := scanR_skip (seq := seq) m [] told hno
          rw [List.append_nil] at this
          rw [this]; rfl
        rw [scan_no h3, hnil]
        apply take_none
        intro x hx
        rcases List.mem_cons.1 (seenR_mem hx) with rfl | hx
        · exact h2
        · exact hno x hx

/-- all that stands ahead of a beginning's place does not begin so -/
theorem scan_place {l : List EntryD} {pre : ByteArray} {seq : Int} {p : Nat} (hs : ∀ j (hj : j + 1 < l.length), lessB (l[j]'(by omega)) l[j+1] = true) (hok : ∀ j (hj : j < l.length), l[j].2.1 ≤ 99999999)
    (h1 : ∀ r (hr : r < l.length), r < p → lessB l[r] (tgt pre 99999999) = true) (h2 : ∀ r (hr : r < l.length), p ≤ r → lessB l[r] (tgt pre 99999999) = false) :
    (seenR seq ⟨#[]⟩ (l.drop p)).takeWhile (fun e => startsB e.1 pre) = scanR pre seq ⟨#[]⟩ l := by
  have hpw := pw_of hs
  rw [seen_take]
  · conv => rhs; rw [← List.take_append_drop p l]
    rw [scanR_skip]
    intro e he
    obtain ⟨j, hj, rfl⟩ := List.getElem_of_mem he
    simp only [List.length_take] at hj
    rw [List.getElem_take]
    have h := h1 j (by omega) (by omega)
    rw [lessB_tgt] at h
    have hq := hok j (by omega)
    cases hc : startsB l[j].1 pre with
    | false => rfl
    | true =>
      have := starts_ge hc
      simp only [Bool.or_eq_true, this, Bool.false_eq_true, false_or, Bool.and_eq_true, decide_eq_true_eq] at h
      omega
  · exact hpw.drop
  · intro e he
    obtain ⟨j, hj, rfl⟩ := List.getElem_of_mem he
    simp only [List.length_drop] at hj
    rw [List.getElem_drop]
    have h := h2 (p + j) (by omega) (by omega)
    rw [lessB_tgt] at h
    simp only [Bool.or_eq_false_iff] at h
    exact h.1

/-- what MemScan answers, of entries that may be not ok -/
def scanV (l : List EntryD) (pre : ByteArray) (seq : Int) : List EntryD := if entsB l = true then scanR pre seq ⟨#[]⟩ l else []
theorem scanV_no {l : List EntryD} {pre : ByteArray} {seq : Int} (h : entsB l = false) : scanV l pre seq = [] := by unfold scanV; rw [h]; rfl
theorem scanV_yes {l : List EntryD} {pre : ByteArray} {seq : Int} (h : entsB l = true) : scanV l pre seq = scanR pre seq ⟨#[]⟩ l := by unfold scanV; rw [if_pos h]
theorem scanV_len (l : List EntryD) (pre : ByteArray) (seq : Int) : (scanV l pre seq).length ≤ 240 := by
  cases h : entsB l with
  | false => rw [scanV_no h]; simp
  | true => rw [scanV_yes h]; exact Nat.le_trans (scanR_len _ _ _ _) (entsB_at h).1
theorem scanV_mem {l : List EntryD} {pre : ByteArray} {seq : Int} {x : EntryD} (hx : x ∈ scanV l pre seq) : x ∈ l := by
  cases h : entsB l with
  | false => rw [scanV_no h] at hx; simp at hx
  | true => rw [scanV_yes h] at hx; exact scanR_mem hx
end Go.Proofs.YteejabpohnfoaaaDoor
