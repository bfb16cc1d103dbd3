import Derived.Test.YteejabpohnfoaaaDoorScanP
/- Entries with one more: plain words. -/
namespace Go.Proofs.YteejabpohnfoaaaDoor
open Go Go.RowKit

theorem span_at {α : Type} (p : α → Bool) : ∀ (l : List α) (k : Nat), (∀ x ∈ l.take k, p x = true) → (∀ h : k < l.length, p l[k] = false) → l.takeWhile p = l.take k ∧ l.dropWhile p = l.drop k
  | [], k, _, _ => by simp
  | x :: l, 0, _, h => by
    have := h (by simp)
    simp only [List.getElem_cons_zero] at this
    simp [this]
  | x :: l, k + 1, h1, h2 => by
    have hx : p x = true := h1 x (by simp)
    obtain ⟨g1, g2⟩ := span_at p l k (fun y hy => h1 y (by simp [hy])) (fun h => by have := h2 (by simpa using h); simpa using this)
    simp [hx, g1, g2]

/-- entries with one more in its place -/
def putE (l : List EntryD) (e : EntryD) : List EntryD := l.takeWhile (fun x => lessB x e) ++ e :: l.dropWhile (fun x => lessB x e)
theorem putE_at {l : List EntryD} {e : EntryD} {k : Nat} (h1 : ∀ x ∈ l.take k, lessB x e = true) (h2 : ∀ h : k < l.length, lessB l[k] e = false) : putE l e = (l.take k ++ [e]) ++ l.drop k := by
  obtain ⟨g1, g2⟩ := span_at (fun x => lessB x e) l k h1 h2
  unfold putE
  rw [g1, g2, List.append_assoc]
  rfl
theorem putE_len (l : List EntryD) (e : EntryD) : (putE l e).length = l.length + 1 := by
  have h := congrArg List.length (List.takeWhile_append_dropWhile (p := fun x => lessB x e) (l := l))
  rw [List.length_append] at h
  unfold putE
  rw [List.length_append, List.length_cons]
  omega
theorem putE_mem {l : List EntryD} {e x : EntryD} (h : x ∈ putE l e) : x = e ∨ x ∈ l := by
  unfold putE at h
  rcases List.mem_append.1 h with h | h
  · exact .inr ((List.takeWhile_sublist _).subset h)
  · rcases List.mem_cons.1 h with h | h
    · exact .inl h
    · exact .inr ((List.dropWhile_sublist _).subset h)
/-- whether there is an entry of that key and moment -/
def isE (e x : EntryD) : Bool := decide (x.1 = e.1) && decide (x.2.1 = e.2.1)
def hasE (l : List EntryD) (e : EntryD) : Bool := l.any (isE e)
theorem hasE_yes {l : List EntryD} {e : EntryD} {k : Nat} (h : k < l.length) (hp : isE e l[k] = true) : hasE l e = true := List.any_eq_true.2 ⟨_, List.getElem_mem _, hp⟩
theorem hasE_no {l : List EntryD} {e : EntryD} {k : Nat} (hk : l.length ≤ k) (h : (l.take k).any (isE e) = false) : hasE l e = false := by rwa [List.take_of_length_le hk] at h
theorem any_take_succ {l : List EntryD} {p : EntryD → Bool} {k : Nat} (hk : k < l.length) (h : (l.take k).any p = false) (hp : p l[k] = false) : (l.take (k+1)).any p = false := by
  rw [List.take_succ_eq_append_getElem hk, List.any_append, h]
  simp [hp]
theorem all_take_succ {l : List EntryD} {p : EntryD → Bool} {k : Nat} (hk : k < l.length) (h : ∀ x ∈ l.take k, p x = true) (hp : p l[k] = true) : ∀ x ∈ l.take (k+1), p x = true := by
  rw [List.take_succ_eq_append_getElem hk]
  intro x hx
  rcases List.mem_append.1 hx with hx | hx
  · exact h x hx
  · rw [List.mem_singleton.1 hx]; exact hp
end Go.Proofs.YteejabpohnfoaaaDoor
