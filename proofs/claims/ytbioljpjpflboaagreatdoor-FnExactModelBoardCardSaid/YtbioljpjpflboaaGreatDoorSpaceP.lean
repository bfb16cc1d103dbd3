import Derived.Test.YtbioljpjpflboaaGreatDoorSpace
import Derived.Test.YtbioljpjpflboaaGreatDoorStrOrd
import Derived.Test.YtbioljpjpflboaaGreatDoorName
import Derived.Test.YtbioljpjpflboaaGreatDoorIn
/- Spaces: which is in which. -/
namespace Go.Proofs.YtbioljpjpflboaaGreatDoor
open Go Go.RowKit

def named (name : ByteArray) (s : SpaceD) : Bool := decide (s.1 = name)
/-- the place of a space -/
def idxS (l : List SpaceD) (name : ByteArray) : Option Nat := l.findIdx? (named name)
theorem idxS_at {l : List SpaceD} {name : ByteArray} {k : Nat} (h : idxS l name = some k) : ∃ hk : k < l.length, l[k].1 = name ∧ ∀ j (hj : j < k), (l[j]'(Nat.lt_trans hj hk)).1 ≠ name := by
  obtain ⟨hk, h1, h2⟩ := List.findIdx?_eq_some_iff_getElem.1 h
  exact ⟨hk, by simpa [named] using h1, fun j hj => by simpa [named] using h2 j hj⟩
theorem idxS_lt {l : List SpaceD} {name : ByteArray} {k : Nat} (h : idxS l name = some k) : k < l.length := (idxS_at h).1
theorem idxS_name {l : List SpaceD} {name : ByteArray} {k : Nat} (h : idxS l name = some k) : (l[k]'(idxS_lt h)).1 = name := (idxS_at h).2.1
theorem idxS_some {l : List SpaceD} {name : ByteArray} {k : Nat} (hk : k < l.length) (h : l[k].1 = name) (ht : ∀ j (hj : j < k), (l[j]'(Nat.lt_trans hj hk)).1 ≠ name) : idxS l name = some k :=
  List.findIdx?_eq_some_iff_getElem.2 ⟨hk, by simpa [named] using h, fun j hj => by simpa [named] using ht j hj⟩
theorem idxS_none {l : List SpaceD} {name : ByteArray} (h : ∀ j (hj : j < l.length), l[j].1 ≠ name) : idxS l name = none := by
  rw [idxS, List.findIdx?_eq_none_iff]
  intro x hx
  obtain ⟨j, hj, rfl⟩ := List.mem_iff_getElem.1 hx
  simpa [named] using h j hj
theorem idxS_no {l : List SpaceD} {name : ByteArray} (h : idxS l name = none) : ∀ j (hj : j < l.length), l[j].1 ≠ name := by
  intro j hj
  have := List.findIdx?_eq_none_iff.1 h l[j] (List.getElem_mem _)
  simpa [named] using this
theorem idxS_self {l : List SpaceD} {i : Nat} (h : i < l.length) : (idxS l l[i].1).isSome = true := by
  cases e : idxS l l[i].1 with
  | some k => rfl
  | none => exact absurd rfl (idxS_no e i h)

def optI (o : Option Nat) : Int := match o with | some k => (k : Int) | none => -1
/-- the next one outward -/
def nxS (l : List SpaceD) (i : Nat) : Option Nat := (l[i]?).bind fun s => idxS l s.2.1
theorem nxS_at {l : List SpaceD} {i : Nat} (h : i < l.length) : nxS l i = idxS l l[i].2.1 := by simp [nxS, h]
theorem nxS_lt {l : List SpaceD} {i k : Nat} (h : nxS l i = some k) : k < l.length := by
  unfold nxS at h
  cases e : l[i]? with
  | none => rw [e] at h; cases h
  | some s => rw [e] at h; exact idxS_lt h

/-- from a place on outward, so many at most -/
def trail {α : Type} (nx : α → Option α) : Option α → Nat → List α
  | none, _ => []
  | some _, 0 => []
  | some i, k + 1 => i :: trail nx (nx i) k
def after {α : Type} (nx : α → Option α) : Option α → Nat → Option α
  | o, 0 => o
  | none, _ + 1 => none
  | some i, k + 1 => after nx (nx i) k
section
variable {α : Type}
theorem trail_none (nx : α → Option α) (k : Nat) : trail nx none k = [] := by cases k <;> rfl
theorem trail_zero (nx : α → Option α) (o : Option α) : trail nx o 0 = [] := by cases o <;> rfl
theorem after_none (nx : α → Option α) (k : Nat) : after nx none k = none := by cases k <;> rfl
theorem after_succ (nx : α → Option α) : ∀ (k : Nat) (o : Option α), after nx o (k + 1) = (after nx o k).bind nx
  | 0, none => rfl
  | 0, some i => by cases h : nx i <;> simp [after, h]
  | k + 1, none => rfl
  | k + 1, some i => by
    show after nx (nx i) (k + 1) = (after nx (nx i) k).bind nx
    exact after_succ nx k (nx i)
theorem trail_succ (nx : α → Option α) : ∀ (k : Nat) (o : Option α), trail nx o (k + 1) = trail nx o k ++ (after nx o k).toList
  | 0, none => rfl
  | 0, some i => by simp [trail, after, trail_zero]
  | k + 1, none => by simp [trail, after]
  | k + 1, some i => by
    show i :: trail nx (nx i) (k + 1) = (i :: trail nx (nx i) k) ++ (after nx (nx i) k).toList
    rw [trail_succ nx k (nx i)]
    rfl
theorem trail_end {nx : α → Option α} {o : Option α} {k m : Nat} (h : after nx o k = none) (hm : k ≤ m) : trail nx o m = trail nx o k ∧ after nx o m = none := by
  obtain ⟨d, rfl⟩ := Nat.exists_eq_add_of_le hm
  induction d with
  | zero => exact ⟨rfl, h⟩
  | succ d ih =>
    obtain ⟨i1, i2⟩ := ih (Nat.le_add_right _ _)
    exact ⟨by rw [← Nat.add_assoc, trail_succ, i2, i1]; simp, by rw [← Nat.add_assoc, after_succ, i2]; rfl⟩
theorem trail_len {nx : α → Option α} : ∀ (k : Nat) (o : Option α) (i : α), after nx o k = some i → (trail nx o k).length = k
  | 0, o, _, _ => by rw [trail_zero]; rfl
  | k + 1, none, _, h => by simp [after] at h
  | k + 1, some i, j, h => by
    show (trail nx (nx i) k).length + 1 = k + 1
    rw [trail_len k (nx i) j h]
theorem trail_le (nx : α → Option α) : ∀ (k : Nat) (o : Option α), (trail nx o k).length ≤ k
  | 0, o => by rw [trail_zero]; exact Nat.le_refl _
  | k + 1, none => by simp [trail]
  | k + 1, some i => by have := trail_le nx k (nx i); simp only [trail, List.length_cons]; omega
theorem trail_stop {nx : α → Option α} : ∀ (k : Nat) (o : Option α), after nx o k = none → ∀ m, (trail nx o k).length ≤ m → trail nx o m = trail nx o k
  | k, none, _, m, _ => by rw [trail_none, trail_none]
  | 0, some i, h, _, _ => by cases h
  | k + 1, some i, h, 0, hm => by simp [trail] at hm
  | k + 1, some i, h, m + 1, hm => by
    show i :: trail nx (nx i) m = i :: trail nx (nx i) k
    rw [trail_stop k (nx i) h m (by simpa [trail] using hm)]
theorem trail_more {nx : α → Option α} {k m : Nat} (h : k ≤ m) (o : Option α) : ∃ r, trail nx o m = trail nx o k ++ r := by
  obtain ⟨d, rfl⟩ := Nat.exists_eq_add_of_le h
  induction d with
  | zero => exact ⟨[], by simp⟩
  | succ d ih =>
    obtain ⟨r, hr⟩ := ih (Nat.le_add_right _ _)
    exact ⟨r ++ (after nx o (k + d)).toList, by rw [← Nat.add_assoc, trail_succ, hr, List.append_assoc]⟩
/-- a trail over places of one kind is one over places of another -/
theorem trail_map {β : Type} {f : α → β} {nx : α → Option α} {ny : β → Option β} (h : ∀ i, ny (f i) = (nx i).map f) : ∀ (k : Nat) (o : Option α), (trail nx o k).map f = trail ny (o.map f) k
  | k, none => by rw [trail_none]; exact (trail_none ny k).symm
  | 0, some i => by rw [trail_zero]; exact (trail_zero ny _).symm
  | k + 1, some i => by
    show f i :: (trail nx (nx i) k).map f = f i :: trail ny (ny (f i)) k
    rw [trail_map h k (nx i), h i]
theorem after_map {β : Type} {f : α → β} {nx : α → Option α} {ny : β → Option β} (h : ∀ i, ny (f i) = (nx i).map f) : ∀ (k : Nat) (o : Option α), (after nx o k).map f = after ny (o.map f) k
  | k, none => by rw [after_none]; exact (after_none ny k).symm
  | 0, some i => rfl
  | k + 1, some i => by
    show (after nx (nx i) k).map f = after ny (ny (f i)) k
    rw [after_map h k (nx i), h i]
end

def nmS (l : List SpaceD) (i : Nat) : ByteArray := (l.getD i default).1
theorem nmS_at {l : List SpaceD} {i : Nat} (h : i < l.length) : nmS l i = l[i].1 := by simp [nmS, h]
/-- the names from a space on outward -/
def upS (l : List SpaceD) (name : ByteArray) : List ByteArray := (trail (nxS l) (idxS l name) 8).map (nmS l)

def allB : ByteArray := ⟨#[97, 108, 108]⟩
/-- one space is ok by itself -/
def spOk (s : SpaceD) : Bool := nameB s.1.data.toList && (decide (s.2.1 = ⟨#[]⟩) || nameB s.2.1.data.toList) && (decide (s.2.1 = ⟨#[]⟩) == decide (s.1 = allB)) && inB s.2.2.1 (-1) 99999 && inB s.2.2.2.2 0 99999 && (!decide (s.2.1 = ⟨#[]⟩) || !s.2.2.2.1)
def ascP (l : List SpaceD) (i : Nat) : Bool := spOk (l.getD i default) && (decide (i = 0) || ltS (nmS l (i - 1)) (nmS l i))
def upP (l : List SpaceD) (i : Nat) : Bool := decide ((upS l (nmS l i)).length ≤ l.length) && decide ((upS l (nmS l i)).getLast? = some allB)
def lineB (l : List SpaceD) : Bool := (List.range l.length).all (ascP l)
/-- spaces are ok -/
def spsOk (l : List SpaceD) : Bool := lineB l && (List.range l.length).all (upP l) && decide (1 ≤ l.length ∧ l.length ≤ 7) && (idxS l allB).isSome
end Go.Proofs.YtbioljpjpflboaaGreatDoor
