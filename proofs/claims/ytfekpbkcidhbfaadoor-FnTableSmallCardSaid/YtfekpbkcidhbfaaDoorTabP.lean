import Derived.Test.YtfekpbkcidhbfaaDoorBloomP
import Derived.Test.YtfekpbkcidhbfaaDoorOrd
import Derived.Test.YtfekpbkcidhbfaaDoorTextW
/- Tables as texts: plain words. -/
namespace Go.Proofs.YtfekpbkcidhbfaaDoor
open Go Go.RowKit

abbrev decT (n : Nat) : List UInt8 := Lib.decDigits n
theorem decT_small {n : Nat} (h : n < 10) : decT n = [UInt8.ofNat (48 + n)] := Lib.decDigits_one h
theorem decT_next {n : Nat} (h : ¬ n < 10) : decT n = decT (n / 10) ++ [UInt8.ofNat (48 + n % 10)] := by
  conv => lhs; unfold decT; rw [Lib.decDigits, dif_neg h]
/-- how many bytes two texts begin with alike -/
def alikeL : List UInt8 → List UInt8 → Nat
  | a :: x, b :: y => if a = b then alikeL x y + 1 else 0
  | _, _ => 0
theorem alikeL_of : ∀ (a b : List UInt8) (n : Nat) (ha : n ≤ a.length) (hb : n ≤ b.length) (_h : ∀ j (h : j < n), a[j]'(by omega) = b[j]'(by omega)) (_he : n = a.length ∨ n = b.length ∨ ∃ (h1 : n < a.length) (h2 : n < b.length), a[n] ≠ b[n]), alikeL a b = n
  | [], b, n, ha, _, _, _ => by
    have : n = 0 := by simpa using ha
    subst this
    rfl
  | a :: x, [], n, _, hb, _, _ => by
    have : n = 0 := by simpa using hb
    subst this
    rfl
  | a :: x, b :: y, 0, _, _, _, he => by
    have hne : a ≠ b := by
      rcases he with h | h | ⟨_, _, h⟩
      · simp at h
      · simp at h
      · exact h
    show (if a = b then alikeL x y + 1 else 0) = 0
    rw [if_neg hne]
  | a :: x, b :: y, n + 1, ha, hb, h, he => by
    have h0 : a = b := h 0 (by omega)
    show (if a = b then alikeL x y + 1 else 0) = n + 1
    rw [if_pos h0, alikeL_of x y n (by simpa using ha) (by simpa using hb) (fun j hj => h (j + 1) (by omega)) (by
      rcases he with h | h | ⟨p, q, h⟩
      · exact .inl (by simpa using h)
      · exact .inr (.inl (by simpa using h))
      · exact .inr (.inr ⟨by simpa using p, by simpa using q, by simpa using h⟩))]
theorem alikeL_le : ∀ a b : List UInt8, alikeL a b ≤ a.length ∧ alikeL a b ≤ b.length
  | [], b => by simp [alikeL]
  | a :: x, [] => by simp [alikeL]
  | a :: x, b :: y => by
    have := alikeL_le x y
    unfold alikeL
    split
    · simp only [List.length_cons]; omega
    · simp
def alikeB (a b : ByteArray) : Nat := alikeL a.data.toList b.data.toList
theorem alikeB_le (a b : ByteArray) : alikeB a b ≤ a.size ∧ alikeB a b ≤ b.size := by
  have := alikeL_le a.data.toList b.data.toList
  simpa [alikeB] using this
theorem alikeB_of {a b : ByteArray} {n : Nat} (ha : n ≤ a.size) (hb : n ≤ b.size) (h : ∀ j (h : j < n), a[j]'(by omega) = b[j]'(by omega)) (he : n = a.size ∨ n = b.size ∨ ∃ (h1 : n < a.size) (h2 : n < b.size), a[n] ≠ b[n]) : alikeB a b = n := by
  unfold alikeB
  refine alikeL_of _ _ n (by simpa using ha) (by simpa using hb) (fun j hj => ?_) ?_
  · have e := h j hj
    show a.data.toList[j]'_ = b.data.toList[j]'_
    rw [Array.getElem_toList, Array.getElem_toList]
    exact e
  rcases he with h | h | ⟨p, q, h⟩
  · exact .inl (by simpa using h)
  · exact .inr (.inl (by simpa using h))
  · refine .inr (.inr ⟨by simpa using p, by simpa using q, ?_⟩)
    rw [Array.getElem_toList, Array.getElem_toList]
    exact h
def spB : ByteArray := ⟨#[32]⟩
def nlB : ByteArray := ⟨#[10]⟩
/-- an entry as a line behind a key -/
def lineA (last : ByteArray) (e : EntryD) : ByteArray := decI (alikeB last e.1 : Nat) ++ spB ++ e.1.extract (alikeB last e.1) e.1.size ++ spB ++ decI e.2.1
def lineB (last : ByteArray) (e : EntryD) : ByteArray := (if e.2.2.1 = true then lineA last e else lineA last e ++ (spB ++ e.2.2.2)) ++ nlB
def lastK (l : List EntryD) (k : Nat) : ByteArray := if k % 4 = 0 then ⟨#[]⟩ else (l.getD (k - 1) (⟨#[]⟩, 0, false, ⟨#[]⟩)).1
def linesTo (l : List EntryD) : Nat → ByteArray
  | 0 => ⟨#[]⟩
  | k + 1 => linesTo l k ++ lineB (lastK l k) (l.getD k (⟨#[]⟩, 0, false, ⟨#[]⟩))
def keysE (l : List EntryD) : List ByteArray := l.map (·.1)
/-- table and a blank -/
def headA : ByteArray := ⟨#[116, 97, 98, 108, 101, 32]⟩
def headB (l : List EntryD) : ByteArray := headA ++ decI (l.length : Nat) ++ spB ++ bloomB (bitK (keysE l)) ++ nlB
def tableB (l : List EntryD) : ByteArray := headB l ++ linesTo l l.length
def tableV (l : List EntryD) : ByteArray := if entsB l = true then (if (tableB l).size ≤ 7000 then tableB l else ⟨#[]⟩) else ⟨#[]⟩
theorem tableV_no {l : List EntryD} (h : entsB l = false) : tableV l = ⟨#[]⟩ := by unfold tableV; rw [h]; rfl
theorem tableV_yes {l : List EntryD} (h : entsB l = true) (h2 : (tableB l).size ≤ 7000) : tableV l = tableB l := by unfold tableV; rw [if_pos h, if_pos h2]
theorem tableV_long {l : List EntryD} (h : entsB l = true) (h2 : ¬ (tableB l).size ≤ 7000) : tableV l = ⟨#[]⟩ := by unfold tableV; rw [if_pos h, if_neg h2]
theorem bloomB_size (f : Nat → Bool) : (bloomB f).size = 16 := by rw [← bloomTo_all]; exact bloomTo_size f 16
theorem decI_small {n k : Nat} (h : n < 10 ^ (k + 1)) : (decI (n : Int)).size ≤ k + 1 := by
  have hl : ∀ k n, n < 10 ^ (k + 1) → (decT n).length ≤ k + 1 := by
    intro k
    induction k with
    | zero => intro n h; rw [decT_small (by simpa using h)]; simp
    | succ k ih =>
      intro n h
      by_cases h9 : n < 10
      · rw [decT_small h9]; simp
      · rw [decT_next h9, List.length_append]
        have := ih (n / 10) (by rw [Nat.pow_succ] at h; omega)
        simp only [List.length_cons, List.length_nil]
        omega
  rw [decI_nat (by omega)]
  unfold decB
  have := hl k n h
  show (Lib.decDigits n).toArray.size ≤ k + 1
  simpa using this
theorem ent_bounds {e : EntryD} (h : entB e = true) : e.1.size ≤ 24 ∧ 1 ≤ e.2.1 ∧ e.2.1 ≤ 99999999 ∧ e.2.2.2.size ≤ 80 := by
  unfold entB keyB valB inB at h
  simp only [Bool.and_eq_true, decide_eq_true_eq] at h
  omega
theorem lineA_size (last : ByteArray) {e : EntryD} (h : entB e = true) : (lineA last e).size ≤ e.1.size + 12 := by
  obtain ⟨h1, h2, h3, h4⟩ := ent_bounds h
  have ha := (alikeB_le last e.1).2
  have d1 : (decI (alikeB last e.1 : Nat)).size ≤ 2 := decI_small (k := 1) (by omega)
  have d2 : (decI e.2.1).size ≤ 8 := by
    have := decI_small (n := e.2.1.toNat) (k := 7) (by omega)
    rwa [show ((e.2.1.toNat : Nat) : Int) = e.2.1 by omega] at this
  unfold lineA spB
  simp only [ByteArray.size_append, ByteArray.size_extract]
  show _ + 1 + _ + 1 + _ ≤ _
  omega
theorem lineB_size (last : ByteArray) {e : EntryD} (h : entB e = true) : (lineB last e).size ≤ e.1.size + e.2.2.2.size + 14 := by
  have hA := lineA_size last h
  unfold lineB spB nlB
  rw [ByteArray.size_append]
  split
  · show _ + 1 ≤ _
    omega
  · rw [ByteArray.size_append, ByteArray.size_append]
    show _ + (1 + _) + 1 ≤ _
    omega
end Go.Proofs.YtfekpbkcidhbfaaDoor
