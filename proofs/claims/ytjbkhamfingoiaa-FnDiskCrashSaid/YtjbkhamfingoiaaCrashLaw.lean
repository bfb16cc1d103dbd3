import Derived.Test.YtjbkhamfingoiaaDiskLaw
/- What the law of power cuts rests on. -/
namespace Go.Proofs.Ytjbkhamfingoiaa
open Go Go.RowKit

theorem upTo_some (f : Nat → Bool) (l : List WaitD) (bl : List ByteArray) (i : Nat) (hi : i < bl.length) (hl : ∀ x ∈ l, 0 ≤ x.1) : ∀ j, (upTo f l bl j).getD i nilB = bl.getD i nilB ∨ ∃ y ∈ l, y.1 = (i : Int) ∧ y.2 = (upTo f l bl j).getD i nilB
  | 0 => .inl rfl
  | j + 1 => by
    have ih := upTo_some f l bl i hi hl j
    cases e : l[j]? with
    | none =>
      have : upTo f l bl (j + 1) = upTo f l bl j := by simp [upTo, e]
      rw [this]; exact ih
    | some x =>
      have hx := List.mem_of_getElem? e
      have h0 := hl x hx
      cases hf : f j
      · have : upTo f l bl (j + 1) = upTo f l bl j := by simp [upTo, e, hf]
        rw [this]; exact ih
      · have : upTo f l bl (j + 1) = setAt (upTo f l bl j) x := by simp [upTo, e, hf]
        rw [this]
        by_cases hxi : x.1 = (i : Int)
        · right
          refine ⟨x, hx, hxi, ?_⟩
          have : x.1.toNat = i := by omega
          simp [setAt, this, List.getD, upTo_len, hi]
        · have : x.1.toNat ≠ i := by omega
          have e2 : (setAt (upTo f l bl j) x).getD i nilB = (upTo f l bl j).getD i nilB := by simp [setAt, List.getD, this]
          rw [e2]; exact ih
theorem upTo_none (f : Nat → Bool) (l : List WaitD) (bl : List ByteArray) : ∀ j, (∀ i < j, f i = false) → upTo f l bl j = bl
  | 0, _ => rfl
  | j + 1, h => by
    have h1 := h j (by omega)
    have ih := upTo_none f l bl j (fun i hi => h i (by omega))
    unfold upTo
    cases l[j]? <;> simp [h1, ih]
theorem upTo_allOf (f : Nat → Bool) (l : List WaitD) (bl : List ByteArray) : ∀ j, (∀ i < j, f i = true) → upTo f l bl j = upTo allB l bl j
  | 0, _ => rfl
  | j + 1, h => by
    have h1 := h j (by omega)
    have ih := upTo_allOf f l bl j (fun i hi => h i (by omega))
    unfold upTo
    cases l[j]? <;> simp [h1, ih, allB]
theorem bit_none (i : Nat) : bitB 0 i = false := by simp [bitB]
theorem bit_all (i : Nat) (h : i < 58) : bitB 288230376151711743 i = true := by
  unfold bitB
  rw [Nat.mod_eq_of_lt (by omega)]
  have : (288230376151711743 : Nat) = 2 ^ 58 - 1 := by decide
  rw [this, Nat.testBit_two_pow_sub_one]
  simp [h]

theorem crashTop_eq {d : DiskD} (m : Nat) (h : diskOk d = true) : crashTop d m = (upTo (bitB m) d.2.1 d.1 d.2.1.length, [], -1) := by
  unfold crashTop
  rw [h]
  simp [dCrash]
theorem crash_none {d : DiskD} (h : diskOk d = true) : (crashTop d (0 : Nat)).1 = d.1 := by
  rw [crashTop_eq 0 h]
  exact upTo_none _ _ _ _ (fun i _ => bit_none i)
theorem crash_all {d : DiskD} (h : diskOk d = true) (hl : d.2.1.length ≤ 58) (i : Nat) (hi : i < 140) : (crashTop d (288230376151711743 : Nat)).1.getD i nilB = readTop d i := by
  rw [crashTop_eq _ h, readTop_at h i hi]
  obtain ⟨h1, h2, h3, h4⟩ := diskOk_all h
  show (upTo _ _ _ _).getD i nilB = _
  rw [upTo_allOf _ _ _ _ (fun j hj => bit_all j (by omega))]
  exact upTo_get _ _ i (by omega) (fun x hx => (h3 x hx).1) _
/-- what the first k of what waits say of block i -/
def okTo (d : DiskD) (i : Nat) (t : ByteArray) (k : Nat) : Bool := decide (t = d.1.getD i nilB) || (d.2.1.take k).any fun y => decide (y.1 = (i : Int)) && decide (y.2 = t)
theorem okTo_succ (d : DiskD) (i : Nat) (t : ByteArray) (k : Nat) (h : k < d.2.1.length) : okTo d i t (k + 1) = (okTo d i t k || (decide (d.2.1[k].1 = (i : Int)) && decide (d.2.1[k].2 = t))) := by
  unfold okTo
  rw [List.take_succ_eq_append_getElem h, List.any_append]
  simp [Bool.or_assoc]
theorem okTo_full {d : DiskD} (m : Nat) (h : diskOk d = true) (i : Nat) (hi : i < 140) : okTo d i ((crashTop d m).1.getD i nilB) d.2.1.length = true := by
  obtain ⟨h1, h2, h3, h4⟩ := diskOk_all h
  rw [crashTop_eq m h]
  unfold okTo
  rw [List.take_length]
  rcases upTo_some (bitB m) d.2.1 d.1 i (by omega) (fun x hx => (h3 x hx).1) d.2.1.length with e | ⟨y, hy, e1, e2⟩
  · show (decide ((upTo _ _ _ _).getD i nilB = _) || _) = true
    rw [e]; simp
  · rw [Bool.or_eq_true]
    right
    rw [List.any_eq_true]
    exact ⟨y, hy, by simp [e1, e2]⟩
end Go.Proofs.Ytjbkhamfingoiaa
