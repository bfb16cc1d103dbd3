import Derived.Test.YtjbkhamfingoiaaDiskPure
/- What the laws of disks rest on: what is read behind a write, a flush, a crash. -/
namespace Go.Proofs.Ytjbkhamfingoiaa
open Go Go.RowKit

def nilB : ByteArray := ⟨#[]⟩
theorem rdTo_append (l m : List WaitD) (i : Int) (b : ByteArray) : ∀ j, j ≤ l.length → rdTo (l ++ m) i b j = rdTo l i b j
  | 0, _ => rfl
  | j + 1, h => by
    unfold rdTo
    rw [List.getElem?_append_left (by omega), rdTo_append l m i b j (by omega)]
theorem rdTo_snoc (l : List WaitD) (n i : Int) (s b : ByteArray) : rdTo (l ++ [(n, s)]) i b (l ++ [(n, s)]).length = if n = i then s else rdTo l i b l.length := by
  rw [List.length_append]
  show rdTo (l ++ [(n, s)]) i b (l.length + 1) = _
  conv => lhs; unfold rdTo
  rw [List.getElem?_append_right (Nat.le_refl _), rdTo_append l _ i b _ (Nat.le_refl _)]
  simp
theorem upTo_get (l : List WaitD) (bl : List ByteArray) (i : Nat) (hi : i < bl.length) (hl : ∀ x ∈ l, 0 ≤ x.1) : ∀ j, (upTo allB l bl j).getD i nilB = rdTo l i (bl.getD i nilB) j
  | 0 => rfl
  | j + 1 => by
    unfold upTo rdTo
    cases e : l[j]? with
    | none => exact upTo_get l bl i hi hl j
    | some x =>
      have h0 := hl x (List.mem_of_getElem? e)
      have ih := upTo_get l bl i hi hl j
      simp only [allB, if_true, setAt]
      by_cases h : x.1 = (i : Int)
      · rw [if_pos h]
        have hx : x.1.toNat = i := by omega
        rw [hx]
        simp [List.getD, upTo_len, hi]
      · rw [if_neg h, ← ih]
        have hx : x.1.toNat ≠ i := by omega
        simp [List.getD, hx]

theorem diskOk_of {d : DiskD} (h1 : d.1.length = 140) (h2 : ∀ s ∈ d.1, s.size ≤ 200) (h3 : ∀ x ∈ d.2.1, 0 ≤ x.1 ∧ x.1 ≤ 139 ∧ x.2.size ≤ 200) (h4 : -1 ≤ d.2.2) : diskOk d = true := by
  simp only [diskOk, Bool.and_eq_true, decide_eq_true_eq, List.all_eq_true]
  exact ⟨⟨fun s hs => by simpa [blkOk] using h2 s hs, fun x hx => by simpa [waitOk] using h3 x hx⟩, h1, h4⟩
theorem diskOk_all {d : DiskD} (h : diskOk d = true) : d.1.length = 140 ∧ (∀ s ∈ d.1, s.size ≤ 200) ∧ (∀ x ∈ d.2.1, 0 ≤ x.1 ∧ x.1 ≤ 139 ∧ x.2.size ≤ 200) ∧ -1 ≤ d.2.2 := by
  simp only [diskOk, Bool.and_eq_true, decide_eq_true_eq, List.all_eq_true] at h
  exact ⟨h.2.1, fun s hs => by simpa [blkOk] using h.1.1 s hs, fun x hx => by simpa [waitOk] using h.1.2 x hx, h.2.2⟩
theorem spendL_lo {n : Int} (h : -1 ≤ n) : -1 ≤ spendL n := by unfold spendL; split <;> omega
theorem readTop_at {d : DiskD} (h : diskOk d = true) (i : Nat) (hi : i < 140) : readTop d i = rdTo d.2.1 i (d.1.getD i nilB) d.2.1.length := by
  unfold readTop
  rw [h, show inB (i : Int) 0 139 = true by simp [inB]; omega]
  simp [nilB]

/-- a disk that goes on, flushed -/
theorem flushTop_eq {d : DiskD} (h : diskOk d = true) (h0 : d.2.2 ≠ 0) : flushTop d = (upTo allB d.2.1 d.1 d.2.1.length, [], spendL d.2.2) := by
  unfold flushTop dFlush
  rw [h, if_pos rfl, if_neg h0]
theorem flushTop_fine {d : DiskD} (h : diskOk d = true) : diskOk (flushTop d) = true := by
  by_cases h0 : d.2.2 = 0
  · unfold flushTop dFlush
    rw [h, if_pos rfl, if_pos h0]
    exact h
  · rw [flushTop_eq h h0]
    obtain ⟨h1, h2, h3, h4⟩ := diskOk_all h
    exact diskOk_of (by rw [upTo_len]; exact h1) (upTo_all _ _ _ _ h2 (fun x hx => (h3 x hx).2.2) _) (by simp) (spendL_lo h4)
theorem read_flush {d : DiskD} (h : diskOk d = true) (h0 : d.2.2 ≠ 0) (i : Nat) (hi : i < 140) : readTop (flushTop d) i = readTop d i := by
  rw [readTop_at (flushTop_fine h) i hi, readTop_at h i hi, flushTop_eq h h0]
  obtain ⟨h1, h2, h3, h4⟩ := diskOk_all h
  exact upTo_get _ _ i (by omega) (fun x hx => (h3 x hx).1) _
/-- power lost behind a flush -/
theorem crash_flush {d : DiskD} (h : diskOk d = true) (h0 : d.2.2 ≠ 0) (m : Nat) : crashTop (flushTop d) m = ((flushTop d).1, [], -1) := by
  unfold crashTop
  rw [flushTop_fine h, flushTop_eq h h0]
  simp [dCrash, upTo]
theorem crash_flush_fine {d : DiskD} (h : diskOk d = true) (h0 : d.2.2 ≠ 0) (m : Nat) : diskOk (crashTop (flushTop d) m) = true := by
  rw [crash_flush h h0]
  obtain ⟨h1, h2, h3, h4⟩ := diskOk_all (flushTop_fine h)
  exact diskOk_of h1 h2 (by simp) (by simp)
theorem read_crash_flush {d : DiskD} (h : diskOk d = true) (h0 : d.2.2 ≠ 0) (m : Nat) (i : Nat) (hi : i < 140) : readTop (crashTop (flushTop d) m) i = readTop d i := by
  rw [← read_flush h h0 i hi, readTop_at (crash_flush_fine h h0 m) i hi, readTop_at (flushTop_fine h) i hi, crash_flush h h0, flushTop_eq h h0]

/-- a write -/
theorem writeTop_eq {d : DiskD} {n : Int} {s : ByteArray} (h : diskOk d = true) (ht : takesB n s = true) (h0 : d.2.2 ≠ 0) : writeTop d n s = (d.1, d.2.1 ++ [(n, s)], spendL d.2.2) := by
  unfold writeTop dWrite
  rw [h, ht, if_pos rfl, if_pos rfl, if_neg h0]
theorem writeTop_fine {d : DiskD} {n : Int} {s : ByteArray} (h : diskOk d = true) (ht : takesB n s = true) (h0 : d.2.2 ≠ 0) : diskOk (writeTop d n s) = true := by
  rw [writeTop_eq h ht h0]
  obtain ⟨h1, h2, h3, h4⟩ := diskOk_all h
  simp only [takesB, decide_eq_true_eq] at ht
  refine diskOk_of h1 h2 (fun x hx => ?_) (spendL_lo h4)
  simp only [List.mem_append, List.mem_singleton] at hx
  rcases hx with hx | rfl
  · exact h3 x hx
  · exact ht
theorem read_write {d : DiskD} {n : Int} {s : ByteArray} (h : diskOk d = true) (ht : takesB n s = true) (h0 : d.2.2 ≠ 0) (i : Nat) (hi : i < 140) : readTop (writeTop d n s) i = if n = (i : Int) then s else readTop d i := by
  rw [readTop_at (writeTop_fine h ht h0) i hi, readTop_at h i hi, writeTop_eq h ht h0]
  exact rdTo_snoc _ _ _ _ _
end Go.Proofs.Ytjbkhamfingoiaa
