import Derived.Test.YtjbkhamfingoiaaDriveTop
import Derived.Test.YtjbkhamfingoiaaExDiskOk
/- What turns a disk keeps its sizes. -/
namespace Go.Proofs.Ytjbkhamfingoiaa
open Go Go.RowKit

theorem upTo_all (Q : ByteArray → Prop) (f : Nat → Bool) (l : List WaitD) (bl : List ByteArray) (hb : ∀ s ∈ bl, Q s) (hl : ∀ x ∈ l, Q x.2) : ∀ j, ∀ s ∈ upTo f l bl j, Q s
  | 0 => hb
  | j + 1 => by
    intro s hs
    unfold upTo at hs
    cases e : l[j]? with
    | none =>
      rw [e] at hs
      exact upTo_all Q f l bl hb hl j s hs
    | some x =>
      rw [e] at hs
      dsimp only at hs
      split at hs
      · unfold setAt at hs
        rcases List.mem_or_eq_of_mem_set hs with h | h
        · exact upTo_all Q f l bl hb hl j s h
        · rw [h]; exact hl x (List.mem_of_getElem? e)
      · exact upTo_all Q f l bl hb hl j s hs

theorem zeroDisk_ok : OkDisk zeroDisk := ⟨by simp [zeroDisk, maxLen], by simp [zeroDisk], by simp [zeroDisk, maxLen], by simp [zeroDisk]⟩
theorem dWrite_ok {d : DiskD} {n : Int} {s : ByteArray} (h : OkDisk d) (hl : d.2.1.length + 1 ≤ maxLen) (hs : s.size ≤ maxLen) : OkDisk (dWrite d n s) := by
  unfold dWrite
  split
  · exact h
  · refine ⟨h.1, h.2.1, by simpa using hl, fun x hx => ?_⟩
    simp only [List.mem_append, List.mem_singleton] at hx
    rcases hx with hx | rfl
    · exact h.2.2.2 x hx
    · exact hs
theorem dFlush_ok {d : DiskD} (h : OkDisk d) : OkDisk (dFlush d) := by
  unfold dFlush
  split
  · exact h
  · exact ⟨by rw [upTo_len]; exact h.1, upTo_all _ _ _ _ h.2.1 h.2.2.2 _, by simp, by simp⟩
theorem dCrash_ok {d : DiskD} (m : Nat) (h : OkDisk d) : OkDisk (dCrash m d) :=
  ⟨by unfold dCrash; rw [upTo_len]; exact h.1, upTo_all _ _ _ _ h.2.1 h.2.2.2 _, by simp [dCrash], by simp [dCrash]⟩

theorem waits_le {d : DiskD} (hk : diskOk d = true) (h : (bulkDisk d : Int) ≤ 1048576) : d.1.length = 140 ∧ d.2.1.length + 140 ≤ 1048576 := by
  have h1 := bulkS_len d.1
  have h2 := bulkWaitS_len d.2.1
  have h3 := (diskOk_parts hk).1
  unfold bulkDisk at h
  omega
theorem writeTop_ok {d : DiskD} (n : Int) (s : ByteArray) (h : OkDisk d) (hl : (bulkDisk d : Int) ≤ 1048576) (hs : s.size ≤ maxLen) : OkDisk (writeTop d n s) := by
  unfold writeTop
  split
  · rename_i hk
    split
    · exact dWrite_ok h (by have := waits_le hk hl; unfold maxLen; omega) hs
    · exact h
  · exact zeroDisk_ok
theorem flushTop_ok {d : DiskD} (h : OkDisk d) : OkDisk (flushTop d) := by
  unfold flushTop
  split
  · exact dFlush_ok h
  · exact zeroDisk_ok
theorem crashTop_ok {d : DiskD} (n : Int) (h : OkDisk d) : OkDisk (crashTop d n) := by
  unfold crashTop
  split
  · exact dCrash_ok _ h
  · exact zeroDisk_ok
theorem writeTop_le {d : DiskD} (n : Int) (s : ByteArray) (hl : (bulkDisk d : Int) ≤ 1048576) : (writeTop d n s).1.length ≤ 1048576 ∧ (writeTop d n s).2.1.length ≤ 1048576 := by
  unfold writeTop
  split
  · rename_i hk
    have h := waits_le hk hl
    split
    · unfold dWrite
      split
      · omega
      · simp; omega
    · omega
  · simp [zeroDisk]
theorem flushTop_le {d : DiskD} (hl : (bulkDisk d : Int) ≤ 1048576) : (flushTop d).1.length ≤ 1048576 ∧ (flushTop d).2.1.length ≤ 1048576 := by
  unfold flushTop
  split
  · rename_i hk
    have h := waits_le hk hl
    unfold dFlush
    split
    · omega
    · simp [upTo_len]; omega
  · simp [zeroDisk]
theorem crashTop_le {d : DiskD} (n : Int) (hl : (bulkDisk d : Int) ≤ 1048576) : (crashTop d n).1.length ≤ 1048576 ∧ (crashTop d n).2.1.length ≤ 1048576 := by
  unfold crashTop
  split
  · rename_i hk
    have h := waits_le (by simp only [Bool.and_eq_true] at hk; exact hk.1) hl
    simp [dCrash, upTo_len]; omega
  · simp [zeroDisk]
end Go.Proofs.Ytjbkhamfingoiaa
