import Derived.Test.YtgjfflfldddebaaDoorFramePutS
import Derived.Test.YtgjfflfldddebaaDoorNum
/- A text cut at each byte: l3Cut of the model. -/
namespace Go.Proofs.YtgjfflfldddebaaDoor
open Go Go.RowKit

def mkB (l : List UInt8) : ByteArray := ⟨l.toArray⟩
theorem mkB_list (l : List UInt8) : (mkB l).data.toList = l := by simp [mkB]
theorem mkB_of (s : ByteArray) : mkB s.data.toList = s := bytes_ext (by simp [mkB])
theorem mkB_eq {s : ByteArray} {l : List UInt8} (h : s.data.toList = l) : s = mkB l := bytes_ext (by rw [mkB_list, h])
theorem mkB_size (l : List UInt8) : (mkB l).size = l.length := by show l.toArray.size = _; simp
def cutsB (c : UInt8) (s : ByteArray) : List ByteArray := (cutL c s.data.toList).map mkB
theorem cut_step {c : UInt8} {S : List UInt8} {f i : Nat} (hf : f ≤ i) (hn : ∀ j, f ≤ j → j < i → S[j]? ≠ some c) (hc : S[i]? = some c) : cutL c (S.drop f) = ((S.drop f).take (i - f)) :: cutL c (S.drop (i + 1)) := by
  have hi : i < S.length := (List.getElem?_eq_some_iff.1 hc).1
  have e : S.drop f = (S.drop f).take (i - f) ++ c :: S.drop (i + 1) := by
    conv => lhs; rw [← List.take_append_drop (i - f) (S.drop f)]
    rw [List.drop_drop, show f + (i - f) = i by omega, List.drop_eq_getElem_cons hi]
    rw [(List.getElem?_eq_some_iff.1 hc).2]
  conv => lhs; rw [e]
  exact cutL_dig (fun d hd => by
    obtain ⟨j, hj, rfl⟩ := List.getElem_of_mem hd
    rw [List.length_take, List.length_drop] at hj
    have h1 := hn (f + j) (by omega) (by omega)
    intro h2
    apply h1
    rw [List.getElem_take, List.getElem_drop] at h2
    rw [List.getElem?_eq_getElem (by omega), h2])
theorem cut_last {c : UInt8} {S : List UInt8} {f : Nat} (hn : ∀ j, f ≤ j → j < S.length → S[j]? ≠ some c) : cutL c (S.drop f) = [S.drop f] :=
  cutL_end (fun d hd => by
    obtain ⟨j, hj, rfl⟩ := List.getElem_of_mem hd
    rw [List.length_drop] at hj
    have h1 := hn (f + j) (by omega) (by omega)
    intro h2
    apply h1
    rw [List.getElem_drop] at h2
    rw [List.getElem?_eq_getElem (by omega), h2])
theorem cutL_len (c : UInt8) (l : List UInt8) : (cutL c l).length ≤ l.length + 1 := by
  induction l with
  | nil => simp [cutL]
  | cons d l ih =>
    unfold cutL
    split
    · simp; exact ih
    · split
      · simp
      · next h => rw [h] at ih; simp at ih ⊢; omega
theorem cutL_mem (c : UInt8) (l : List UInt8) : ∀ x ∈ cutL c l, x.length ≤ l.length := by
  induction l with
  | nil => simp [cutL]
  | cons d l ih =>
    unfold cutL
    split
    · intro x hx
      rcases List.mem_cons.1 hx with rfl | hx
      · simp
      · have := ih x hx; simp; omega
    · split
      · intro x hx; simp at hx; subst hx; simp
      · next p r h =>
        intro x hx
        rw [h] at ih
        rcases List.mem_cons.1 hx with rfl | hx
        · have := ih p (by simp); simp; omega
        · have := ih x (by simp [hx]); simp; omega
/-- what is cut so far, and what is still to be cut -/
def CutI (c : UInt8) (s : ByteArray) (d : List ByteArray) (f i : Nat) : Prop :=
  d ++ (cutL c (s.data.toList.drop f)).map mkB = cutsB c s ∧ (∀ j, f ≤ j → j < i → s.data.toList[j]? ≠ some c) ∧ d.length ≤ f ∧ f ≤ i
theorem cutI_start (c : UInt8) (s : ByteArray) : CutI c s [] 0 0 := ⟨by simp [cutsB], fun j _ h => absurd h (by omega), by simp, Nat.le_refl _⟩
theorem cutI_skip {c : UInt8} {s : ByteArray} {d : List ByteArray} {f i : Nat} (h : CutI c s d f i) (hi : i < s.size) (hc : s[i] ≠ c) : CutI c s d f (i + 1) := by
  refine ⟨h.1, fun j h1 h2 => ?_, h.2.2.1, by have := h.2.2.2; omega⟩
  by_cases e : j = i
  · subst e
    rw [List.getElem?_eq_getElem (by simpa using hi)]
    intro e2
    exact hc (Option.some.inj e2)
  · exact h.2.1 j h1 (by omega)
theorem cutI_cut {c : UInt8} {s : ByteArray} {d : List ByteArray} {f i : Nat} (h : CutI c s d f i) (hi : i < s.size) (hc : s[i] = c) : CutI c s (d ++ [s.extract f i]) (i + 1) (i + 1) := by
  refine ⟨?_, fun j h1 h2 => absurd h2 (by omega), by have := h.2.2; simp; omega, Nat.le_refl _⟩
  have hs : s.data.toList[i]? = some c := by rw [List.getElem?_eq_getElem (by simpa using hi)]; exact congrArg some hc
  have h1 := h.1
  rw [cut_step h.2.2.2 h.2.1 hs] at h1
  rw [← h1, List.append_assoc]
  congr 1
  rw [List.map_cons, List.singleton_append]
  congr 1
  exact mkB_eq (by rw [Lib.extract_data])
theorem cutI_end {c : UInt8} {s : ByteArray} {d : List ByteArray} {f : Nat} (h : CutI c s d f s.size) : d ++ [s.extract f s.size] = cutsB c s := by
  have hl : s.data.toList.length = s.size := by simp
  have h1 := h.1
  rw [cut_last (fun j a b => h.2.1 j a (by omega))] at h1
  rw [← h1]
  congr 1
  rw [List.map_cons, List.map_nil]
  congr 1
  exact mkB_eq (by rw [Lib.extract_data, List.take_of_length_le (by rw [List.length_drop, hl]; exact Nat.le_refl _)])
theorem cutsB_len (c : UInt8) (s : ByteArray) : (cutsB c s).length ≤ s.size + 1 := by
  have := cutL_len c s.data.toList
  rw [cutsB, List.length_map]
  simpa using this

end Go.Proofs.YtgjfflfldddebaaDoor
