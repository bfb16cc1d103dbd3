import Derived.Test.YtakcmjnfkcoilaaDoorFramePutS
import Derived.Test.YtakcmjnfkcoilaaDoorNum
/- A text cut at each byte: l3Cut of the model. -/
namespace Go.Proofs.YtakcmjnfkcoilaaDoor
open Go Go.RowKit

def mkB (l : List UInt8) : ByteArray := ⟨l.toArray⟩
theorem mkB_list (l : List UInt8) : (mkB l).data.toList = l := by simp [mkB]
theorem mkB_of (s : ByteArray) : mkB s.data.toList = s := bytes_ext (by simp [mkB])
theorem mkB_eq {s : ByteArray} {l : List UInt8} (h : s.data.toList = l) : s = mkB l := bytes_ext (by rw [mkB_list, h])
theorem mkB_size (l : List UInt8) : (mkB l).size = l.length := by show l.toArray.size = _; simp
def cutsB (c : UInt8) (s : ByteArray) : List ByteArray := (cutL c s.data.toList).map mkB
theorem cut_step {c : UInt8} {S : List UInt8} {f i : Nat} (hf : f ≤ i) (hn : ∀ j, f ≤ j → j < i → S[j]? ≠ some c) (hc : S[i]? = some c) : cutL c (S.drop f) = ((S.drop f).take (i - f)) :: cutL c (S.drop (i + 1)) := by
  have hi : i < S.length := (List.getElem?_eq_some_iff.1 hc).1
  have e : S.drop f = (S.drop f).take (i - f) ++ c :: S.drop (i + 1) := by
    conv => lhs; rw [← List.take_append_drop (i - f) (S.drop f)]
    rw [List.drop_drop, show f + (i - f) = i by omega, List.drop_eq_getElem_cons hi]
    rw [(List.getElem?_eq_some_iff.1 hc).2]
  conv => lhs; rw [e]
  exact cutL_dig (fun d hd => by
    obtain ⟨j, hj, rfl⟩ := List.getElem_of_mem hd
    rw [List.length_take, List.length_drop] at hj
    have h1 := hn (f + j) (by omega) (by omega)
    intro h2
    apply h1
    rw [List.getElem_take, List.getElem_drop] at h2
    rw [List.getElem?_eq_getElem (by omega), h2])
theorem cut_last {c : UInt8} {S : List UInt8} {f : Nat} (hn : ∀ j, f ≤ j → j < S.length → S[j]? ≠ some c) : cutL c (S.drop f) = [S.drop f] :=
  cutL_end (fun d hd => by
    obtain ⟨j, hj, rfl⟩ := List.getElem_of_mem hd
    rw [List.length_drop] at hj
    have h1 := hn (f + j) (by omega) (by omega)
    intro h2
    apply h1
    rw [List.getElem_drop] at h2
    rw [List.getElem?_eq_getElem (by omega), h2])
theorem cutL_len (c : UInt8) (l : List UInt8) : (cutL c l).length ≤ l.length + 1 := by
  induction l with
  | nil => simp [cutL]
  | cons d l ih =>
    unfold cutL
    split
    · simp; exact ih
    · split
      · simp
      · next h => rw [h] at ih; simp at ih ⊢; omega
theorem cutL_mem (c : UInt8) (l : List UInt8) : ∀ x ∈ cutL c l, x.length ≤ l.length := by
  induction l with
  | nil => simp [cutL]
  | cons d l ih =>
    unfold cutL
    split
    · intro x hx
      rcases List.mem_cons.1 hx with rfl | hx
      · simp
      · have := ih x hx; simp; omega
    · split
      · intro x hx; simp at hx; subst hx; simp
      · next p r h =>
        intro x hx
        rw [h] at ih
        rcases List.mem_cons.1 hx with rfl | hx
        · have := ih p (by simp); simp; omega
        · have := ih x (by simp [hx]); simp; omega
/-- what is cut so far, and what is still to be cut -/
def CutI (c : UInt8) (s : ByteArray) (d : List ByteArray) (f i : Nat) : Prop :=
  d ++ (cutL c (s.data.toList.drop f)).map mkB = cutsB c s ∧ (∀ j, f ≤ j → j < i → s.data.toList[j]? ≠ some c) ∧ d.length ≤ f ∧ f ≤ i
theorem cutI_start (c : UInt8) (s : ByteArray) : CutI c s [] 0 0 := ⟨by simp [cutsB], fun j _ h => absurd h (by omega), by simp, Nat.le_refl _⟩
theorem cutI_skip {c : UInt8} {s : ByteArray} {d : List ByteArray} {f i : Nat} (h : CutI c s d f i) (hi : i < s.size) (hc : s[i] ≠ c) : CutI c s d f (i + 1) := by
  refine ⟨h.1, fun j h1 h2 => ?_, h.2.2.1, by have := h.2.2.2; omega⟩
  by_cases e : j = i
  · subst e
    rw [List.getElem?_eq_getElem (by simpa using hi)]
    intro e2
    exact hc (Option.some.inj e2)
  · exact h.2.1 j h1 (by omega)
theorem cutI_cut {c : UInt8} {s : ByteArray} {d : List ByteArray} {f i : Nat} (h : CutI c s d f i) (hi : i < s.size) (hc : s[i] = c) : CutI c s (d ++ [s.extract f i]) (i + 1) (i + 1) := by
  refine ⟨?_, fun j h1 h2 => absurd h2 (by omega), by have := h.2.2; simp; omega, Nat.le_refl _⟩
  have hs : s.data.toList[i]? = some c := by rw [List.getElem?_eq_getElem (by simpa using hi)]; exact congrArg some hc
  have h1 := h.1
  rw [cut_step h.2.2.2 h.2.1 hs] at h1
  rw [← h1, List.append_assoc]
  congr 1
  rw [List.map_cons, List.singleton_append]
  congr 1
  exact mkB_eq (by rw [Lib.extract_data])
theorem cutI_end {c : UInt8} {s : ByteArray} {d : List ByteArray} {f : Nat} (h : CutI c s d f s.size) : d ++ [s.extract f s.size] = cutsB c s := by
  have hl : s.data.toList.length = s.size := by simp
  have h1 := h.1
  rw [cut_last (fun j a b => h.2.1 j a (by omega))] at h1
  rw [← h1]
  congr 1
  rw [List.map_cons, List.map_nil]
  congr 1
  exact mkB_eq (by rw [Lib.extract_data, List.take_of_length_le (by rw [List.length_drop, hl]; exact Nat.le_refl _)])
theorem cutsB_len (c : UInt8) (s : ByteArray) : (cutsB c s).length ≤ s.size + 1 := by
  have := cutL_len c s.data.toList
  rw [cutsB, List.length_map]
  simpa using this

set_option maxRecDepth 100000 in
set_option maxHeartbeats 1000000 in
theorem l3Cut_any (s : ByteArray) (c : UInt8) (hs : s.size ≤ 1073741824) (w : World) :
    Calls Tryd.prog 67 #[.string s, .int .u8 (c.toNat : Int)] w (OutS w (cutsB c s)) := by
  obtain ⟨i0, hi, hz0, hz1, hz2⟩ := info_parts infoStrF
  have O0 := Lib.hid (World.ownsRow_made (e := 9) (size := 1) w #[] 0 (Nat.le_refl _) (by unfold maxLen; omega) rfl)
  have hs0 : (0 : Int) ≤ (s.size : Int) := by omega
  have hsi : (s.size : Int) ≤ 1073741824 := by omega
  go_enter Tryd.func67, Tryd.ntmps67
  go_wp2
  go_loopg [5, 6, 7] s.size (fun q v v6 v7 wr => ∃ (i f : Nat) (d : List ByteArray), i + q = s.size ∧ v6 = .int .i64 f ∧ v7 = .int .i64 i ∧ CutI c s d f i ∧ wr.ownsRow w.heap.size 9 1 v d.length (d.map .string) ∧ Below w.heap.size w wr)
  case atStart => exact ⟨0, 0, [], by omega, rfl, rfl, cutI_start c s, O0.out, below_alloc _ _⟩
  case round =>
    clear O0
    obtain ⟨i, f, d, hiq, rfl, rfl, hI, ho, hbel⟩ := hrel
    have HI := Lib.hid hI
    have HQ := Lib.hid hiq
    obtain ⟨-, -, hdf, hfi⟩ := hI
    have hbz := hbel.size
    have HO := Lib.hid ho
    have HB := Lib.hid hbel
    obtain ⟨va, vc, rfl⟩ := own_shpS ho
    have hi0 : (0 : Int) ≤ (i : Int) := by omega
    have hf0 : (0 : Int) ≤ (f : Int) := by omega
    have hfii : (f : Int) ≤ (i : Int) := by omega
    have hisi : (i : Int) ≤ (s.size : Int) := by omega
    clear ho hbel
    by_cases hlt : i < s.size
    · clear hiq
      by_cases hc : s[i] = c
      · have q1 : ((s[i].toNat : Int) == (c.toNat : Int)) = true := by rw [hc]; simp
        have HN := Lib.hid (cutI_cut HI.out hlt hc)
        clear hc
        go_wp2_with (at_builtin; refine wpList_append_own _ rfl _ _ 25 rfl w.heap.size 9 i0 (.string ⟨#[]⟩) 1 16 Tryd.underlying25 hi hz0 hz1 hz2 rfl (by decide) _ d.length _ rfl (HO.out.alloc _) ⟨wr.heap.size, 0, none⟩ 1 1 [.string (s.extract f i)] rfl rfl (cells_oneS _ _ _) (fun u hu => by simp at hu; subst hu; rfl) (by unfold maxLen; omega) (by omega) (by simp; omega) ?_; intro v2 w2 o2 g2 _)
        have B2 := Lib.hid (show Below w.heap.size w w2 from (HB.out.alloc hbz _).grown g2 (by simp; omega) (fun k hk => (HO.out.lt k hk).1))
        have O2 := Lib.hid (show w2.ownsRow w.heap.size 9 1 v2 (d ++ [s.extract f i]).length ((d ++ [s.extract f i]).map .string) by rw [List.length_append, List.map_append]; exact o2)
        clear o2 g2
        go_wp2
        go_roundg (gk - 1)
        case measure => have := HQ.out; omega
        case rel => exact ⟨i + 1, i + 1, _, by have := HQ.out; omega, by go_num, by go_num, HN.out, O2.out, B2.out⟩
      · have q1 : ((s[i].toNat : Int) == (c.toNat : Int)) = false := by
          rw [beq_eq_false_iff_ne]
          intro e
          exact hc (UInt8.toNat_inj.1 (by omega))
        have HN := Lib.hid (cutI_skip HI.out hlt hc)
        clear hc
        go_wp2
        go_roundg (gk - 1)
        case measure => have := HQ.out; omega
        case rel => exact ⟨i + 1, f, d, by have := HQ.out; omega, rfl, by go_num, HN.out, HO.out, HB.out⟩
    · have hie : i = s.size := by omega
      clear hiq
      subst hie
      have HN := Lib.hid (cutI_end HI.out)
      go_wp2_with (at_builtin; refine wpList_append_own _ rfl _ _ 25 rfl w.heap.size 9 i0 (.string ⟨#[]⟩) 1 16 Tryd.underlying25 hi hz0 hz1 hz2 rfl (by decide) _ d.length _ rfl (HO.out.alloc _) ⟨wr.heap.size, 0, none⟩ 1 1 [.string (s.extract f s.size)] rfl rfl (cells_oneS _ _ _) (fun u hu => by simp at hu; subst hu; rfl) (by unfold maxLen; omega) (by omega) (by simp; omega) ?_; intro v2 w2 o2 g2 _)
      have B2 := Lib.hid (show Below w.heap.size w w2 from (HB.out.alloc hbz _).grown g2 (by simp; omega) (fun k hk => (HO.out.lt k hk).1))
      have O2 := Lib.hid (show w2.ownsRow w.heap.size 9 1 v2 (d ++ [s.extract f s.size]).length ((d ++ [s.extract f s.size]).map .string) by rw [List.length_append, List.map_append]; exact o2)
      rw [HN.out] at O2
      clear o2 g2
      go_wp2
      go_ret
      exact ⟨_, rfl, O2.out, B2.out⟩
end Go.Proofs.YtakcmjnfkcoilaaDoor
