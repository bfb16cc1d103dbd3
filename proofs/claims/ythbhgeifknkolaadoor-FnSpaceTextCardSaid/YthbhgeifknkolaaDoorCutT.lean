import Derived.Test.YthbhgeifknkolaaDoorNum
import Derived.Test.YthbhgeifknkolaaDoorTextW
import Derived.Lib.SplitLaws
import Derived.Lib.IndexLaws
import Derived.Lib.IndexBytes
import Derived.Lib.CutLaws
import Derived.WalkSpells
import Derived.OwnWalk
import Derived.Deep.LoopGhost
/- A text cut at each byte: l3Cut of the model, strings.Split. -/
namespace Go.Proofs.YthbhgeifknkolaaDoor
open Go Go.RowKit

abbrev decL (n : Nat) : List UInt8 := Lib.decDigits n
theorem decL_small {n : Nat} (h : n < 10) : decL n = [UInt8.ofNat (48 + n)] := Lib.decDigits_one h
theorem decL_next {n : Nat} (h : ¬ n < 10) : decL n = decL (n / 10) ++ [UInt8.ofNat (48 + n % 10)] := by
  conv => lhs; unfold decL; rw [Lib.decDigits, dif_neg h]
theorem digit_toNat {n : Nat} (h : n < 10) : (UInt8.ofNat (48 + n)).toNat = 48 + n := by simp; omega
theorem digB_of {n : Nat} (h : n < 10) : digB (UInt8.ofNat (48 + n)) = true := by
  unfold digB
  rw [digit_toNat h]
  exact decide_eq_true ⟨by omega, by omega⟩
theorem decL_dig (n : Nat) : (decL n).all digB = true := by
  induction n using Nat.strongRecOn with
  | ind n ih =>
    by_cases h : n < 10
    · rw [decL_small h, List.all_cons, digB_of h]; rfl
    · rw [decL_next h, List.all_append, ih (n / 10) (by omega), List.all_cons, digB_of (show n % 10 < 10 by omega)]; rfl
theorem dig_ne {c d : UInt8} (h : digB c = true) (hd : digB d = false) : c ≠ d := by intro e; subst e; rw [h] at hd; cases hd
def cutL (c : UInt8) : List UInt8 → List (List UInt8)
  | [] => [[]]
  | d :: l => if d = c then [] :: cutL c l else match cutL c l with
    | [] => [[d]]
    | p :: r => (d :: p) :: r
theorem cutL_ne (c : UInt8) (l : List UInt8) : cutL c l ≠ [] := by
  cases l with
  | nil => simp [cutL]
  | cons d l =>
    unfold cutL
    split
    · simp
    · split <;> simp
theorem cutL_dig {c : UInt8} {a x : List UInt8} (ha : ∀ d ∈ a, d ≠ c) : cutL c (a ++ c :: x) = a :: cutL c x := by
  induction a with
  | nil => simp [cutL]
  | cons d a ih =>
    have h1 : d ≠ c := ha d (by simp)
    have h2 := ih (fun e he => ha e (by simp [he]))
    rw [List.cons_append, cutL, if_neg h1, h2]
theorem cutL_end {c : UInt8} {a : List UInt8} (ha : ∀ d ∈ a, d ≠ c) : cutL c a = [a] := by
  induction a with
  | nil => simp [cutL]
  | cons d a ih =>
    have h1 : d ≠ c := ha d (by simp)
    have h2 := ih (fun e he => ha e (by simp [he]))
    rw [cutL, if_neg h1, h2]
def OutS (w : World) (l : List ByteArray) (e : Ending) (w' : World) : Prop := ∃ v, e = .returned v ∧ w'.ownsRow w.heap.size 9 1 v l.length (l.map .string) ∧ Below w.heap.size w w'
theorem infoStrF : (Tryd.prog.info? 9).map (fun i => (i.zero, i.size, i.bytes)) = some (some (.string ⟨#[]⟩), 1, 16) := by kernel_rfl
theorem cells_oneS (w : World) (x : Value) (e : TypeId) : ∀ j u, [x][j]? = some u → (w.alloc (.cells #[x] e)).cell? ((⟨w.heap.size, 0, none⟩ : Addr).add j) = some u := by
  intro j u hj
  rw [addr_add, Nat.zero_add]
  exact (Box.alloc w #[x] e j u hj).1
theorem own_shpS {w : World} {base : Nat} {e : TypeId} {size : Nat} {v : Value} {n : Nat} {xs : List Value} (h : w.ownsRow base e size v n xs) : ∃ a c, v = .slice a n c := by
  rcases h.2 with ⟨hv, hn⟩ | ⟨g, cap, cur, hv, _⟩
  · exact ⟨none, 0, by rw [hv, hn]⟩
  · exact ⟨_, _, hv⟩
def mkB (l : List UInt8) : ByteArray := ⟨l.toArray⟩
theorem mkB_list (l : List UInt8) : (mkB l).data.toList = l := by simp [mkB]
theorem mkB_of (s : ByteArray) : mkB s.data.toList = s := bytes_ext (by simp [mkB])
theorem mkB_eq {s : ByteArray} {l : List UInt8} (h : s.data.toList = l) : s = mkB l := bytes_ext (by rw [mkB_list, h])
theorem mkB_size (l : List UInt8) : (mkB l).size = l.length := by show l.toArray.size = _; simp
def cutsB (c : UInt8) (s : ByteArray) : List ByteArray := (cutL c s.data.toList).map mkB
theorem cut_step {c : UInt8} {S : List UInt8} {f i : Nat} (hf : f ≤ i) (hn : ∀ j, f ≤ j → j < i → S[j]? ≠ some c) (hc : S[i]? = some c) : cutL c (S.drop f) = ((S.drop f).take (i - f)) :: cutL c (S.drop (i + 1)) := by
  have hi : i < S.length := (List.getElem?_eq_some_iff.1 hc).1
  have e : S.drop f = (S.drop f).take (i - f) ++ c :: S.drop (i + 1) := by
    conv => lhs; rw [← List.take_append_drop (i - f) (S.drop f)]
    rw [List.drop_drop, show f + (i - f) = i by omega, List.drop_eq_getElem_cons hi]
    rw [(List.getElem?_eq_some_iff.1 hc).2]
  conv => lhs; rw [e]
  exact cutL_dig (fun d hd => by
    obtain ⟨j, hj, rfl⟩ := List.getElem_of_mem hd
    rw [List.length_take, List.length_drop] at hj
    have h1 := hn (f + j) (by omega) (by omega)
    intro h2
    apply h1
    rw [List.getElem_take, List.getElem_drop] at h2
    rw [List.getElem?_eq_getElem (by omega), h2])
theorem cut_last {c : UInt8} {S : List UInt8} {f : Nat} (hn : ∀ j, f ≤ j → j < S.length → S[j]? ≠ some c) : cutL c (S.drop f) = [S.drop f] :=
  cutL_end (fun d hd => by
    obtain ⟨j, hj, rfl⟩ := List.getElem_of_mem hd
    rw [List.length_drop] at hj
    have h1 := hn (f + j) (by omega) (by omega)
    intro h2
    apply h1
    rw [List.getElem_drop] at h2
    rw [List.getElem?_eq_getElem (by omega), h2])
theorem cutL_len (c : UInt8) (l : List UInt8) : (cutL c l).length ≤ l.length + 1 := by
  induction l with
  | nil => simp [cutL]
  | cons d l ih =>
    unfold cutL
    split
    · simp; exact ih
    · split
      · simp
      · next h => rw [h] at ih; simp at ih ⊢; omega
theorem cutL_mem (c : UInt8) (l : List UInt8) : ∀ x ∈ cutL c l, x.length ≤ l.length := by
  induction l with
  | nil => simp [cutL]
  | cons d l ih =>
    unfold cutL
    split
    · intro x hx
      rcases List.mem_cons.1 hx with rfl | hx
      · simp
      · have := ih x hx; simp; omega
    · split
      · intro x hx; simp at hx; subst hx; simp
      · next p r h =>
        intro x hx
        rw [h] at ih
        rcases List.mem_cons.1 hx with rfl | hx
        · have := ih p (by simp); simp; omega
        · have := ih x (by simp [hx]); simp; omega
/-- what is cut so far, and what is still to be cut -/
def CutI (c : UInt8) (s : ByteArray) (d : List ByteArray) (f i : Nat) : Prop :=
  d ++ (cutL c (s.data.toList.drop f)).map mkB = cutsB c s ∧ (∀ j, f ≤ j → j < i → s.data.toList[j]? ≠ some c) ∧ d.length ≤ f ∧ f ≤ i
theorem cutI_start (c : UInt8) (s : ByteArray) : CutI c s [] 0 0 := ⟨by simp [cutsB], fun j _ h => absurd h (by omega), by simp, Nat.le_refl _⟩
theorem cutI_skip {c : UInt8} {s : ByteArray} {d : List ByteArray} {f i : Nat} (h : CutI c s d f i) (hi : i < s.size) (hc : s[i] ≠ c) : CutI c s d f (i + 1) := by
  refine ⟨h.1, fun j h1 h2 => ?_, h.2.2.1, by have := h.2.2.2; omega⟩
  by_cases e : j = i
  · subst e
    rw [List.getElem?_eq_getElem (by simpa using hi)]
    intro e2
    exact hc (Option.some.inj e2)
  · exact h.2.1 j h1 (by omega)
theorem cutI_cut {c : UInt8} {s : ByteArray} {d : List ByteArray} {f i : Nat} (h : CutI c s d f i) (hi : i < s.size) (hc : s[i] = c) : CutI c s (d ++ [s.extract f i]) (i + 1) (i + 1) := by
  refine ⟨?_, fun j h1 h2 => absurd h2 (by omega), by have := h.2.2; simp; omega, Nat.le_refl _⟩
  have hs : s.data.toList[i]? = some c := by rw [List.getElem?_eq_getElem (by simpa using hi)]; exact congrArg some hc
  have h1 := h.1
  rw [cut_step h.2.2.2 h.2.1 hs] at h1
  rw [← h1, List.append_assoc]
  congr 1
  rw [List.map_cons, List.singleton_append]
  congr 1
  exact mkB_eq (by rw [Lib.extract_data])
theorem cutI_end {c : UInt8} {s : ByteArray} {d : List ByteArray} {f : Nat} (h : CutI c s d f s.size) : d ++ [s.extract f s.size] = cutsB c s := by
  have hl : s.data.toList.length = s.size := by simp
  have h1 := h.1
  rw [cut_last (fun j a b => h.2.1 j a (by omega))] at h1
  rw [← h1]
  congr 1
  rw [List.map_cons, List.map_nil]
  congr 1
  exact mkB_eq (by rw [Lib.extract_data, List.take_of_length_le (by rw [List.length_drop, hl]; exact Nat.le_refl _)])
theorem cutsB_len (c : UInt8) (s : ByteArray) : (cutsB c s).length ≤ s.size + 1 := by
  have := cutL_len c s.data.toList
  rw [cutsB, List.length_map]
  simpa using this

set_option maxRecDepth 100000 in
set_option maxHeartbeats 1000000 in
theorem l3Cut_any (s : ByteArray) (c : UInt8) (hs : s.size ≤ 1073741824) (w : World) :
    Calls Tryd.prog 18 #[.string s, .int .u8 (c.toNat : Int)] w (OutS w (cutsB c s)) := by
  obtain ⟨i0, hi, hz0, hz1, hz2⟩ := info_parts infoStrF
  have O0 := Lib.hid (World.ownsRow_made (e := 9) (size := 1) w #[] 0 (Nat.le_refl _) (by unfold maxLen; omega) rfl)
  have hs0 : (0 : Int) ≤ (s.size : Int) := by omega
  have hsi : (s.size : Int) ≤ 1073741824 := by omega
  go_enter Tryd.func18, Tryd.ntmps18
  go_wp2
  go_loopg [5, 6, 7] s.size (fun q v v6 v7 wr => ∃ (i f : Nat) (d : List ByteArray), i + q = s.size ∧ v6 = .int .i64 f ∧ v7 = .int .i64 i ∧ CutI c s d f i ∧ wr.ownsRow w.heap.size 9 1 v d.length (d.map .string) ∧ Below w.heap.size w wr)
  case atStart => exact ⟨0, 0, [], by omega, rfl, rfl, cutI_start c s, O0.out, below_alloc _ _⟩
  case round =>
    clear O0
    obtain ⟨i, f, d, hiq, rfl, rfl, hI, ho, hbel⟩ := hrel
    have HI := Lib.hid hI
    have HQ := Lib.hid hiq
    obtain ⟨-, -, hdf, hfi⟩ := hI
    have hbz := hbel.size
    have HO := Lib.hid ho
    have HB := Lib.hid hbel
    obtain ⟨va, vc, rfl⟩ := own_shpS ho
    have hi0 : (0 : Int) ≤ (i : Int) := by omega
    have hf0 : (0 : Int) ≤ (f : Int) := by omega
    have hfii : (f : Int) ≤ (i : Int) := by omega
    have hisi : (i : Int) ≤ (s.size : Int) := by omega
    clear ho hbel
    by_cases hlt : i < s.size
    · clear hiq
      by_cases hc : s[i] = c
      · have q1 : ((s[i].toNat : Int) == (c.toNat : Int)) = true := by rw [hc]; simp
        have HN := Lib.hid (cutI_cut HI.out hlt hc)
        clear hc
        go_wp2_with (at_builtin; refine wpList_append_own _ rfl _ _ 36 rfl w.heap.size 9 i0 (.string ⟨#[]⟩) 1 16 Tryd.underlying36 hi hz0 hz1 hz2 rfl (by decide) _ d.length _ rfl (HO.out.alloc _) ⟨wr.heap.size, 0, none⟩ 1 1 [.string (s.extract f i)] rfl rfl (cells_oneS _ _ _) (fun u hu => by simp at hu; subst hu; rfl) (by unfold maxLen; omega) (by omega) (by simp; omega) ?_; intro v2 w2 o2 g2 _)
        have B2 := Lib.hid (show Below w.heap.size w w2 from (HB.out.alloc hbz _).grown g2 (by simp; omega) (fun k hk => (HO.out.lt k hk).1))
        have O2 := Lib.hid (show w2.ownsRow w.heap.size 9 1 v2 (d ++ [s.extract f i]).length ((d ++ [s.extract f i]).map .string) by rw [List.length_append, List.map_append]; exact o2)
        clear o2 g2
        go_wp2
        go_roundg (gk - 1)
        case measure => have := HQ.out; omega
        case rel => exact ⟨i + 1, i + 1, _, by have := HQ.out; omega, by go_num, by go_num, HN.out, O2.out, B2.out⟩
      · have q1 : ((s[i].toNat : Int) == (c.toNat : Int)) = false := by
          rw [beq_eq_false_iff_ne]
          intro e
          exact hc (UInt8.toNat_inj.1 (by omega))
        have HN := Lib.hid (cutI_skip HI.out hlt hc)
        clear hc
        go_wp2
        go_roundg (gk - 1)
        case measure => have := HQ.out; omega
        case rel => exact ⟨i + 1, f, d, by have := HQ.out; omega, rfl, by go_num, HN.out, HO.out, HB.out⟩
    · have hie : i = s.size := by omega
      clear hiq
      subst hie
      have HN := Lib.hid (cutI_end HI.out)
      go_wp2_with (at_builtin; refine wpList_append_own _ rfl _ _ 36 rfl w.heap.size 9 i0 (.string ⟨#[]⟩) 1 16 Tryd.underlying36 hi hz0 hz1 hz2 rfl (by decide) _ d.length _ rfl (HO.out.alloc _) ⟨wr.heap.size, 0, none⟩ 1 1 [.string (s.extract f s.size)] rfl rfl (cells_oneS _ _ _) (fun u hu => by simp at hu; subst hu; rfl) (by unfold maxLen; omega) (by omega) (by simp; omega) ?_; intro v2 w2 o2 g2 _)
      have B2 := Lib.hid (show Below w.heap.size w w2 from (HB.out.alloc hbz _).grown g2 (by simp; omega) (fun k hk => (HO.out.lt k hk).1))
      have O2 := Lib.hid (show w2.ownsRow w.heap.size 9 1 v2 (d ++ [s.extract f s.size]).length ((d ++ [s.extract f s.size]).map .string) by rw [List.length_append, List.map_append]; exact o2)
      rw [HN.out] at O2
      clear o2 g2
      go_wp2
      go_ret
      exact ⟨_, rfl, O2.out, B2.out⟩

/-- strings.Split at one byte -/
theorem split_cuts (c : UInt8) : ∀ (n : Nat) (s : ByteArray), s.size ≤ n → Lib.splitB ⟨#[c]⟩ 0 (Lib.countB s ⟨#[c]⟩) s = cutsB c s := by
  intro n
  induction n with
  | zero =>
    intro s hs
    have h0 : s.data.toList = [] := List.eq_nil_of_length_eq_zero (by simpa using hs)
    have hi : Lib.indexB s ⟨#[c]⟩ = -1 := by
      show Lib.index s.data.toList [c] = -1
      rw [Lib.index_one, h0]; rfl
    rw [Lib.splitB_miss _ _ _ _ hi]
    unfold cutsB
    rw [h0]
    show [s] = [mkB []]
    rw [show s = mkB [] from mkB_eq h0]
  | succ n ih =>
    intro s hs
    rcases Lib.indexB_cases s ⟨#[c]⟩ with hi | ⟨i, hi, hle⟩
    · rw [Lib.splitB_miss _ _ _ _ hi]
      have h1 : Lib.indexByte s.data.toList c = -1 := by rw [← Lib.index_one]; exact hi
      have h2 := Lib.indexByte_none h1
      unfold cutsB
      rw [cutL_end (fun d hd e => by
        obtain ⟨k, hk, rfl⟩ := List.mem_iff_getElem.1 hd
        exact h2 k (by rw [List.getElem?_eq_getElem hk, e]))]
      rw [List.map_singleton, mkB_of]
    · have h1 : Lib.indexByte s.data.toList c = i := by rw [← Lib.index_one]; exact hi
      obtain ⟨h2, h3⟩ := Lib.indexByte_some h1
      have hlt : i < s.data.toList.length := (List.getElem?_eq_some_iff.1 h2).1
      have hsz : s.data.toList.length = s.size := by simp
      rw [Lib.countB_hit s ⟨#[c]⟩ i (Nat.le_refl 1) hi, Nat.add_comm, Lib.splitB_hit _ _ _ _ i hi]
      have hz : (s.extract (i + (⟨#[c]⟩ : ByteArray).size) s.size).size ≤ n := by
        rw [ByteArray.size_extract]
        show min s.size s.size - (i + 1) ≤ n
        omega
      rw [ih _ hz]
      have hs2 : s.data.toList = s.data.toList.take i ++ c :: s.data.toList.drop (i + 1) := by
        conv => lhs; rw [← List.take_append_drop i s.data.toList]
        rw [List.drop_eq_getElem_cons hlt]
        rw [(List.getElem?_eq_some_iff.1 h2).2]
      unfold cutsB
      conv => rhs; rw [hs2]
      rw [cutL_dig (fun d hd e => by
        obtain ⟨k, hk, rfl⟩ := List.mem_iff_getElem.1 hd
        have hk2 : k < i := by rw [List.length_take] at hk; omega
        refine h3 k hk2 ?_
        rw [List.getElem_take] at e
        rw [List.getElem?_eq_getElem (by omega), e])]
      rw [List.map_cons]
      congr 1
      · exact mkB_eq (by rw [Lib.extract_data]; simp)
      · congr 2
        rw [Lib.extract_data]
        show (s.data.toList.drop (i + 1)).take (s.size - (i + 1)) = s.data.toList.drop (i + 1)
        exact List.take_of_length_le (by rw [List.length_drop, hsz]; exact Nat.le_refl _)
end Go.Proofs.YthbhgeifknkolaaDoor
