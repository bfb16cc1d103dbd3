import Derived.Test.YtgjfflfldddebaaDoorDecP
import Derived.Test.YtgjfflfldddebaaDoorSha
/- Frames in plain words: a text's blocks, and that blocks have one text at most. -/
namespace Go.Proofs.YtgjfflfldddebaaDoor
open Go Go.RowKit

theorem shaL_len (l : List UInt8) : (shaL l).length = 64 := by simp [shaL, figS, figW_len]
/-- what stands between the sum and the piece: turn, number, part, how many parts -/
def headL (t n p q : Nat) : List UInt8 := decL t ++ 32 :: (decL n ++ 32 :: (decL p ++ 32 :: (decL q ++ [58])))
/-- into how many pieces so many bytes are cut -/
def partsN (m : Nat) : Nat := max 1 ((m + 139) / 140)
def pieceL (x : List UInt8) (i : Nat) : List UInt8 := (x.drop (140 * i)).take 140
def blockL (t n q i : Nat) (x : List UInt8) : List UInt8 := (shaL (headL t n i q ++ x)).take 16 ++ (headL t n i q ++ pieceL x i)
def putL (t n : Nat) (x : List UInt8) : List (List UInt8) := (List.range (partsN x.length)).map fun i => blockL t n (partsN x.length) i x
theorem putL_len (t n : Nat) (x : List UInt8) : (putL t n x).length = partsN x.length := by simp [putL]
theorem parts_pos (m : Nat) : 1 ≤ partsN m := by unfold partsN; omega
theorem parts_le {m : Nat} (h : m ≤ 2000) : partsN m ≤ 15 := by unfold partsN; omega
theorem parts_fit (m : Nat) : m ≤ 140 * partsN m := by unfold partsN; omega
theorem putL_get (t n : Nat) (x : List UInt8) (i : Nat) (h : i < partsN x.length) : (putL t n x)[i]? = some (blockL t n (partsN x.length) i x) := by
  simp [putL, h]
theorem pieces_take (x : List UInt8) : ∀ k, (List.range k).flatMap (pieceL x) = x.take (140 * k)
  | 0 => by simp
  | k + 1 => by
    rw [List.range_succ, List.flatMap_append, pieces_take x k, show 140 * (k + 1) = 140 * k + 140 by omega, List.take_add]
    simp [pieceL]
theorem pieces_all (x : List UInt8) : (List.range (partsN x.length)).flatMap (pieceL x) = x := by
  rw [pieces_take, List.take_of_length_le (parts_fit _)]
theorem sixteen (y : List UInt8) : ((shaL y).take 16).length = 16 := by rw [List.length_take, shaL_len]; rfl
theorem block_drop (t n q i : Nat) (x : List UInt8) : (blockL t n q i x).drop 16 = headL t n i q ++ pieceL x i := by
  unfold blockL
  rw [List.drop_append_of_le_length (by rw [sixteen]; exact Nat.le_refl _), List.drop_of_length_le (by rw [sixteen]; exact Nat.le_refl _), List.nil_append]
theorem block_take (t n q i : Nat) (x : List UInt8) : (blockL t n q i x).take 16 = (shaL (headL t n i q ++ x)).take 16 := by
  unfold blockL
  rw [List.take_append_of_le_length (by rw [sixteen]; exact Nat.le_refl _), List.take_of_length_le (by rw [sixteen]; exact Nat.le_refl _)]
theorem block_len (t n q i : Nat) (x : List UInt8) : (blockL t n q i x).length = 16 + (headL t n i q).length + (pieceL x i).length := by
  unfold blockL
  rw [List.length_append, List.length_append, sixteen]; omega
theorem head_len {t n p q : Nat} (ht : t < 100000000) (hn : n < 100000000) (hp : p < 100) (hq : q < 100) : (headL t n p q).length ≤ 24 := by
  have h1 := decL_len 7 t (by omega)
  have h2 := decL_len 7 n (by omega)
  have h3 := decL_len 1 p (by omega)
  have h4 := decL_len 1 q (by omega)
  simp only [headL, List.length_append, List.length_cons, List.length_nil]
  omega
theorem piece_len (x : List UInt8) (i : Nat) : (pieceL x i).length ≤ 140 := by unfold pieceL; rw [List.length_take]; omega
theorem no32 : digB 32 = false := by decide
theorem no58 : digB 58 = false := by decide
theorem head_inj {t n p q t' n' p' q' : Nat} {a b : List UInt8} (h : headL t n p q ++ a = headL t' n' p' q' ++ b) : t = t' ∧ n = n' ∧ p = p' ∧ q = q' ∧ a = b := by
  simp only [headL, List.append_assoc, List.cons_append, List.nil_append] at h
  obtain ⟨e1, h⟩ := dig_split no32 (decL_dig t) (decL_dig t') h
  obtain ⟨e2, h⟩ := dig_split no32 (decL_dig n) (decL_dig n') h
  obtain ⟨e3, h⟩ := dig_split no32 (decL_dig p) (decL_dig p') h
  obtain ⟨e4, h⟩ := dig_split no58 (decL_dig q) (decL_dig q') h
  exact ⟨decL_inj e1, decL_inj e2, decL_inj e3, decL_inj e4, h⟩
theorem block_inj {t n p q t' n' p' q' : Nat} {x y : List UInt8} (h : blockL t n q p x = blockL t' n' q' p' y) : t = t' ∧ n = n' ∧ p = p' ∧ q = q' ∧ pieceL x p = pieceL y p' := by
  have h2 := congrArg (List.drop 16) h
  rw [block_drop, block_drop] at h2
  exact head_inj h2

/-- the blocks begin with just those of the text -/
def FrameIs (t n : Nat) (x : List UInt8) (l : List (List UInt8)) : Prop := x.length ≤ 2000 ∧ l.take (partsN x.length) = putL t n x
theorem FrameIs.len {t n : Nat} {x : List UInt8} {l : List (List UInt8)} (h : FrameIs t n x l) : partsN x.length ≤ l.length := by
  have := congrArg List.length h.2
  rw [List.length_take, putL_len] at this
  omega
theorem FrameIs.get {t n : Nat} {x : List UInt8} {l : List (List UInt8)} (h : FrameIs t n x l) (i : Nat) (hi : i < partsN x.length) : l[i]? = some (blockL t n (partsN x.length) i x) := by
  rw [← putL_get t n x i hi, ← h.2, List.getElem?_take, if_pos hi]
theorem frame_other {t n t' n' : Nat} {x y : List UInt8} {l : List (List UInt8)} (hx : FrameIs t n x l) (hy : FrameIs t' n' y l) : t = t' ∧ n = n' ∧ x = y := by
  have h0 := hx.get 0 (parts_pos _)
  rw [hy.get 0 (parts_pos _)] at h0
  obtain ⟨e1, e2, _, e4, _⟩ := block_inj (Option.some.inj h0)
  refine ⟨e1.symm, e2.symm, ?_⟩
  rw [← pieces_all x, ← pieces_all y, e4]
  have hp : ∀ i, i < partsN x.length → pieceL x i = pieceL y i := fun i hi => by
    have h1 := hx.get i hi
    rw [hy.get i (by rw [e4]; exact hi)] at h1
    exact ((block_inj (Option.some.inj h1)).2.2.2.2).symm
  have e := List.map_congr_left (f := pieceL x) (g := pieceL y) (l := List.range (partsN x.length)) (fun i hi => hp i (List.mem_range.1 hi))
  rw [List.flatMap_def, List.flatMap_def, e]
open Classical in
/-- the text of blocks, and how many blocks it has -/
noncomputable def frameGet (t n : Nat) (l : List (List UInt8)) : List UInt8 × Nat :=
  if h : ∃ x, FrameIs t n x l then (Classical.choose h, partsN (Classical.choose h).length) else ([], 0)
theorem frameGet_yes {t n : Nat} {x : List UInt8} {l : List (List UInt8)} (h : FrameIs t n x l) : frameGet t n l = (x, partsN x.length) := by
  have he : ∃ x, FrameIs t n x l := ⟨x, h⟩
  unfold frameGet
  rw [dif_pos he, (frame_other (Classical.choose_spec he) h).2.2]
theorem frameGet_no {t n : Nat} {l : List (List UInt8)} (h : ∀ x, ¬ FrameIs t n x l) : frameGet t n l = ([], 0) := by
  unfold frameGet
  rw [dif_neg (fun ⟨x, hx⟩ => h x hx)]

/-- a text cut at each byte c -/
def cutL (c : UInt8) : List UInt8 → List (List UInt8)
  | [] => [[]]
  | d :: l => if d = c then [] :: cutL c l else match cutL c l with
    | [] => [[d]]
    | p :: r => (d :: p) :: r
theorem cutL_ne (c : UInt8) (l : List UInt8) : cutL c l ≠ [] := by
  cases l with
  | nil => simp [cutL]
  | cons d l =>
    unfold cutL
    split
    · simp
    · split <;> simp
theorem cutL_dig {c : UInt8} {a x : List UInt8} (ha : ∀ d ∈ a, d ≠ c) : cutL c (a ++ c :: x) = a :: cutL c x := by
  induction a with
  | nil => simp [cutL]
  | cons d a ih =>
    have h1 : d ≠ c := ha d (by simp)
    have h2 := ih (fun e he => ha e (by simp [he]))
    rw [List.cons_append, cutL, if_neg h1, h2]
theorem cutL_end {c : UInt8} {a : List UInt8} (ha : ∀ d ∈ a, d ≠ c) : cutL c a = [a] := by
  induction a with
  | nil => simp [cutL]
  | cons d a ih =>
    have h1 : d ≠ c := ha d (by simp)
    have h2 := ih (fun e he => ha e (by simp [he]))
    rw [cutL, if_neg h1, h2]
theorem all_ne {a : List UInt8} {c : UInt8} (ha : a.all digB = true) (hc : digB c = false) : ∀ d ∈ a, d ≠ c := fun d hd => dig_ne (List.all_eq_true.1 ha d hd) hc
/-- the figures of how many parts, as the model reads them -/
def wordsL (b : List UInt8) : List (List UInt8) := cutL 32 ((cutL 58 (b.drop 16)).headD [])
theorem words_block (t n q i : Nat) (x : List UInt8) : wordsL (blockL t n q i x) = [decL t, decL n, decL i, decL q] := by
  unfold wordsL
  rw [block_drop]
  have e : headL t n i q ++ pieceL x i = (decL t ++ 32 :: (decL n ++ 32 :: (decL i ++ 32 :: decL q))) ++ 58 :: pieceL x i := by
    simp [headL]
  have h58 : ∀ d ∈ decL t ++ 32 :: (decL n ++ 32 :: (decL i ++ 32 :: decL q)), d ≠ 58 := by
    intro d hd
    have a1 := all_ne (decL_dig t) no58
    have a2 := all_ne (decL_dig n) no58
    have a3 := all_ne (decL_dig i) no58
    have a4 := all_ne (decL_dig q) no58
    simp only [List.mem_append, List.mem_cons] at hd
    rcases hd with h | rfl | h | rfl | h | rfl | h
    · exact a1 d h
    · decide
    · exact a2 d h
    · decide
    · exact a3 d h
    · decide
    · exact a4 d h
  rw [e, cutL_dig h58, List.headD_cons, cutL_dig (all_ne (decL_dig t) no32), cutL_dig (all_ne (decL_dig n) no32), cutL_dig (all_ne (decL_dig i) no32), cutL_end (all_ne (decL_dig q) no32)]
/-- the bytes behind the first colon at or behind the place 16 -/
def bodyL (b : List UInt8) : List UInt8 := (b.drop 16).drop (colon (b.drop 16) + 1)
theorem body_block (t n q i : Nat) (x : List UInt8) : bodyL (blockL t n q i x) = pieceL x i := by
  unfold bodyL
  rw [block_drop]
  have e : headL t n i q ++ pieceL x i = (decL t ++ 32 :: (decL n ++ 32 :: (decL i ++ 32 :: decL q))) ++ 58 :: pieceL x i := by
    simp [headL]
  have hc : ∀ (a : List UInt8), (∀ d ∈ a, d ≠ 58) → ∀ y, colon (a ++ 58 :: y) = a.length := by
    intro a
    induction a with
    | nil => intro _ y; simp [colon]
    | cons d a ih => intro h y; simp [colon, h d (by simp), ih (fun e he => h e (by simp [he])) y]
  have h58 : ∀ d ∈ decL t ++ 32 :: (decL n ++ 32 :: (decL i ++ 32 :: decL q)), d ≠ 58 := by
    intro d hd
    have a1 := all_ne (decL_dig t) no58
    have a2 := all_ne (decL_dig n) no58
    have a3 := all_ne (decL_dig i) no58
    have a4 := all_ne (decL_dig q) no58
    simp only [List.mem_append, List.mem_cons] at hd
    rcases hd with h | rfl | h | rfl | h | rfl | h
    · exact a1 d h
    · decide
    · exact a2 d h
    · decide
    · exact a3 d h
    · decide
    · exact a4 d h
  rw [e, hc _ h58, List.drop_length_add_append]
  rfl

/-- the text that the model reads: the bodies of so many blocks -/
def bodiesL (l : List (List UInt8)) (k : Nat) : List UInt8 := (l.take k).flatMap bodyL
theorem bodies_of {t n : Nat} {x : List UInt8} {l : List (List UInt8)} (h : FrameIs t n x l) : bodiesL l (partsN x.length) = x := by
  unfold bodiesL
  rw [h.2]
  conv => rhs; rw [← pieces_all x]
  unfold putL
  rw [List.flatMap_map]
  congr 1
  funext i
  exact body_block t n _ i x
/-- how many parts the model takes a block to tell of; 0 if it is none -/
def partsL (b : List UInt8) : Nat :=
  if b.length < 16 then 0 else if (wordsL b).length ≠ 4 then 0 else
    let v := numI ((wordsL b).getD 3 [])
    if 1 ≤ v ∧ v ≤ 15 then v.toNat else 0
theorem parts_block {t n q i : Nat} {x : List UInt8} (hq : 1 ≤ q) (hq2 : q ≤ 15) : partsL (blockL t n q i x) = q := by
  unfold partsL
  rw [if_neg (by rw [block_len]; omega), words_block, if_neg (by simp)]
  have e : numI (decL q) = (q : Int) := by rw [numI_yes (decL_ok (by omega)), decL_num]
  show (if 1 ≤ numI (decL q) ∧ numI (decL q) ≤ 15 then (numI (decL q)).toNat else 0) = q
  rw [e, if_pos ⟨by omega, by omega⟩]
  simp
/-- what the model reads, step by step -/
def readL (t n : Nat) (l : List (List UInt8)) : Bool :=
  decide (l ≠ []) && decide (1 ≤ partsL (l.headD [])) && decide (partsL (l.headD []) ≤ l.length) &&
    decide ((bodiesL l (partsL (l.headD []))).length ≤ 2000) && decide (putL t n (bodiesL l (partsL (l.headD []))) = l.take (partsL (l.headD [])))
theorem read_iff (t n : Nat) (l : List (List UInt8)) : (readL t n l = true → FrameIs t n (bodiesL l (partsL (l.headD []))) l ∧ partsN (bodiesL l (partsL (l.headD []))).length = partsL (l.headD [])) ∧ (∀ x, FrameIs t n x l → readL t n l = true) := by
  constructor
  · intro h
    unfold readL at h
    simp only [Bool.and_eq_true, decide_eq_true_eq] at h
    obtain ⟨⟨⟨⟨h0, h1⟩, h2⟩, h3⟩, h4⟩ := h
    have hlen := congrArg List.length h4
    rw [putL_len, List.length_take] at hlen
    have e : partsN (bodiesL l (partsL (l.headD []))).length = partsL (l.headD []) := by omega
    exact ⟨⟨h3, by rw [e]; exact h4.symm⟩, e⟩
  · intro x h
    have h0 := h.get 0 (parts_pos _)
    have hl := h.len
    have hp := parts_pos x.length
    have hne : l ≠ [] := by intro e; subst e; simp at hl; omega
    have hhd : l.headD [] = blockL t n (partsN x.length) 0 x := by
      cases l with
      | nil => exact absurd rfl hne
      | cons b r => simpa using h0
    have hq := parts_block (t := t) (n := n) (i := 0) (x := x) hp (parts_le h.1)
    unfold readL
    rw [hhd, hq, bodies_of h]
    simp only [Bool.and_eq_true, decide_eq_true_eq]
    exact ⟨⟨⟨⟨hne, hp⟩, hl⟩, h.1⟩, h.2.symm⟩
theorem read_yes {t n : Nat} {l : List (List UInt8)} (h : readL t n l = true) : frameGet t n l = (bodiesL l (partsL (l.headD [])), partsL (l.headD [])) := by
  obtain ⟨h1, h2⟩ := (read_iff t n l).1 h
  rw [frameGet_yes h1, h2]
theorem read_no {t n : Nat} {l : List (List UInt8)} (h : readL t n l = false) : frameGet t n l = ([], 0) :=
  frameGet_no (fun x hx => by rw [(read_iff t n l).2 x hx] at h; cases h)
end Go.Proofs.YtgjfflfldddebaaDoor
