import Derived.Test.YtgjfflfldddebaaDoorFrameP
/- A block of a text of which one byte is another one: read again it is none, or both have one sum. -/
namespace Go.Proofs.YtgjfflfldddebaaDoor
open Go Go.RowKit

theorem xor1_ne (a : UInt8) : a ^^^ 1 ≠ a := by
  intro h
  have h2 := congrArg UInt8.toBitVec h
  rw [UInt8.toBitVec_xor] at h2
  have h3 := congrArg (fun b => b.getLsbD 0) h2
  simp at h3
theorem set_ne {l : List UInt8} {p : Nat} {z : UInt8} (hp : p < l.length) (h : l.set p z = l) : z = l[p] := by
  have := List.getElem_set_self (l := l) (i := p) (a := z) (by rw [List.length_set]; exact hp)
  rw [← this]
  congr 1
/-- a block of which the byte at p is another one is no block with the same numbers, or that byte stands behind the head and both sums are one -/
theorem block_chg {t n q k p : Nat} {x y : List UInt8} {z : UInt8} (hp : p < (blockL t n q k x).length) (hz : z ≠ (blockL t n q k x)[p]) (hxy : ∀ i, i < q → i ≠ k → pieceL x i = pieceL y i) (hq : partsN x.length = q) (hqy : partsN y.length = q)
    (h : (blockL t n q k x).set p z = blockL t n q k y) : 16 + (headL t n k q).length ≤ p ∧ (shaL (headL t n k q ++ x)).take 16 = (shaL (headL t n k q ++ y)).take 16 := by
  by_cases h16 : p < 16
  · exfalso
    have e1 : ((blockL t n q k x).set p z).drop 16 = (blockL t n q k x).drop 16 := by rw [List.drop_set_of_lt h16]
    rw [h, block_drop, block_drop] at e1
    have e2 := (head_inj e1).2.2.2.2
    have e3 : x = y := by
      rw [← pieces_all x, ← pieces_all y, hqy, hq]
      have e := List.map_congr_left (f := pieceL x) (g := pieceL y) (l := List.range q) (fun i hi => by
        by_cases hik : i = k
        · rw [hik]; exact e2.symm
        · exact hxy i (List.mem_range.1 hi) hik)
      rw [List.flatMap_def, List.flatMap_def, e]
    subst e3
    exact hz (set_ne hp h)
  have hd : ((blockL t n q k x).set p z).drop 16 = ((blockL t n q k x).drop 16).set (p - 16) z := by
    rw [List.drop_set, if_neg h16]
  have ht : ((blockL t n q k x).set p z).take 16 = (blockL t n q k x).take 16 := by
    rw [List.take_set_of_le (by omega)]
  refine ⟨?_, by rw [h, block_take, block_take] at ht; exact ht.symm⟩
  refine Nat.le_of_not_lt fun hlt => ?_
  rw [h, block_drop, block_drop, List.set_append_left _ _ (by omega)] at hd
  have e1 := congrArg (List.take (headL t n k q).length) hd
  rw [List.take_left, List.take_left' (by rw [List.length_set])] at e1
  have e2 := set_ne (by omega) e1.symm
  apply hz
  have e3 : (blockL t n q k x)[p]? = (headL t n k q)[p - 16]? := by
    have h := congrArg (fun l => l[p - 16]?) (block_drop t n q k x)
    simp only [List.getElem?_drop] at h
    rw [show 16 + (p - 16) = p by omega] at h
    rw [h, List.getElem?_append_left (by omega)]
  rw [List.getElem?_eq_getElem hp, List.getElem?_eq_getElem (show p - 16 < (headL t n k q).length by omega)] at e3
  rw [e2, Option.some.inj e3]
theorem one_no : ∀ q, q < 16 → 2 ≤ q → (decL q ++ [58]).length ≤ 3 ∧ ∀ e, e < 3 → ((decL q ++ [58]).set e ((decL q ++ [58]).getD e 0 ^^^ 1)).take 2 ≠ [49, 58] := by decide +kernel
theorem one_yes : decL 1 = [49] := by decide +kernel
/-- how many parts there are stands in the head: with one bit turned it does not come to be one -/
theorem head_one {t n q p : Nat} {a b : List UInt8} {c : UInt8} (hq : 2 ≤ q) (hq2 : q ≤ 15) (hc : (headL t n 0 q ++ a)[p]? = some c) (h : (headL t n 0 q ++ a).set p (c ^^^ 1) = headL t n 0 1 ++ b) : False := by
  obtain ⟨pre, hpre⟩ : ∃ pre, decL t ++ 32 :: (decL n ++ 32 :: (decL 0 ++ [32])) = pre := ⟨_, rfl⟩
  have eh : ∀ r, headL t n 0 r = pre ++ (decL r ++ [58]) := fun r => by rw [← hpre]; simp [headL]
  obtain ⟨h3, h2⟩ := one_no q (by omega) hq
  rw [eh, eh, one_yes] at h
  rw [eh] at hc
  have h2p : 2 ≤ (decL q ++ [58]).length := by
    have := decL_pos q
    simp; omega
  have e1 := congrArg (fun l => (l.drop pre.length).take 2) h
  simp only [List.append_assoc, List.drop_left] at e1
  have e0 : List.take 2 (([49] : List UInt8) ++ ([58] ++ b)) = [49, 58] := rfl
  rw [e0] at e1
  by_cases hlt : p < pre.length
  · rw [List.set_append_left _ _ hlt, List.drop_left' (by rw [List.length_set])] at e1
    have := h2 2 (by omega)
    apply this
    rw [List.take_set_of_le (by omega), ← e1, ← List.append_assoc, List.take_append_of_le_length h2p]
  · rw [List.set_append_right _ _ (by omega), List.drop_left, ← List.append_assoc] at e1
    by_cases h4 : p - pre.length < (decL q ++ [58]).length
    · rw [List.set_append_left _ _ h4, List.take_append_of_le_length (by rw [List.length_set]; exact h2p)] at e1
      have := h2 (p - pre.length) (by omega)
      apply this
      rw [← e1]
      congr 2
      rw [List.append_assoc, List.append_assoc, ← List.append_assoc (decL q), List.getElem?_append_right (by omega), List.getElem?_append_left h4] at hc
      rw [List.getD_eq_getElem?_getD, hc]; rfl
    · rw [List.set_append_right _ _ (by omega), List.take_append_of_le_length h2p] at e1
      have := h2 2 (by omega)
      apply this
      rw [List.take_set_of_le (by omega), e1]
/-- blocks of a text of which one byte of one block is turned are read as none, or that byte stands behind the head, all of them are of one text, and both sums are one -/
theorem frame_chg {t n k p : Nat} {x y : List UInt8} {c : UInt8} (hx : x.length ≤ 2000) (hk : k < partsN x.length) (hp : p < (blockL t n (partsN x.length) k x).length) (hc : (blockL t n (partsN x.length) k x)[p] = c)
    (h : FrameIs t n y ((putL t n x).set k ((blockL t n (partsN x.length) k x).set p (c ^^^ 1)))) :
    partsN y.length = partsN x.length ∧ 16 + (headL t n k (partsN x.length)).length ≤ p ∧ (shaL (headL t n k (partsN x.length) ++ x)).take 16 = (shaL (headL t n k (partsN x.length) ++ y)).take 16 := by
  have hq2 := parts_le hx
  have hy1 := parts_pos y.length
  have hl := h.len
  rw [List.length_set, putL_len] at hl
  have hg := h.get
  have hset : ∀ i, i ≠ k → ((putL t n x).set k ((blockL t n (partsN x.length) k x).set p (c ^^^ 1)))[i]? = (putL t n x)[i]? := fun i hi => List.getElem?_set_ne (fun e => hi e.symm)
  have hsk : ((putL t n x).set k ((blockL t n (partsN x.length) k x).set p (c ^^^ 1)))[k]? = some ((blockL t n (partsN x.length) k x).set p (c ^^^ 1)) := List.getElem?_set_self (by rw [putL_len]; exact hk)
  have main : partsN y.length = partsN x.length → partsN y.length = partsN x.length ∧ 16 + (headL t n k (partsN x.length)).length ≤ p ∧ (shaL (headL t n k (partsN x.length) ++ x)).take 16 = (shaL (headL t n k (partsN x.length) ++ y)).take 16 := fun e => by
    refine ⟨e, ?_⟩
    have h1 := hg k (by omega)
    rw [hsk, e] at h1
    refine block_chg hp (by rw [hc]; exact xor1_ne c) (fun i hi hik => ?_) rfl e (Option.some.inj h1)
    have h2 := hg i (by omega)
    rw [hset i hik, putL_get t n x i hi] at h2
    exact (block_inj (Option.some.inj h2)).2.2.2.2
  by_cases hex : ∃ i, i < partsN y.length ∧ i ≠ k
  · obtain ⟨i, hi, hik⟩ := hex
    have h2 := hg i hi
    rw [hset i hik, putL_get t n x i (by omega)] at h2
    exact main (block_inj (Option.some.inj h2)).2.2.2.1.symm
  · have hk0 : k = 0 := by
      refine Nat.eq_zero_of_not_pos fun hpos => hex ⟨0, hy1, by omega⟩
    have hy2 : partsN y.length = 1 := by
      refine Nat.le_antisymm (Nat.le_of_not_lt fun hlt => hex ⟨1, hlt, by omega⟩) hy1
    by_cases hq1 : partsN x.length = 1
    · exact main (by omega)
    · exfalso
      subst hk0
      have h1 := hg 0 hy1
      rw [hsk, hy2] at h1
      have h1 := congrArg (List.drop 16) (Option.some.inj h1)
      rw [block_drop] at h1
      by_cases h16 : p < 16
      · rw [List.drop_set_of_lt h16, block_drop] at h1
        exact hq1 (head_inj h1).2.2.2.1
      · rw [List.drop_set, if_neg h16, block_drop] at h1
        have hp0 := hp
        rw [block_len] at hp
        refine head_one (by omega) hq2 (p := p - 16) (a := pieceL x 0) (b := pieceL y 0) (c := c) ?_ h1
        have := congrArg (fun l => l[p - 16]?) (block_drop t n (partsN x.length) 0 x)
        simp only [List.getElem?_drop] at this
        rw [← this, show 16 + (p - 16) = p by omega, List.getElem?_eq_getElem hp0, hc]
end Go.Proofs.YtgjfflfldddebaaDoor
