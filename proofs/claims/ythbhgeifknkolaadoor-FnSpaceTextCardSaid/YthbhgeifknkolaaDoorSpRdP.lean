import Derived.Test.YthbhgeifknkolaaDoorCutT
import Derived.Test.YthbhgeifknkolaaDoorSpaceW
/- Spaces read out of their texts, in plain words. -/
namespace Go.Proofs.YthbhgeifknkolaaDoor
open Go Go.RowKit

def wordR (s : ByteArray) : ByteArray := if s = ⟨#[45]⟩ then ⟨#[]⟩ else s
def limP (s : ByteArray) : Int := if s = ⟨#[45, 49]⟩ then -1 else numP s.data.toList
def goB (s : ByteArray) : Bool := decide (s = ⟨#[103, 111, 105, 110, 103]⟩)
def preB (s : ByteArray) : Bool := decide (2 ≤ s.size) && decide (s.extract 0 2 = ⟨#[115, 46]⟩)
def zeroSp : SpaceD := (⟨#[]⟩, ⟨#[]⟩, 0, false, 0)
def mkSp (key w0 w1 w2 w3 : ByteArray) : SpaceD := (key.extract 2 key.size, wordR w0, limP w1, goB w2, numP w3.data.toList)
def rdS (key text : ByteArray) : SpaceD × Bool :=
  match cutsB 32 text with
  | [w0, w1, w2, w3] => if preB key = true ∧ swB (mkSp key w0 w1 w2 w3) = text then (mkSp key w0 w1 w2 w3, true) else (zeroSp, false)
  | _ => (zeroSp, false)
theorem cutL_no (c : UInt8) : ∀ (l : List UInt8), ∀ x ∈ cutL c l, ∀ d ∈ x, d ≠ c := by
  intro l
  induction l with
  | nil => intro x hx; simp [cutL] at hx; subst hx; simp
  | cons e l ih =>
    intro x hx
    unfold cutL at hx
    split at hx
    · rcases List.mem_cons.1 hx with rfl | hx
      · simp
      · exact ih x hx
    · rename_i hne
      split at hx
      · rename_i h0
        exact absurd h0 (cutL_ne c l)
      · rename_i p r h0
        rcases List.mem_cons.1 hx with rfl | hx
        · intro d hd
          rcases List.mem_cons.1 hd with rfl | hd
          · exact hne
          · exact ih p (by rw [h0]; simp) d hd
        · exact ih x (by rw [h0]; simp [hx])
def NoSp (s : ByteArray) : Prop := ∀ d ∈ s.data.toList, d ≠ 32
theorem noSp_cut {t : ByteArray} {x : ByteArray} (h : x ∈ cutsB 32 t) : NoSp x := by
  unfold cutsB at h
  obtain ⟨l, hl, rfl⟩ := List.mem_map.1 h
  unfold NoSp
  rw [mkB_list]
  exact cutL_no 32 _ l hl
theorem noSp_dec {n : Int} : NoSp (decI n) := by
  intro d hd
  have h1 : d ∈ Lib.itoa n := by simpa [decI] using hd
  unfold Lib.itoa at h1
  have hdig : ∀ k : Nat, ∀ d ∈ decL k, d ≠ 32 := fun k d hd => dig_ne (List.all_eq_true.1 (decL_dig k) d hd) (by decide)
  split at h1
  · rcases List.mem_cons.1 h1 with rfl | h1
    · decide
    · exact hdig _ d h1
  · exact hdig _ d h1
theorem noSp_flag {g : Bool} : NoSp (flagB g) := by
  unfold NoSp
  cases g <;> decide
theorem noSp_word {s : ByteArray} (h : NoSp s) : NoSp (wordB s) := by
  unfold wordB
  split
  · unfold NoSp; decide
  · exact h
theorem noSp_wordR {s : ByteArray} (h : NoSp s) : NoSp (wordR s) := by
  unfold wordR
  split
  · unfold NoSp; decide
  · exact h
theorem cuts_swL {x : SpaceD} (h : NoSp x.2.1) : cutsB 32 (swL x) = [wordB x.2.1, decI x.2.2.1, flagB x.2.2.2.1, decI x.2.2.2.2] := by
  have e : (swL x).data.toList = (wordB x.2.1).data.toList ++ 32 :: ((decI x.2.2.1).data.toList ++ 32 :: ((flagB x.2.2.2.1).data.toList ++ 32 :: (decI x.2.2.2.2).data.toList)) := by
    unfold swL
    simp [ByteArray.data_append]
  unfold cutsB
  rw [e, cutL_dig (noSp_word h), cutL_dig noSp_dec, cutL_dig noSp_flag, cutL_end noSp_dec]
  simp [mkB_of]
theorem cuts_empty : cutsB 32 ⟨#[]⟩ = [⟨#[]⟩] := by
  unfold cutsB
  rfl
/-- what is written is what is read -/
theorem read_nums {text w0 w1 w2 w3 n : ByteArray} {lim rev : Int} {g : Bool} (hc : cutsB 32 text = [w0, w1, w2, w3]) (h : swB (n, wordR w0, lim, g, rev) = text) : w1 = decI lim ∧ w3 = decI rev := by
  have h0 : NoSp (wordR w0) := noSp_wordR (noSp_cut (t := text) (by rw [hc]; simp))
  unfold swB at h
  split at h
  · rw [← h, cuts_swL (x := (n, wordR w0, lim, g, rev)) h0] at hc
    simp only [List.cons.injEq] at hc
    exact ⟨hc.2.1.symm, hc.2.2.2.1.symm⟩
  · rw [← h, cuts_empty] at hc
    simp at hc
theorem dec0_ok : numOk (decI 0).data.toList = true := by
  rw [decI_nat (by omega), show (0 : Int).toNat = 0 from rfl, decB_small (by omega)]
  decide
theorem text_ne {text w0 w1 w2 w3 : ByteArray} (hc : cutsB 32 text = [w0, w1, w2, w3]) : text ≠ ⟨#[]⟩ := by
  intro e
  rw [e, cuts_empty] at hc
  simp at hc
theorem swB_rev {n o : ByteArray} {lim rev : Int} {g : Bool} (h : rev < 0) : swB (n, o, lim, g, rev) = ⟨#[]⟩ := by
  unfold swB
  rw [if_neg]
  intro e
  have := (spOk_nums e).2.1
  simp only at this
  omega
theorem rdS_yes {key text w0 w1 w2 w3 : ByteArray} (hc : cutsB 32 text = [w0, w1, w2, w3]) (hp : preB key = true) (h : swB (mkSp key w0 w1 w2 w3) = text) : rdS key text = (mkSp key w0 w1 w2 w3, true) := by
  unfold rdS
  rw [hc]
  simp only
  rw [if_pos ⟨hp, h⟩]
theorem rdS_no {key text w0 w1 w2 w3 : ByteArray} (hc : cutsB 32 text = [w0, w1, w2, w3]) (h : ¬ swB (mkSp key w0 w1 w2 w3) = text) : rdS key text = (zeroSp, false) := by
  unfold rdS
  rw [hc]
  simp only
  rw [if_neg (fun e => h e.2)]
theorem rdS_pre {key text : ByteArray} (hp : preB key = false) : rdS key text = (zeroSp, false) := by
  unfold rdS
  split
  · rw [if_neg (fun e => by rw [hp] at e; exact absurd e.1 (by simp))]
  · rfl
theorem rdS_len {key text : ByteArray} (h : (cutsB 32 text).length ≠ 4) : rdS key text = (zeroSp, false) := by
  unfold rdS
  split
  · rename_i hc
    rw [hc] at h
    exact absurd rfl h
  · rfl
theorem rdS_lim {key text w0 w1 w2 w3 : ByteArray} (hc : cutsB 32 text = [w0, w1, w2, w3]) (h1 : w1 ≠ ⟨#[45, 49]⟩) (h2 : numOk w1.data.toList = false) : rdS key text = (zeroSp, false) := by
  refine rdS_no hc (fun e => ?_)
  have hl : limP w1 = 0 := by unfold limP; rw [if_neg h1, numP_no h2]
  have := (read_nums hc e).1
  rw [hl] at this
  rw [this, dec0_ok] at h2
  cases h2
theorem rdS_rev {key text w0 w1 w2 w3 : ByteArray} (hc : cutsB 32 text = [w0, w1, w2, w3]) (h2 : numOk w3.data.toList = false) : rdS key text = (zeroSp, false) := by
  refine rdS_no hc (fun e => ?_)
  have := (read_nums hc e).2
  rw [numP_no h2] at this
  rw [this, dec0_ok] at h2
  cases h2
theorem numI_neg {l : List UInt8} (h : numI l < 0) : numOk l = false := by
  cases e : numOk l with
  | false => rfl
  | true => rw [numI_yes e] at h; omega
theorem numI_pos {l : List UInt8} (h : 0 ≤ numI l) : numP l = numI l := by
  cases e : numOk l with
  | false => rw [numI_no e] at h; omega
  | true => rw [numI_yes e, numP_yes e]
theorem limP_yes : limP ⟨#[45, 49]⟩ = -1 := by simp [limP]
theorem limP_num {w1 : ByteArray} {n : Int} (h : w1 ≠ ⟨#[45, 49]⟩) (hn : numI w1.data.toList = n) (h0 : 0 ≤ n) : limP w1 = n := by
  unfold limP
  rw [if_neg h, ← hn]
  exact numI_pos (by rw [hn]; exact h0)
theorem rd_lim_no {key text w0 w1 w2 w3 : ByteArray} {n : Int} (hc : cutsB 32 text = [w0, w1, w2, w3]) (h1 : w1 ≠ ⟨#[45, 49]⟩) (hn : numI w1.data.toList = n) (h0 : n < 0) : rdS key text = (zeroSp, false) :=
  rdS_lim hc h1 (numI_neg (by rw [hn]; exact h0))
theorem rd_fin_yes {key text w0 w1 w2 w3 o : ByteArray} {lim n : Int} {g : Bool} (hc : cutsB 32 text = [w0, w1, w2, w3]) (hp : preB key = true) (ho : wordR w0 = o) (hl : limP w1 = lim) (hg : goB w2 = g) (hn : numI w3.data.toList = n) (hY : swB (key.extract 2 key.size, o, lim, g, n) = text) : rdS key text = ((key.extract 2 key.size, o, lim, g, n), true) := by
  have h0 : 0 ≤ n := by
    rcases Int.lt_or_le n 0 with h | h
    · rw [swB_rev h] at hY
      exact absurd hY.symm (text_ne hc)
    · exact h
  have hx : mkSp key w0 w1 w2 w3 = (key.extract 2 key.size, o, lim, g, n) := by
    unfold mkSp
    rw [ho, hl, hg, numI_pos (by rw [hn]; exact h0), hn]
  rw [← hx] at hY ⊢
  exact rdS_yes hc hp hY
theorem rd_fin_no {key text w0 w1 w2 w3 o : ByteArray} {lim n : Int} {g : Bool} (hc : cutsB 32 text = [w0, w1, w2, w3]) (ho : wordR w0 = o) (hl : limP w1 = lim) (hg : goB w2 = g) (hn : numI w3.data.toList = n) (hY : ¬ swB (key.extract 2 key.size, o, lim, g, n) = text) : rdS key text = (zeroSp, false) := by
  rcases Int.lt_or_le n 0 with h | h
  · exact rdS_rev hc (numI_neg (by rw [hn]; exact h))
  · have hx : mkSp key w0 w1 w2 w3 = (key.extract 2 key.size, o, lim, g, n) := by
      unfold mkSp
      rw [ho, hl, hg, numI_pos (by rw [hn]; exact h), hn]
    rw [← hx] at hY
    exact rdS_no hc hY
theorem len4 {α : Type} {l : List α} (h : l.length = 4) : ∃ a b c d, l = [a, b, c, d] := by
  match l, h with
  | [a, b, c, d], _ => exact ⟨a, b, c, d, rfl⟩
end Go.Proofs.YthbhgeifknkolaaDoor
