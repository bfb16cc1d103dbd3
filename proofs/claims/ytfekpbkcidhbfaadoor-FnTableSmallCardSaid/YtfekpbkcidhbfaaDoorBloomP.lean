import Derived.Test.YtfekpbkcidhbfaaDoorSha
import Derived.Lib.Bytealg
/- Bits of keys, in plain words: the three bits of a key, the figures of four bits each. -/
namespace Go.Proofs.YtfekpbkcidhbfaaDoor
open Go Go.RowKit

/-- the number of a figure, -1 if it is none -/
def vfig (c : UInt8) : Int := if 48 ≤ c.toNat ∧ c.toNat ≤ 57 then (c.toNat : Int) - 48 else if 97 ≤ c.toNat ∧ c.toNat ≤ 102 then (c.toNat : Int) - 97 + 10 else -1
def hexF : ByteArray := ⟨#[48, 49, 50, 51, 52, 53, 54, 55, 56, 57, 97, 98, 99, 100, 101, 102]⟩
theorem idx_fig (c : UInt8) : Lib.indexByte hexF.data.toList c = vfig c := by
  have h : ∀ n : Fin 256, Lib.indexByte hexF.data.toList (UInt8.ofFin n) = vfig (UInt8.ofFin n) := by decide +kernel
  exact h c.toFin
theorem vfig_figC : ∀ n, n < 16 → vfig (figC n) = (n : Int) := by decide +kernel
theorem hexF_at : ∀ n (h : n < 16), hexF[n]'(by show n < 16; exact h) = figC n := by decide +kernel
theorem vfig_le (c : UInt8) : -1 ≤ vfig c ∧ vfig c ≤ 15 := by
  unfold vfig
  split
  · omega
  · split <;> omega
theorem hexF_cut : ∀ n, n < 16 → hexF.extract n (n + 1) = ⟨#[figC n]⟩ := by decide +kernel
theorem figW_fig (x : W32) : ∀ c ∈ figW x, ∃ m, m < 16 ∧ c = figC m := fun c hc => by
  unfold figW at hc
  obtain ⟨i, _, rfl⟩ := List.mem_map.1 hc
  exact ⟨_, Nat.mod_lt _ (by omega), rfl⟩
theorem figS_fig (s : S8) : ∀ c ∈ figS s, ∃ m, m < 16 ∧ c = figC m := fun c hc => by
  unfold figS at hc
  obtain ⟨x, _, hx⟩ := List.mem_flatMap.1 hc
  exact figW_fig x c hx
/-- the number of the figure at a place of a text -/
def vN (u : ByteArray) (j : Nat) : Nat := (vfig (u.data.toList.getD j 0)).toNat
/-- all figures of a text are figures -/
def FigB (u : ByteArray) : Prop := ∀ j (h : j < u.size), 0 ≤ vfig u[j]
theorem vN_at {u : ByteArray} {j : Nat} (h : j < u.size) : vN u j = (vfig u[j]).toNat := by
  unfold vN
  rw [List.getD_eq_getElem?_getD, List.getElem?_eq_getElem (show j < u.data.toList.length from h)]
  rfl
theorem vN_le (u : ByteArray) (j : Nat) : vN u j ≤ 15 := by
  have := vfig_le (u.data.toList.getD j 0)
  unfold vN; omega
theorem vN_int {u : ByteArray} {j : Nat} (h : j < u.size) (hf : FigB u) : vfig u[j] = (vN u j : Int) := by
  rw [vN_at h]
  have := hf j h
  omega
theorem shaS_fig (x : ByteArray) : FigB (shaS x) := fun j h => by
  have hl : (shaL x.data.toList).length = 64 := by simp [shaL, figS, figW]
  have hj : j < (shaL x.data.toList).length := by have := shaS_size x; omega
  have hm : (shaL x.data.toList)[j] ∈ shaL x.data.toList := List.getElem_mem hj
  show 0 ≤ vfig ((shaL x.data.toList)[j]'hj)
  obtain ⟨m, hm2, e⟩ := figS_fig _ _ (show (shaL x.data.toList)[j] ∈ figS _ from hm)
  rw [e, vfig_figC m hm2]
  omega
/-- the bit number i of a key whose sum is u -/
def spotU (u : ByteArray) (i : Nat) : Nat := (16 * vN u (2 * i) + vN u (2 * i + 1)) % 64
theorem spotU_lt (u : ByteArray) (i : Nat) : spotU u i < 64 := Nat.mod_lt _ (by omega)
def hasU (u : ByteArray) (b : Nat) : Bool := (List.range 3).any fun i => decide (spotU u i = b)
/-- whether a bit is among those of keys -/
def bitK (keys : List ByteArray) (b : Nat) : Bool := keys.any fun x => hasU (shaS x) b
def b2n (b : Bool) : Nat := if b then 1 else 0
/-- a figure of four bits -/
def nib (f : Nat → Bool) (i : Nat) : Nat := ((b2n (f (4 * i)) * 2 + b2n (f (4 * i + 1))) * 2 + b2n (f (4 * i + 2))) * 2 + b2n (f (4 * i + 3))
theorem b2n_le (b : Bool) : b2n b ≤ 1 := by cases b <;> decide
theorem nib_lt (f : Nat → Bool) (i : Nat) : nib f i < 16 := by
  have h1 := b2n_le (f (4 * i))
  have h2 := b2n_le (f (4 * i + 1))
  have h3 := b2n_le (f (4 * i + 2))
  have h4 := b2n_le (f (4 * i + 3))
  unfold nib
  omega
def bloomL (f : Nat → Bool) : List UInt8 := (List.range 16).map fun i => figC (nib f i)
def bloomB (f : Nat → Bool) : ByteArray := ⟨(bloomL f).toArray⟩
theorem nib_congr {f g : Nat → Bool} {i : Nat} (h : ∀ b, b / 4 = i → f b = g b) : nib f i = nib g i := by
  unfold nib
  rw [h (4 * i) (by omega), h (4 * i + 1) (by omega), h (4 * i + 2) (by omega), h (4 * i + 3) (by omega)]
theorem or_tab : ∀ r, r < 4 → ∀ b0 b1 b2 b3 : Bool, (((b2n b0 * 2 + b2n b1) * 2 + b2n b2) * 2 + b2n b3) ||| (8 >>> r) = ((b2n (b0 || decide (r = 0)) * 2 + b2n (b1 || decide (r = 1))) * 2 + b2n (b2 || decide (r = 2))) * 2 + b2n (b3 || decide (r = 3)) := by decide
/-- the figures of four bits each -/
def figV (f : Nat → Bool) : List Value := (List.range 16).map fun i => .int .u8 (nib f i : Nat)
theorem figV_len (f : Nat → Bool) : (figV f).length = 16 := by simp [figV]
theorem figV_at (f : Nat → Bool) {i : Nat} (h : i < 16) : (figV f)[i]? = some (.int .u8 (nib f i : Nat)) := by simp [figV, h]
def addF (f : Nat → Bool) (b : Nat) : Nat → Bool := fun c => f c || decide (c = b)
theorem nib_add (f : Nat → Bool) (b : Nat) : nib (addF f b) (b / 4) = nib f (b / 4) ||| (8 >>> (b % 4)) := by
  have h := or_tab (b % 4) (Nat.mod_lt _ (by omega)) (f (4 * (b / 4))) (f (4 * (b / 4) + 1)) (f (4 * (b / 4) + 2)) (f (4 * (b / 4) + 3))
  have e0 : decide (4 * (b / 4) = b) = decide (b % 4 = 0) := by rw [decide_eq_decide]; omega
  have e1 : decide (4 * (b / 4) + 1 = b) = decide (b % 4 = 1) := by rw [decide_eq_decide]; omega
  have e2 : decide (4 * (b / 4) + 2 = b) = decide (b % 4 = 2) := by rw [decide_eq_decide]; omega
  have e3 : decide (4 * (b / 4) + 3 = b) = decide (b % 4 = 3) := by rw [decide_eq_decide]; omega
  unfold nib addF
  rw [e0, e1, e2, e3, ← h]
theorem figV_add (f : Nat → Bool) (b : Nat) (hb : b < 64) : figV (addF f b) = (figV f).set (b / 4) (.int .u8 (nib f (b / 4) ||| (8 >>> (b % 4)) : Nat)) := by
  apply List.ext_getElem?
  intro i
  by_cases h : i < 16
  · rw [figV_at _ h]
    by_cases e : i = b / 4
    · subst e
      rw [List.getElem?_set_self (by rw [figV_len]; exact h), nib_add]
    · rw [List.getElem?_set_ne (fun q => e q.symm), figV_at _ h, nib_congr (g := f)]
      intro c hc
      unfold addF
      rw [decide_eq_false (by intro q; subst q; exact e hc.symm), Bool.or_false]
  · rw [List.getElem?_eq_none (by rw [figV_len]; omega), List.getElem?_eq_none (by rw [List.length_set, figV_len]; omega)]
theorem or_u8 : ∀ n : Nat, n < 16 → ∀ r : Nat, r < 4 → bits .or .u8 (n : Int) ((8 >>> r : Nat) : Int) = ((n ||| (8 >>> r) : Nat) : Int) := by decide +kernel
theorem and_u8 : ∀ n : Nat, n < 16 → ∀ r : Nat, r < 4 → bits .and .u8 (n : Int) ((8 >>> r : Nat) : Int) = ((n &&& (8 >>> r) : Nat) : Int) := by decide +kernel
theorem shr_tab : ∀ r : Nat, r < 4 → (8 : Int) / 2 ^ r = ((8 >>> r : Nat) : Int) := by decide
theorem and_tab : ∀ r, r < 4 → ∀ b0 b1 b2 b3 : Bool, decide ((((b2n b0 * 2 + b2n b1) * 2 + b2n b2) * 2 + b2n b3) &&& (8 >>> r) = 0) = !([b0, b1, b2, b3].getD r true) := by decide
/-- a bit of a figure -/
theorem nib_bit (f : Nat → Bool) (b : Nat) : decide (nib f (b / 4) &&& (8 >>> (b % 4)) = 0) = !f b := by
  have h := and_tab (b % 4) (Nat.mod_lt _ (by omega)) (f (4 * (b / 4))) (f (4 * (b / 4) + 1)) (f (4 * (b / 4) + 2)) (f (4 * (b / 4) + 3))
  unfold nib
  rw [h]
  have hb : b = 4 * (b / 4) + b % 4 := by omega
  have hr : b % 4 = 0 ∨ b % 4 = 1 ∨ b % 4 = 2 ∨ b % 4 = 3 := by omega
  rcases hr with e | e | e | e
  · rw [e]; rw [e] at hb; show (!f (4 * (b / 4))) = _; rw [← show b = 4 * (b / 4) by omega]
  · rw [e]; rw [e] at hb; show (!f (4 * (b / 4) + 1)) = _; rw [← hb]
  · rw [e]; rw [e] at hb; show (!f (4 * (b / 4) + 2)) = _; rw [← hb]
  · rw [e]; rw [e] at hb; show (!f (4 * (b / 4) + 3)) = _; rw [← hb]
/-- the bits of k of a key's spots more -/
def stepF (f : Nat → Bool) (u : ByteArray) : Nat → Nat → Bool
  | 0 => f
  | k + 1 => addF (stepF f u k) (spotU u k)
theorem stepF_at (f : Nat → Bool) (u : ByteArray) : ∀ k b, stepF f u k b = (f b || (List.range k).any fun i => decide (spotU u i = b))
  | 0, b => by simp [stepF]
  | k + 1, b => by
    show (stepF f u k b || decide (b = spotU u k)) = _
    rw [stepF_at f u k b, List.range_succ, List.any_append, Bool.or_assoc]
    congr 1
    simp [eq_comm]
theorem bitK_next {l : List ByteArray} {k : Nat} (h : k < l.length) : stepF (bitK (l.take k)) (shaS l[k]) 3 = bitK (l.take (k + 1)) := by
  funext b
  rw [stepF_at]
  unfold bitK hasU
  rw [List.take_succ_eq_append_getElem h, List.any_append]
  simp
def bitsV (f : Nat → Bool) : List Value := (List.range 64).map fun i => .bool (f i)
theorem bitsV_len (f : Nat → Bool) : (bitsV f).length = 64 := by simp [bitsV]
theorem bitsV_at (f : Nat → Bool) {i : Nat} (h : i < 64) : (bitsV f)[i]? = some (.bool (f i)) := by simp [bitsV, h]
theorem bitsV_add (f : Nat → Bool) {b : Nat} (_hb : b < 64) : (bitsV f).set b (.bool true) = bitsV (addF f b) := by
  apply List.ext_getElem?
  intro i
  by_cases h : i < 64
  · rw [bitsV_at _ h]
    by_cases e : i = b
    · subst e
      rw [List.getElem?_set_self (by rw [bitsV_len]; exact h)]
      unfold addF; simp
    · rw [List.getElem?_set_ne (fun q => e q.symm), bitsV_at _ h]
      unfold addF; simp [e]
  · rw [List.getElem?_eq_none (by rw [List.length_set, bitsV_len]; omega), List.getElem?_eq_none (by rw [bitsV_len]; omega)]
/-- a figure, bit by bit -/
def pN (f : Nat → Bool) (i : Nat) : Nat → Nat
  | 0 => 0
  | k + 1 => pN f i k * 2 + b2n (f (4 * i + k))
theorem pN_four (f : Nat → Bool) (i : Nat) : pN f i 4 = nib f i := by
  unfold nib
  simp [pN]
theorem pN_le (f : Nat → Bool) (i : Nat) : ∀ k, pN f i k + 1 ≤ 2 ^ k
  | 0 => by simp [pN]
  | k + 1 => by
    have h := pN_le f i k
    have h2 := b2n_le (f (4 * i + k))
    show pN f i k * 2 + b2n (f (4 * i + k)) + 1 ≤ _
    rw [Nat.pow_succ]; omega
def bloomTo (f : Nat → Bool) (k : Nat) : ByteArray := ⟨((List.range k).map fun i => figC (nib f i)).toArray⟩
theorem bloomTo_next (f : Nat → Bool) (k : Nat) : bloomTo f k ++ ⟨#[figC (nib f k)]⟩ = bloomTo f (k + 1) := by
  have h : ∀ a b : ByteArray, a.data = b.data → a = b := fun a b e => by cases a; cases b; cases e; rfl
  apply h
  rw [ByteArray.data_append]
  simp [bloomTo, List.range_succ]
theorem bloomTo_all (f : Nat → Bool) : bloomTo f 16 = bloomB f := rfl
theorem bloomTo_size (f : Nat → Bool) (k : Nat) : (bloomTo f k).size = k := by
  show (((List.range k).map fun i => figC (nib f i)).toArray).size = k
  simp
/-- a bit of written figures -/
def bitV (s : ByteArray) (b : Nat) : Bool := decide (vN s (b / 4) / 2 ^ (3 - b % 4) % 2 = 1)
def figOk (s : ByteArray) : Bool := (List.range 16).all fun j => decide (0 ≤ vfig (s.data.toList.getD j 0))
def allV (s u : ByteArray) : Bool := (List.range 3).all fun i => bitV s (spotU u i)
def mayB (s x : ByteArray) : Bool := if decide (s.size = 16) && figOk s then allV s (shaS x) else true
theorem fig_at {s : ByteArray} {j : Nat} (h : j < s.size) : s.data.toList.getD j 0 = s[j] := by
  rw [List.getD_eq_getElem?_getD, List.getElem?_eq_getElem (show j < s.data.toList.length from h)]
  rfl
theorem figOk_no {s : ByteArray} {j : Nat} (h : j < 16) (hs : j < s.size) (hn : vfig s[j] < 0) : figOk s = false := by
  unfold figOk
  refine List.all_eq_false.2 ⟨j, List.mem_range.2 h, ?_⟩
  rw [fig_at hs, decide_eq_false (by omega)]
  simp
theorem figOk_yes {s : ByteArray} (h : ∀ j, j < 16 → ∀ hs : j < s.size, 0 ≤ vfig s[j]) (hs : s.size = 16) : figOk s = true ∧ FigB s := by
  refine ⟨?_, fun j hj => h j (by omega) hj⟩
  unfold figOk
  refine List.all_eq_true.2 fun j hj => ?_
  have hj := List.mem_range.1 hj
  rw [fig_at (by omega), decide_eq_true (h j hj (by omega))]
theorem may_size {s x : ByteArray} (h : s.size ≠ 16) : mayB s x = true := by unfold mayB; rw [decide_eq_false h]; rfl
theorem may_fig {s x : ByteArray} (h : figOk s = false) : mayB s x = true := by unfold mayB; rw [h, Bool.and_false]; rfl
theorem may_all {s x u : ByteArray} (h : s.size = 16) (hf : figOk s = true) (hu : shaS x = u) : mayB s x = allV s u := by unfold mayB; rw [decide_eq_true h, hf, hu]; rfl
theorem allV_no {s u : ByteArray} {i : Nat} (h : i < 3) (hn : bitV s (spotU u i) = false) : allV s u = false := by
  unfold allV
  exact List.all_eq_false.2 ⟨i, List.mem_range.2 h, by rw [hn]; simp⟩
theorem allV_yes {s u : ByteArray} (h : ∀ i, i < 3 → bitV s (spotU u i) = true) : allV s u = true := by
  unfold allV
  exact List.all_eq_true.2 fun i hi => h i (List.mem_range.1 hi)
theorem and_bit : ∀ v : Nat, v < 16 → ∀ r : Nat, r < 4 → (v &&& (8 >>> r) = 0) = ¬ (v / 2 ^ (3 - r) % 2 = 1) := by decide +kernel
end Go.Proofs.YtfekpbkcidhbfaaDoor
