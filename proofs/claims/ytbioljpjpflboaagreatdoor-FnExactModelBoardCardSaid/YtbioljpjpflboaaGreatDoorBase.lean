import Derived.WalkKit
import Derived.Lib.Hide
import Derived.Laws.BytesArg
/- Words of this seat that name no program: what a slice reads as; what a call leaves as it was. -/
namespace Go.Proofs.YtbioljpjpflboaaGreatDoor
open Go Go.RowKit

theorem ret_bool {a b : Bool} (h : a = b) : Ending.returned (.bool a) = .returned (.bool b) := by rw [h]
theorem ret_int {k : IntKind} {a b : Int} (h : a = b) : Ending.returned (.int k a) = .returned (.int k b) := by rw [h]

theorem ret_str {a b : ByteArray} (h : a = b) : Ending.returned (.string a) = .returned (.string b) := by rw [h]

theorem bytes_ext {a b : ByteArray} (h : a.data.toList = b.data.toList) : a = b := by
  cases a; cases b; simp at h; simp [h]
theorem str_ne_of {a b : ByteArray} (h : (!a.toList == b.toList) = true) : a ≠ b := by
  intro e; subst e; simp at h
theorem str_eq_of {a b : ByteArray} (h : (!a.toList == b.toList) = false) : a = b := by
  simp only [ByteArray.toList_eq] at h
  exact bytes_ext (by simpa using h)

/-- A slice at a reads as the strings l. -/
def StrS (w : World) (a : Option Addr) (l : List ByteArray) : Prop :=
  l.length ≤ maxLen ∧ (∀ s ∈ l, s.size ≤ maxLen) ∧
  (l = [] ∨ ∃ b o, a = some ⟨b, o, none⟩ ∧ ∀ j, (h : j < l.length) → w.cell? ⟨b, o + j, none⟩ = some (.string l[j]))

theorem take_step {α : Type} {l m : List α} {k : Nat} (h1 : k < l.length) (h2 : k < m.length) (ht : l.take k = m.take k) (he : l[k] = m[k]) : l.take (k + 1) = m.take (k + 1) := by
  rw [List.take_succ_eq_append_getElem h1, List.take_succ_eq_append_getElem h2, ht, he]
theorem take_full {α : Type} {l m : List α} {k : Nat} (h1 : l.length ≤ k) (h2 : m.length ≤ k) (ht : l.take k = m.take k) : l = m := by
  rw [List.take_of_length_le h1, List.take_of_length_le h2] at ht; exact ht
theorem ne_of_getElem {α : Type} {l m : List α} {k : Nat} (h1 : k < l.length) (h2 : k < m.length) (he : l[k] ≠ m[k]) : l ≠ m := by
  intro e; subst e; exact he rfl
theorem set_take {α : Type} {xs l : List α} {k : Nat} {v : α} (h : k < l.length) (hx : xs.length = l.length) (ht : xs.take k = l.take k) (hv : l[k] = v) : (xs.set k v).take (k + 1) = l.take (k + 1) := by
  subst hv
  rw [List.take_succ_eq_append_getElem h, List.take_succ_eq_append_getElem (by simpa [hx] using h)]
  rw [List.take_set_of_le (Nat.le_refl _), ht]
  simp
theorem cat_one (c : UInt8) (o : List UInt8) : (⟨#[c]⟩ : ByteArray) ++ ⟨o.toArray⟩ = ⟨(c :: o).toArray⟩ := by
  apply bytes_ext
  simp

/-- string([]byte of one byte), the byte in a block that was just made -/
theorem conv_one {P : Program} (w : World) (src dst e : TypeId) (n : Int) (hs : P.underlying src = some (.slice e)) (he : P.underlying e = some (.int .u8)) (hd : P.underlying dst = some .string) :
    (convert src dst (.slice (some ⟨w.heap.size, 0, none⟩) 1 1)).run P (w.alloc (.cells #[.int .u8 n] e)) = .ok (.string ⟨#[UInt8.ofNat n.toNat]⟩) (w.alloc (.cells #[.int .u8 n] e)) := by
  have h := run_convert_bytes_arg (P := P) (w.alloc (.cells #[.int .u8 n] e)) src e hs he w.heap.size 0 1 1 [n] rfl (by
    intro i hi
    obtain rfl : i = 0 := by omega
    simp [go_sem]) dst hd
  rw [h]
  simp [strOfNums]

/-- What a call leaves as it was: all blocks that were there but those of S. -/
structure KeptOut (S : Nat → Prop) (w w' : World) : Prop where
  os : w'.os = w.os
  tape : w'.tape = w.tape
  output : w'.output = w.output
  size : w.heap.size ≤ w'.heap.size
  block : ∀ k, k < w.heap.size → ¬ S k → w'.heap[k]? = w.heap[k]?

theorem KeptOut.refl (S : Nat → Prop) (w : World) : KeptOut S w w := ⟨rfl, rfl, rfl, Nat.le_refl _, fun _ _ _ => rfl⟩
theorem KeptOut.trans {S : Nat → Prop} {a b c : World} (h : KeptOut S a b) (k : KeptOut S b c) : KeptOut S a c :=
  ⟨k.os.trans h.os, k.tape.trans h.tape, k.output.trans h.output, Nat.le_trans h.size k.size, fun i hi hs => (k.block i (Nat.lt_of_lt_of_le hi h.size) hs).trans (h.block i hi hs)⟩
theorem KeptOut.of_below {S : Nat → Prop} {w w' : World} (h : Below w.heap.size w w') : KeptOut S w w' := ⟨h.os, h.tape, h.output, h.size, fun k hk _ => h.block k hk⟩
theorem KeptOut.mono {S T : Nat → Prop} {w w' : World} (h : KeptOut S w w') (hs : ∀ k, k < w.heap.size → S k → T k) : KeptOut T w w' :=
  ⟨h.os, h.tape, h.output, h.size, fun k hk hn => h.block k hk (fun hS => hn (hs k hk hS))⟩
/-- What is kept outside the blocks from B on is as it was below B. -/
theorem KeptOut.below {S : Nat → Prop} {B : Nat} {w0 w w' : World} (hb : Below B w0 w) (hB : B ≤ w.heap.size) (h : KeptOut S w w') (hs : ∀ k, S k → B ≤ k) : Below B w0 w' :=
  hb.trans ⟨h.os, h.tape, h.output, h.size, fun k hk => h.block k (by omega) (fun hS => by have := hs k hS; omega)⟩
theorem KeptOut.setCell {S : Nat → Prop} {w0 w : World} (h : KeptOut S w0 w) {p : Addr} (hp : S p.block) (u : Value) : KeptOut S w0 (w.setCell p u) :=
  h.trans ⟨rfl, rfl, rfl, by simp [World.setCell], fun k _ hS => Below.heap_setCell _ _ _ _ (fun e => hS (by rw [e]; exact hp))⟩
theorem KeptOut.cell {S : Nat → Prop} {w w' : World} (h : KeptOut S w w') {p : Addr} (hp : p.block < w.heap.size) (hs : ¬ S p.block) : w'.cell? p = w.cell? p := World.cell?_of_block (w := w) (h.block p.block hp hs)
theorem grown_of_below {w w' : World} (h : Below w.heap.size w w') : w.grownBy w' none := ⟨h.os, h.tape, h.output, h.size, fun k hk _ => h.block k hk⟩
theorem own_below {w w' : World} {base : Nat} {e : TypeId} {size : Nat} {v : Value} {n : Nat} {xs : List Value} (h : w.ownsRow base e size v n xs) (hb : Below w.heap.size w w') : w'.ownsRow base e size v n xs :=
  h.kept (grown_of_below hb) (by cases v.ownBlock <;> simp)
theorem own_kept {S : Nat → Prop} {w w' : World} {base : Nat} {e : TypeId} {size : Nat} {v : Value} {n : Nat} {xs : List Value} (h : w.ownsRow base e size v n xs) (hb : KeptOut S w w') (hs : ∀ b, v.ownBlock = some b → ¬ S b) : w'.ownsRow base e size v n xs := by
  refine ⟨h.1, ?_⟩
  rcases h.2 with hn | ⟨g, cap, cur, rfl, hB, hgg, rest⟩
  · exact .inl hn
  · refine .inr ⟨g, cap, cur, rfl, hB, ?_, rest⟩
    rw [hb.block g (Array.getElem?_eq_some_iff.1 hgg).1 (hs g rfl)]
    exact hgg

/-- A slice at a reads as the elements l, of m cells each. -/
def ElS {α : Type} (m : Nat) (enc : α → List Value) (w : World) (a : Option Addr) (l : List α) : Prop :=
  l.length ≤ maxLen ∧ (l = [] ∨ ∃ b o, a = some ⟨b, o, none⟩ ∧ ∀ j, (h : j < l.length) → ∀ i v, (enc l[j])[i]? = some v → w.cell? ⟨b, o + j * m + i, none⟩ = some v)

theorem flat_take {α : Type} {m : Nat} {enc : α → List Value} (hm : ∀ x, (enc x).length = m) : ∀ (l : List α) (j : Nat), (l.flatMap enc).take (j * m) = (l.take j).flatMap enc
  | [], j => by simp
  | x :: l, 0 => by simp
  | x :: l, j + 1 => by
    rw [List.flatMap_cons, List.take_succ_cons, List.flatMap_cons, List.take_append, hm x, List.take_of_length_le (by rw [hm x, Nat.succ_mul]; omega)]
    rw [show (j + 1) * m - m = j * m by rw [Nat.succ_mul]; omega, flat_take hm l j]
theorem flat_len {α : Type} {m : Nat} {enc : α → List Value} (hm : ∀ x, (enc x).length = m) : ∀ (l : List α), (l.flatMap enc).length = l.length * m
  | [] => by simp
  | x :: l => by rw [List.flatMap_cons, List.length_append, hm x, flat_len hm l, List.length_cons, Nat.succ_mul]; omega
theorem flat_succ {α : Type} {m : Nat} {enc : α → List Value} (hm : ∀ x, (enc x).length = m) (l : List α) (j : Nat) (h : j < l.length) :
    (l.flatMap enc).take (j * m + m) = (l.flatMap enc).take (j * m) ++ enc l[j] := by
  have e : j * m + m = (j + 1) * m := by rw [Nat.succ_mul]
  rw [e, flat_take hm, flat_take hm, List.take_succ_eq_append_getElem h, List.flatMap_append]
  simp
theorem flat_get {α : Type} {m : Nat} {enc : α → List Value} (hm : ∀ x, (enc x).length = m) (l : List α) (j : Nat) (h : j < l.length) (i : Nat) (v : Value) (hv : (enc l[j])[i]? = some v) :
    (l.flatMap enc)[j * m + i]? = some v := by
  have hi : i < m := by rw [← hm l[j]]; exact (List.getElem?_eq_some_iff.1 hv).1
  have h1 : ((l.flatMap enc).take (j * m + m))[j * m + i]? = (l.flatMap enc)[j * m + i]? := by rw [List.getElem?_take, if_pos (by omega)]
  rw [← h1, flat_succ hm l j h, List.getElem?_append_right (by rw [List.length_take]; omega)]
  rw [List.length_take, flat_len hm]
  have : j * m + m ≤ l.length * m := by rw [← Nat.succ_mul]; exact Nat.mul_le_mul_right m h
  rw [show j * m + i - min (j * m) (l.length * m) = i by omega]
  exact hv

theorem take_set_next {α : Type} {xs A : List α} {p : Nat} {v : α} (h : p < xs.length) (ht : xs.take p = A) : (xs.set p v).take (p + 1) = A ++ [v] := by
  rw [List.take_succ_eq_append_getElem (by simpa using h), List.take_set_of_le (Nat.le_refl _), ht]
  simp

theorem addr_add (b o j : Nat) : (⟨b, o, none⟩ : Addr).add j = ⟨b, o + j, none⟩ := by unfold Addr.add; split <;> simp_all

theorem own_el {α : Type} {m : Nat} {enc : α → List Value} (hm : ∀ x, (enc x).length = m) {w : World} {base : Nat} {e : TypeId} {a : Option Addr} {c : Nat} {l : List α} (hl : l.length ≤ maxLen)
    (h : w.ownsRow base e m (.slice a l.length c) l.length (l.flatMap enc)) : ElS m enc w a l := by
  refine ⟨hl, ?_⟩
  rcases h.2 with ⟨_, hn⟩ | ⟨g, cap, cur, hv, hr⟩
  · exact .inl (List.eq_nil_of_length_eq_zero hn)
  · simp only [Value.slice.injEq] at hv
    refine .inr ⟨g, 0, hv.1, fun j hj i v hv' => ?_⟩
    have := h.cells (g := g) (by simp [Value.ownBlock, hv.1]) (j * m + i) v (flat_get hm l j hj i v hv')
    rw [addr_add] at this
    rw [show 0 + j * m + i = 0 + (j * m + i) by omega]
    exact this
theorem own_str {w : World} {base : Nat} {e : TypeId} {a : Option Addr} {c : Nat} {l : List ByteArray} (hl : l.length ≤ maxLen) (hs : ∀ s ∈ l, s.size ≤ maxLen)
    (h : w.ownsRow base e 1 (.slice a l.length c) l.length (l.map .string)) : StrS w a l := by
  refine ⟨hl, hs, ?_⟩
  rcases h.2 with ⟨_, hn⟩ | ⟨g, cap, cur, hv, hr⟩
  · exact .inl (List.eq_nil_of_length_eq_zero hn)
  · simp only [Value.slice.injEq] at hv
    refine .inr ⟨g, 0, hv.1, fun j hj => ?_⟩
    have := h.cells (g := g) (by simp [Value.ownBlock, hv.1]) j (.string l[j]) (by simp [hj])
    rw [addr_add] at this
    exact this

theorem own_cells {w w1 : World} {base : Nat} {e : TypeId} {m g n c : Nat} {xs : List Value} (h : w.ownsRow base e m (.slice (some ⟨g, 0, none⟩) n c) n xs) (hb : Below w.heap.size w w1) (p : Nat) (hp : p < n * m) :
    (∃ v, w1.cell? ⟨g, p, none⟩ = some v) ∧ w1.frozen? ⟨g, p, none⟩ = false := by
  have h1 := own_below h hb
  exact ⟨⟨_, (h1.cellAt p hp).trans (List.getElem?_eq_getElem (by rw [h1.1]; exact hp))⟩, h1.frozenAt p⟩

theorem ElS.below {α : Type} {m : Nat} {enc : α → List Value} {w w' : World} {a : Option Addr} {l : List α} (hb : Below w.heap.size w w') (h : ElS m enc w a l) : ElS m enc w' a l := by
  refine ⟨h.1, ?_⟩
  rcases h.2 with h | ⟨b, o, ha, hc⟩
  · exact .inl h
  · refine .inr ⟨b, o, ha, fun j hj i v hv => ?_⟩
    have h0 := hc j hj i v hv
    rw [hb.cell (by have := World.block_lt_of_cell? w _ h0; simpa using this)]
    exact h0
theorem StrS.below {w w' : World} {a : Option Addr} {l : List ByteArray} (hb : Below w.heap.size w w') (h : StrS w a l) : StrS w' a l := by
  refine ⟨h.1, h.2.1, ?_⟩
  rcases h.2.2 with h | ⟨b, o, ha, hc⟩
  · exact .inl h
  · refine .inr ⟨b, o, ha, fun j hj => ?_⟩
    have h0 := hc j hj
    rw [hb.cell (by have := World.block_lt_of_cell? w _ h0; simpa using this)]
    exact h0

/-- how much a sz.. function leaves of left, behind b -/
def szR (left : Int) (b : Nat) : Int := if (b : Int) ≤ left then left - b else -1
theorem szR_yes {left : Int} {b : Nat} (h : (b : Int) ≤ left) : szR left b = left - b := by simp [szR, h]
theorem szR_no {left : Int} {b : Nat} (h : left < (b : Int)) : szR left b = -1 := by simp [szR]; omega

def sumSize (l : List ByteArray) : Nat := (l.map ByteArray.size).sum
theorem sumSize_take (l : List ByteArray) (k : Nat) (h : k < l.length) : sumSize (l.take (k + 1)) = sumSize (l.take k) + l[k].size := by
  unfold sumSize; rw [List.take_succ_eq_append_getElem h, List.map_append, List.sum_append]; simp
theorem sumSize_le (l : List ByteArray) (k : Nat) : sumSize (l.take k) ≤ sumSize l := by
  unfold sumSize
  have h : (l.map ByteArray.size).sum = ((l.take k ++ l.drop k).map ByteArray.size).sum := by rw [List.take_append_drop]
  rw [h, List.map_append, List.sum_append]
  omega
theorem sumSize_full (l : List ByteArray) (k : Nat) (h : l.length ≤ k) : sumSize (l.take k) = sumSize l := by rw [List.take_of_length_le h]
/-- how much a list of strings holds -/
def bulkS (l : List ByteArray) : Nat := l.length + sumSize l

theorem own_mono {w : World} {base base' : Nat} {e : TypeId} {size : Nat} {v : Value} {n : Nat} {xs : List Value} (hb : base' ≤ base) (h : w.ownsRow base e size v n xs) : w.ownsRow base' e size v n xs :=
  ⟨h.1, h.2.imp id (fun ⟨g, cap, cur, hv, hg, r⟩ => ⟨g, cap, cur, hv, Nat.le_trans hb hg, r⟩)⟩
theorem slice_blk {a : Option Addr} {n c k : Nat} (h : (Value.slice a n c).ownBlock = some k) : ∃ p, a = some p ∧ p.block = k := by
  cases a with
  | none => simp [Value.ownBlock] at h
  | some p => exact ⟨p, rfl, by simpa [Value.ownBlock] using h⟩

/-- block b holds the cells cs, and may be written (a box that the call made) -/
def Box (w : World) (b : Nat) (cs : List Value) : Prop := ∀ i v, cs[i]? = some v → w.cell? ⟨b, i, none⟩ = some v ∧ w.frozen? ⟨b, i, none⟩ = false
theorem Box.alloc (w : World) (cs : Array Value) (e : TypeId) : Box (w.alloc (.cells cs e)) w.heap.size cs.toList := by
  intro i v h
  rw [World.cell?_alloc_at _ _ _ _ rfl, World.frozen?_alloc_at _ _ _ _ rfl]
  exact ⟨by simpa using h, rfl⟩
theorem Box.kept {S : Nat → Prop} {w w' : World} {b : Nat} {cs : List Value} (hb : KeptOut S w w') (hs : ¬ S b) (h : Box w b cs) : Box w' b cs := by
  intro i v hv
  obtain ⟨h0, h1⟩ := h i v hv
  have hlt : b < w.heap.size := by have := World.block_lt_of_cell? w _ h0; simpa using this
  exact ⟨(World.cell?_of_block (w := w) (a := ⟨b, i, none⟩) (hb.block b hlt hs)).trans h0, (World.frozen?_of_block (w := w) (a := ⟨b, i, none⟩) (hb.block b hlt hs)).trans h1⟩
theorem Box.below {w w' : World} {b : Nat} {cs : List Value} (hb : Below w.heap.size w w') (h : Box w b cs) : Box w' b cs :=
  h.kept (S := fun _ => False) (.of_below hb) (fun h => h)
theorem Box.lt {w : World} {b : Nat} {c : Value} {cs : List Value} (h : Box w b (c :: cs)) : b < w.heap.size := by
  have := World.block_lt_of_cell? w _ (h 0 c rfl).1
  simpa using this
theorem KeptOut.size_le {S : Nat → Prop} {w w' : World} (h : KeptOut S w w') : w.heap.size ≤ w'.heap.size := h.size
theorem below_of_grown {w w' : World} (h : w.grownBy w' none) : Below w.heap.size w w' := (Below.refl _ _).grown h (Nat.le_refl _) (by simp)
theorem below_alloc (w : World) (o : Obj) : Below w.heap.size w (w.alloc o) := (Below.refl _ _).alloc (Nat.le_refl _) _

/-- the sum of f of the first k -/
def sumTo {α : Type} (f : α → Nat) (l : List α) (k : Nat) : Nat := ((l.take k).map f).sum
theorem sumTo_zero {α : Type} (f : α → Nat) (l : List α) : sumTo f l 0 = 0 := by simp [sumTo]
theorem sumTo_nil {α : Type} (f : α → Nat) (k : Nat) : sumTo f [] k = 0 := by simp [sumTo]
theorem sumTo_succ {α : Type} (f : α → Nat) (l : List α) (k : Nat) (h : k < l.length) : sumTo f l (k + 1) = sumTo f l k + f l[k] := by
  unfold sumTo; rw [List.take_succ_eq_append_getElem h, List.map_append, List.sum_append]; simp
theorem sumTo_le {α : Type} (f : α → Nat) (l : List α) (k : Nat) : sumTo f l k ≤ sumTo f l l.length := by
  unfold sumTo
  have h : ((l.take l.length).map f).sum = ((l.take k ++ l.drop k).map f).sum := by rw [List.take_append_drop, List.take_length]
  rw [h, List.map_append, List.sum_append]
  omega
theorem sumTo_full {α : Type} (f : α → Nat) (l : List α) (k : Nat) (h : l.length ≤ k) : sumTo f l k = sumTo f l l.length := by
  unfold sumTo; rw [List.take_of_length_le h, List.take_length]

/-- the n marks from k on -/
def marks (markB : Int → ByteArray) (k : Int) (n : Nat) : List ByteArray := (List.range n).map fun (i : Nat) => markB (k + (i : Int))
end Go.Proofs.YtbioljpjpflboaaGreatDoor
