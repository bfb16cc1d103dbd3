import Derived.Test.YtgjfflfldddebaaDoorKept
import Derived.Test.YtgjfflfldddebaaDoorEntry
import Derived.Test.YtgjfflfldddebaaDoorProg
import Derived.Test.YtgjfflfldddebaaDoorBase
import Derived.Lib.Strings
import Derived.Lib.Bytealg
import Derived.WalkSpells
import Derived.WalkLawsBesides
import Derived.Deep.QuietTactic
import Derived.BigQuiet
import Derived.Deep.RegionHeld3
import Derived.Deep.RegionLaw
import Derived.WalkSmall
import Derived.Test.YtgjfflfldddebaaDoorShape
import Derived.OwnWalk
import Derived.Laws.OwnMore
import Derived.RangeFuncBox
import Derived.RangeFuncLeaves
import Derived.Shelf.Abstract
import Derived.OwnWalkIn
import Derived.TacticsInMore
import Derived.LoopNIn
import Derived.LoopIn
import Derived.Maps.AppendAt
import Derived.RangeFuncNested
import Derived.Test.YtgjfflfldddebaaDoorApp
import Derived.Test.YtgjfflfldddebaaDoorDec
import Derived.Test.YtgjfflfldddebaaDoorBloomS
import Derived.Test.YtgjfflfldddebaaDoorBloomP
import Derived.Test.YtgjfflfldddebaaDoorBloomY
/- Drawn keys and entries. -/
namespace Go.Proofs.YtgjfflfldddebaaDoor
open Go Go.RowKit

def litK : List ByteArray := [⟨#[116, 46, 97, 46, 120]⟩, ⟨#[116, 46, 97, 46, 121]⟩, ⟨#[116, 46, 97, 98, 46, 120]⟩, ⟨#[115, 46, 97]⟩, ⟨#[117, 46, 97]⟩, ⟨#[109]⟩, ⟨#[112, 46, 48, 48, 48, 48, 48, 48, 48, 49]⟩, ⟨#[116, 46, 97, 46, 120, 120]⟩]
def litV : List ByteArray := [⟨#[]⟩, ⟨#[111, 110, 101]⟩, ⟨#[116, 119, 111, 32, 119, 111, 114, 100, 115]⟩, ⟨#[32, 120, 32]⟩]
def litP : List ByteArray := [⟨#[]⟩, ⟨#[116, 46]⟩, ⟨#[116, 46, 97]⟩, ⟨#[116, 46, 97, 46]⟩, ⟨#[115]⟩, ⟨#[122, 122]⟩]
theorem litK_size : ∀ s ∈ litK, s.size ≤ 24 := by
  intro s hs
  simp only [litK, List.mem_cons, List.not_mem_nil, or_false] at hs
  rcases hs with rfl | rfl | rfl | rfl | rfl | rfl | rfl | rfl <;> simp [ByteArray.size]
theorem litV_size : ∀ s ∈ litV, s.size ≤ 24 := by
  intro s hs
  simp only [litV, List.mem_cons, List.not_mem_nil, or_false] at hs
  rcases hs with rfl | rfl | rfl | rfl <;> simp [ByteArray.size]
theorem litP_size : ∀ s ∈ litP, s.size ≤ 24 := by
  intro s hs
  simp only [litP, List.mem_cons, List.not_mem_nil, or_false] at hs
  rcases hs with rfl | rfl | rfl | rfl | rfl | rfl <;> simp [ByteArray.size]

def KeyPost (w : World) (r : Nat) (a : Option Addr) (c : Nat) (l : List UInt8) (p : Nat) (e : Ending) (w' : World) : Prop :=
  ∃ s : ByteArray, e = .returned (.string s) ∧ s.size ≤ 24 ∧ Rd w' r a c l (p + 1) ∧ KeptOut (fun b => b = r) w w'
def EntPost (w : World) (r : Nat) (a : Option Addr) (c : Nat) (l : List UInt8) (p : Nat) (e : Ending) (w' : World) : Prop :=
  ∃ (x0 : ByteArray) (x1 : Int) (x2 : Bool) (x3 : ByteArray), e = .returned (.agg #[.string x0, .int .i64 x1, .bool x2, .string x3]) ∧ x0.size ≤ 24 ∧ 1 ≤ x1 ∧ x1 ≤ 9 ∧ x3.size ≤ 24 ∧ Rd w' r a c l (p + 4) ∧ KeptOut (fun b => b = r) w w'

set_option maxRecDepth 100000 in
set_option maxHeartbeats 800000 in
theorem l12Key_any (w : World) (r : Nat) (a : Option Addr) (c : Nat) (l : List UInt8) (p : Nat) (hp : p ≤ 1000000000) (h : Rd w r a c l p) :
    Calls Tryd.prog 47 #[.pointer (some ⟨r, 0, none⟩)] w (KeyPost w r a c l p) := by
  have hr : r < w.heap.size := h.lt
  go_enter Tryd.func47, Tryd.ntmps47
  go_wp2_with (go_at_call 25; refine (of_any _ r a c l p (by omega) (h.below (below_alloc w _)) w.heap.size 0 8 litK (by decide) (by decide) (by omega) (lit_cells w litK _)).mono ?_; rintro e w1 ⟨s, hs, rfl, h1, k1⟩; have H1 := Lib.hid h1; have K1 := Lib.hid k1; clear h1 k1)
  go_ret
  exact ⟨s, rfl, litK_size s hs, H1.out, (KeptOut.of_below (below_alloc w _)).trans K1.out⟩

set_option maxRecDepth 100000 in
set_option maxHeartbeats 800000 in
theorem l12Entry_any (w : World) (r : Nat) (a : Option Addr) (c : Nat) (l : List UInt8) (p : Nat) (hp : p ≤ 1000000000) (h : Rd w r a c l p) :
    Calls Tryd.prog 65 #[.pointer (some ⟨r, 0, none⟩)] w (EntPost w r a c l p) := by
  have hr : r < w.heap.size := h.lt
  have HAR := Lib.hid (rd_har h)
  have HR := Lib.hid h
  clear h
  go_enter Tryd.func65, Tryd.ntmps65
  go_wp2_with (first
    | (go_at_call 47; refine (l12Key_any _ r a c l p (by omega) (HR.out.below (below_alloc w _))).mono ?_; rintro e w1 ⟨x0, rfl, z0, h1, k1⟩; have bz := (Box.alloc w #[.string ⟨#[]⟩, .int .i64 0, .bool false, .string ⟨#[]⟩] 100).kept k1 (by omega); have K1 := (KeptOut.of_below (S := fun b => b = r) (below_alloc w (.cells #[.string ⟨#[]⟩, .int .i64 0, .bool false, .string ⟨#[]⟩] 100))).trans k1; have H1 := Lib.hid h1; have s1 := k1.size; simp only [World.size_alloc] at s1; have BZ := Lib.hid bz; clear h1 k1 bz HR)
    | (go_at_call 23; refine (pick_any 9 _ r a c l (p + 1) (by omega) (by omega) (by omega) H1.out).mono ?_; rintro e w2 ⟨q, rfl, q0, q1, h2, k2⟩; have q1' := q1 (by omega); have H2 := Lib.hid h2; have K2 := K1.trans k2; have s2 := k2.size; have BZ2 := Lib.hid (BZ.out.kept k2 (by omega)); clear h2 k2 q1 H1)
    | (go_at_call 25; refine (of_any _ r a c l (p + 1 + 1) (by omega) (H2.out.below (below_alloc w2 _)) w2.heap.size 0 4 litV (by decide) (by decide) (by omega) (lit_cells w2 litV _)).mono ?_; rintro e w3 ⟨x3, hx3, rfl, h3, k3⟩; have K3 := (K2.trans (KeptOut.of_below (S := fun b => b = r) (below_alloc w2 (.cells (litV.map Value.string).toArray 9)))).trans k3; have H3 := Lib.hid h3; have s3 := k3.size; simp only [World.size_alloc] at s3; have BZ3 := Lib.hid (((BZ2.out.below (below_alloc w2 (.cells (litV.map Value.string).toArray 9)))).kept k3 (by omega)); clear h3 k3 H2)
    | (go_at_call 23; refine (pick_any 4 _ r a c l (p + 1 + 1 + 1) (by omega) (by omega) (by omega) (H3.out.below (below_alloc w3 _))).mono ?_; rintro e w4 ⟨q4, rfl, q40, q41, h4, k4⟩; have K4 := (K3.trans (KeptOut.of_below (S := fun b => b = r) (below_alloc w3 (.cells #[.string x0, .int .i64 (1 + q), .bool false, .string x3] 100)))).trans k4; have H4 := Lib.hid h4; have s4 := k4.size; simp only [World.size_alloc] at s4; have bz4 := ((BZ3.out.below (below_alloc w3 (.cells #[.string x0, .int .i64 (1 + q), .bool false, .string x3] 100)))).kept k4 (by omega); have bx4 := (Box.alloc w3 #[.string x0, .int .i64 (1 + q), .bool false, .string x3] 100).kept k4 (by omega); clear h4 k4 q41; obtain ⟨⟨u0, v0⟩, ⟨u1, v1⟩, ⟨u2, v2⟩, u3, v3⟩ := show _ ∧ _ ∧ _ ∧ _ from ⟨bz4 0 _ rfl, bz4 1 _ rfl, bz4 2 _ rfl, bz4 3 _ rfl⟩; obtain ⟨⟨y0, f0⟩, ⟨y1, f1⟩, ⟨y2, f2⟩, y3, f3⟩ := show _ ∧ _ ∧ _ ∧ _ from ⟨bx4 0 _ rfl, bx4 1 _ rfl, bx4 2 _ rfl, bx4 3 _ rfl⟩))
  · exact bodyPost_ret (v := .agg #[.string x0, .int .i64 (1 + q), .bool true, .string ⟨#[]⟩]) (by simp [results, Tryd.results65, go_sem, u0, u1, u2, u3]) rfl ⟨x0, 1 + q, true, ⟨#[]⟩, rfl, z0, by omega, by omega, by decide,
      H4.out.kept2 (S := fun b => w.heap.size ≤ b) (by repeat (first | refine KeptOut.setCell ?_ (by first | exact Nat.le_refl _ | (simp; done) | (simp; omega)) _ | exact KeptOut.refl _ _)) (by omega) (fun hn x hx => by have := HAR.out hn x hx; omega), K4.step (by repeat (first | refine KeptOut.setCell ?_ (by first | exact Nat.le_refl _ | (simp; done) | (simp; omega)) _ | exact KeptOut.refl _ _)) (fun b hb => .inl hb)⟩
  · exact bodyPost_ret (v := .agg #[.string x0, .int .i64 (1 + q), .bool false, .string x3]) (by simp [results, Tryd.results65, go_sem, u0, u1, u2, u3]) rfl ⟨x0, 1 + q, false, x3, rfl, z0, by omega, by omega, litV_size x3 hx3,
      H4.out.kept2 (S := fun b => w.heap.size ≤ b) (by repeat (first | refine KeptOut.setCell ?_ (by first | exact Nat.le_refl _ | (simp; done) | (simp; omega)) _ | exact KeptOut.refl _ _)) (by omega) (fun hn x hx => by have := HAR.out hn x hx; omega), K4.step (by repeat (first | refine KeptOut.setCell ?_ (by first | exact Nat.le_refl _ | (simp; done) | (simp; omega)) _ | exact KeptOut.refl _ _)) (fun b hb => .inl hb)⟩
end Go.Proofs.YtgjfflfldddebaaDoor

/- l1In of the model: a number between two others. -/
namespace Go.Proofs.YtgjfflfldddebaaDoor
open Go Go.RowKit

/-- n is from a to b -/
def inB (n a b : Int) : Bool := decide (a ≤ n ∧ n ≤ b)
theorem in_any (n a b : Int) (w : World) :
    Calls Tryd.prog 51 #[.int .i64 n, .int .i64 a, .int .i64 b] w fun e w' => e = .returned (.bool (inB n a b)) ∧ w = w' := by
  by_cases h1 : a ≤ n
  · go_enter Tryd.func51, Tryd.ntmps51
    go_wp2
    all_goals
      go_ret
      exact ⟨ret_bool (by simp [inB, h1]), rfl⟩
  · go_enter Tryd.func51, Tryd.ntmps51
    go_wp2
    go_ret
    exact ⟨ret_bool (by simp [inB]; omega), rfl⟩

end Go.Proofs.YtgjfflfldddebaaDoor

/- Entries in order: plain words and their laws. -/
namespace Go.Proofs.YtgjfflfldddebaaDoor
open Go Go.RowKit

theorem bl_irrefl : ∀ a : List UInt8, Op.bytesLess a a = false
  | [] => rfl
  | x :: a => by simp [Op.bytesLess, bl_irrefl a]
theorem bl_trans : ∀ a b c : List UInt8, Op.bytesLess a b = true → Op.bytesLess b c = true → Op.bytesLess a c = true
  | _, _, [], _, h2 => by simp [Op.bytesLess] at h2
  | _, [], _ :: _, h1, _ => by simp [Op.bytesLess] at h1
  | [], _ :: _, _ :: _, _, _ => by simp [Op.bytesLess]
  | x :: a, y :: b, z :: c, h1, h2 => by
    have ih := bl_trans a b c
    simp only [Op.bytesLess, Bool.or_eq_true, decide_eq_true_eq, Bool.and_eq_true, beq_iff_eq] at h1 h2 ⊢
    rcases h1 with h1 | ⟨rfl, h1⟩
    · rcases h2 with h2 | ⟨rfl, h2⟩
      · left; exact UInt8.lt_trans h1 h2
      · left; exact h1
    · rcases h2 with h2 | ⟨rfl, h2⟩
      · left; exact h2
      · right; exact ⟨rfl, ih h1 h2⟩
theorem bl_total : ∀ a b : List UInt8, Op.bytesLess a b = false → a ≠ b → Op.bytesLess b a = true
  | [], [], _, h => absurd rfl h
  | [], _ :: _, h, _ => by simp [Op.bytesLess] at h
  | _ :: _, [], _, _ => by simp [Op.bytesLess]
  | x :: a, y :: b, h, hn => by
    have ih := bl_total a b
    simp only [Op.bytesLess, Bool.or_eq_false_iff, decide_eq_false_iff_not, Bool.and_eq_false_iff, beq_eq_false_iff_ne] at h
    simp only [Op.bytesLess, Bool.or_eq_true, decide_eq_true_eq, Bool.and_eq_true, beq_iff_eq]
    by_cases hxy : x = y
    · subst hxy
      right
      refine ⟨rfl, ih ?_ (fun e => hn (by rw [e]))⟩
      rcases h.2 with h2 | h2
      · exact absurd rfl h2
      · exact h2
    · left
      have := h.1
      have h3 := UInt8.not_lt.1 this
      exact UInt8.lt_of_le_of_ne h3 (fun e => hxy e.symm)
theorem bl_asymm (a b : List UInt8) (h : Op.bytesLess a b = true) : Op.bytesLess b a = false := by
  cases hc : Op.bytesLess b a with
  | false => rfl
  | true => have := bl_trans a b a h hc; rw [bl_irrefl] at this; cases this

/-- text x stands ahead of text y -/
def ltS (x y : ByteArray) : Bool := Op.bytesLess x.toList y.toList
theorem ltS_irrefl (x : ByteArray) : ltS x x = false := bl_irrefl _
theorem ltS_trans {x y z : ByteArray} (h : ltS x y = true) (k : ltS y z = true) : ltS x z = true := bl_trans _ _ _ h k
theorem ltS_asymm {x y : ByteArray} (h : ltS x y = true) : ltS y x = false := bl_asymm _ _ h
theorem toList_inj {x y : ByteArray} (h : x.toList = y.toList) : x = y := by
  rw [ByteArray.toList_eq, ByteArray.toList_eq] at h
  cases x; cases y; simp at h; simp [h]
theorem ltS_total {x y : ByteArray} (h : ltS x y = false) (hn : x ≠ y) : ltS y x = true := bl_total _ _ h (fun e => hn (toList_inj e))

/-- entry a stands ahead of entry b -/
def lessB (a b : EntryD) : Bool := ltS a.1 b.1 || (decide (a.1 = b.1) && decide (b.2.1 < a.2.1))
theorem lessB_trans {a b c : EntryD} (h : lessB a b = true) (k : lessB b c = true) : lessB a c = true := by
  simp only [lessB, Bool.or_eq_true, Bool.and_eq_true, decide_eq_true_eq] at h k ⊢
  rcases h with h | ⟨e1, h⟩
  · rcases k with k | ⟨e2, k⟩
    · exact .inl (ltS_trans h k)
    · exact .inl (e2 ▸ h)
  · rcases k with k | ⟨e2, k⟩
    · exact .inl (e1 ▸ k)
    · exact .inr ⟨e1.trans e2, by omega⟩
theorem lessB_irrefl (a : EntryD) : lessB a a = false := by
  simp [lessB, ltS_irrefl]

/-- how two entries stand, as a number -/
def cmpS (x y : ByteArray) : Int := if ltS x y = true then -1 else if x = y then 0 else 1
def cmpI (x y : Int) : Int := if x < y then -1 else if y < x then 1 else 0
def ordI (a b : EntryD) : Int := if cmpS a.1 b.1 ≠ 0 then cmpS a.1 b.1 else cmpI b.2.1 a.2.1
theorem ordI_neg (a b : EntryD) : ordI a b < 0 ↔ lessB a b = true := by
  unfold ordI cmpS cmpI lessB
  by_cases h : ltS a.1 b.1 = true
  · simp [h]
  · simp only [h, if_false, Bool.false_or, Bool.false_eq_true]
    by_cases e : a.1 = b.1
    · simp [e]
      by_cases g : b.2.1 < a.2.1
      · simp [g]
      · simp [g]; by_cases g2 : a.2.1 < b.2.1 <;> simp [g2]
    · simp [e]
theorem ordI_lo (a b : EntryD) : -1 ≤ ordI a b ∧ ordI a b ≤ 1 := by
  unfold ordI cmpS cmpI
  (repeat' split) <;> simp_all

def keyC (c : UInt8) : Bool := decide (46 ≤ (c.toNat : Int) ∧ (c.toNat : Int) ≤ 126 ∧ (c.toNat : Int) ≠ 58)
def valC (lo : Int) (c : UInt8) : Bool := decide (lo ≤ (c.toNat : Int) ∧ (c.toNat : Int) ≤ 126)
def keyB (s : ByteArray) : Bool := s.data.toList.all keyC && inB s.size 1 24
def valB (s : ByteArray) : Bool := s.data.toList.all (valC 32) && inB s.size 0 80
def entB (e : EntryD) : Bool := keyB e.1 && inB e.2.1 1 99999999 && valB e.2.2.2 && (!e.2.2.1 || decide (e.2.2.2.size = 0))

def okAt (l : List EntryD) (j : Nat) : Bool :=
  match l[j]? with
  | none => true
  | some e => entB e && (match (if j = 0 then none else l[j-1]?) with | none => true | some p => lessB p e)
def okTo (l : List EntryD) (k : Nat) : Bool := (List.range k).all (okAt l)
def entsB (l : List EntryD) : Bool := decide (l.length ≤ 240) && okTo l l.length
theorem okTo_zero (l : List EntryD) : okTo l 0 = true := rfl
theorem okTo_succ (l : List EntryD) (k : Nat) : okTo l (k + 1) = (okTo l k && okAt l k) := by simp [okTo, List.range_succ, List.all_append]
theorem okTo_no {l : List EntryD} {k n : Nat} (hk : k < n) (h : okAt l k = false) : okTo l n = false := by
  unfold okTo
  rw [List.all_eq_false]
  exact ⟨k, by simpa using hk, by simp [h]⟩
theorem okAt_zero {l : List EntryD} {e : EntryD} (h : l[0]? = some e) : okAt l 0 = entB e := by simp [okAt, h]
theorem okAt_succ {l : List EntryD} {k : Nat} {p e : EntryD} (h0 : l[k]? = some p) (h : l[k+1]? = some e) : okAt l (k+1) = (entB e && lessB p e) := by
  simp [okAt, h, h0]
theorem entsB_at {l : List EntryD} (h : entsB l = true) : l.length ≤ 240 ∧ (∀ j (hj : j < l.length), entB l[j] = true) ∧ (∀ j (hj : j + 1 < l.length), lessB (l[j]'(by omega)) l[j+1] = true) := by
  simp only [entsB, Bool.and_eq_true, decide_eq_true_eq, okTo, List.all_eq_true, List.mem_range] at h
  refine ⟨h.1, fun j hj => ?_, fun j hj => ?_⟩
  · have := h.2 j hj
    simp only [okAt, List.getElem?_eq_getElem hj, Bool.and_eq_true] at this
    exact this.1
  · have := h.2 (j+1) hj
    rw [okAt_succ (List.getElem?_eq_getElem (by omega)) (List.getElem?_eq_getElem hj), Bool.and_eq_true] at this
    exact this.2
/-- in a list that is in order, what stands ahead is less -/
theorem sorted_lt {l : List EntryD} (h : ∀ j (hj : j + 1 < l.length), lessB (l[j]'(by omega)) l[j+1] = true) : ∀ (i j : Nat) (hi : i < j) (hj : j < l.length), lessB (l[i]'(by omega)) l[j] = true := by
  intro i j hi
  induction j with
  | zero => omega
  | succ j ih =>
    intro hj
    by_cases e : i = j
    · subst e; exact h i hj
    · exact lessB_trans (ih (by omega) (by omega)) (h j hj)
/-- ahead of a target: an initial part -/
theorem ahead_mono {l : List EntryD} (h : ∀ j (hj : j + 1 < l.length), lessB (l[j]'(by omega)) l[j+1] = true) (t : EntryD) {i j : Nat} (hi : i ≤ j) (hj : j < l.length) (ht : lessB l[j] t = true) : lessB (l[i]'(by omega)) t = true := by
  by_cases e : i = j
  · subst e; exact ht
  · exact lessB_trans (sorted_lt h i j (by omega) hj) ht

/-- the entry that tells what a key has at a moment -/
def tells (key : ByteArray) (seq : Int) (e : EntryD) : Bool := decide (e.1 = key) && decide (e.2.1 ≤ seq)
def getE (l : List EntryD) (key : ByteArray) (seq : Int) : Option EntryD := l.find? (tells key seq)
def tgt (key : ByteArray) (seq : Int) : EntryD := (key, seq, false, ⟨#[]⟩)
theorem getE_none_take {l : List EntryD} {key : ByteArray} {seq : Int} {k : Nat} (hk : l.length ≤ k) (h : (l.take k).find? (tells key seq) = none) : getE l key seq = none := by
  rwa [List.take_of_length_le hk] at h
theorem find_take_succ {l : List EntryD} {p : EntryD → Bool} {k : Nat} (hk : k < l.length) (h : (l.take k).find? p = none) (hp : p l[k] = false) : (l.take (k+1)).find? p = none := by
  rw [List.take_succ_eq_append_getElem hk, List.find?_append, h]
  simp [hp]
theorem find_take_hit {l : List EntryD} {p : EntryD → Bool} {k : Nat} (hk : k < l.length) (h : (l.take k).find? p = none) (hp : p l[k] = true) : l.find? p = some l[k] := by
  have e : (l.take k ++ l[k] :: l.drop (k+1)).find? p = some l[k] := by rw [List.find?_append, h, List.find?_cons_of_pos hp]; rfl
  rwa [List.getElem_cons_drop, List.take_append_drop] at e
theorem lessB_tgt (e : EntryD) (key : ByteArray) (seq : Int) : lessB e (tgt key seq) = (ltS e.1 key || (decide (e.1 = key) && decide (seq < e.2.1))) := rfl
/-- behind all that stand ahead of the target: the one that tells, if the key is the same -/
theorem getE_place {l : List EntryD} {key : ByteArray} {seq : Int} {i : Nat} (hi : i < l.length) (h1 : ∀ j (hj : j < l.length), j < i → lessB l[j] (tgt key seq) = true) (h2 : lessB l[i] (tgt key seq) = false) (hk : l[i].1 = key) : getE l key seq = some l[i] := by
  refine find_take_hit hi ?_ ?_
  · rw [List.find?_eq_none]
    intro x hx
    obtain ⟨j, hj, rfl⟩ := List.getElem_of_mem hx
    simp only [List.length_take] at hj
    have := h1 j (by omega) (by omega)
    rw [List.getElem_take]
    rw [lessB_tgt] at this
    simp only [tells, Bool.and_eq_true, decide_eq_true_eq, not_and]
    intro e
    simp [e, ltS_irrefl] at this
    omega
  · rw [lessB_tgt] at h2
    simp [hk, ltS_irrefl] at h2
    simp [tells, hk, h2]
theorem getE_gone {l : List EntryD} {key : ByteArray} {seq : Int} {i : Nat} (hs : ∀ j (hj : j + 1 < l.length), lessB (l[j]'(by omega)) l[j+1] = true) (h1 : ∀ j (hj : j < l.length), j < i → lessB l[j] (tgt key seq) = true) (h2 : ∀ (hi : i < l.length), lessB l[i] (tgt key seq) = false ∧ l[i].1 ≠ key) : getE l key seq = none := by
  unfold getE
  rw [List.find?_eq_none]
  intro x hx
  obtain ⟨j, hj, rfl⟩ := List.getElem_of_mem hx
  simp only [tells, Bool.and_eq_true, decide_eq_true_eq, not_and]
  intro e
  by_cases hji : j < i
  · have := h1 j hj hji
    rw [lessB_tgt] at this
    simp [e, ltS_irrefl] at this
    omega
  · have hi : i < l.length := by omega
    obtain ⟨g1, g2⟩ := h2 hi
    rw [lessB_tgt] at g1
    simp only [Bool.or_eq_false_iff] at g1
    have g3 : ltS key l[i].1 = true := ltS_total g1.1 g2
    by_cases hij : i = j
    · subst hij; exact absurd e g2
    · have g4 := sorted_lt hs i j (by omega) hj
      simp only [lessB, Bool.or_eq_true, Bool.and_eq_true, decide_eq_true_eq] at g4
      rw [e] at g4
      rcases g4 with g4 | g4
      · rw [ltS_asymm g3] at g4; cases g4
      · exact absurd g4.1 g2

/-- trimmed: an entry that the one just ahead of it hides goes; at the bottom, what is nothing goes too -/
def hidB (l : List EntryD) (k : Nat) (floor : Int) : Bool :=
  match (if k = 0 then none else l[k-1]?), l[k]? with
  | some p, some e => decide (p.1 = e.1) && decide (p.2.1 ≤ floor)
  | _, _ => false
def keepB (l : List EntryD) (floor : Int) (bottom : Bool) (k : Nat) : Bool :=
  match l[k]? with
  | none => false
  | some e => !hidB l k floor && !(bottom && e.2.2.1 && decide (e.2.1 ≤ floor))
def trimTo (l : List EntryD) (floor : Int) (bottom : Bool) (k : Nat) : List EntryD := (List.range k).flatMap fun j => if keepB l floor bottom j then l[j]?.toList else []
def trimL (l : List EntryD) (floor : Int) (bottom : Bool) : List EntryD := trimTo l floor bottom l.length
theorem trimTo_succ (l : List EntryD) (floor : Int) (bottom : Bool) (k : Nat) (h : k < l.length) : trimTo l floor bottom (k + 1) = trimTo l floor bottom k ++ (if keepB l floor bottom k then [l[k]] else []) := by
  simp [trimTo, List.range_succ, List.flatMap_append, List.getElem?_eq_getElem h]
theorem trimTo_len (l : List EntryD) (floor : Int) (bottom : Bool) (k : Nat) (h : k ≤ l.length) : (trimTo l floor bottom k).length ≤ k := by
  induction k with
  | zero => simp [trimTo]
  | succ k ih =>
    rw [trimTo_succ l floor bottom k (by omega), List.length_append]
    have := ih (by omega)
    split <;> simp <;> omega
/-- what the specification keeps in mind: the last key that was told at or ahead of the floor -/
def lastOk (l : List EntryD) (floor : Int) (k : Nat) (last : ByteArray) : Prop :=
  match (if k = 0 then none else l[k-1]?) with
  | none => last = ⟨#[]⟩
  | some p => (last = p.1 ↔ p.2.1 ≤ floor) ∧ (last = p.1 ∨ ltS last p.1 = true)
theorem last_hid {l : List EntryD} {floor : Int} {k : Nat} {last : ByteArray} (hs : ∀ j (hj : j + 1 < l.length), lessB (l[j]'(by omega)) l[j+1] = true) (hne : ∀ j (hj : j < l.length), l[j].1 ≠ ⟨#[]⟩) (hk : k < l.length) (h : lastOk l floor k last) :
    hidB l k floor = decide (l[k].1 = last) := by
  unfold lastOk at h
  unfold hidB
  rcases k with _ | k
  · simp at h
    subst h
    simp [hne 0 hk]
  · simp only [Nat.succ_ne_zero, if_false, Nat.add_sub_cancel, List.getElem?_eq_getElem (show k < l.length by omega), List.getElem?_eq_getElem hk] at h ⊢
    have h4 := hs k hk
    simp only [lessB, Bool.or_eq_true, Bool.and_eq_true, decide_eq_true_eq] at h4
    by_cases e : l[k].1 = l[k+1].1
    · by_cases g : l[k].2.1 ≤ floor
      · have := h.1.2 g
        simp [e, g, this]
      · have g2 : last ≠ l[k].1 := fun q => g (h.1.1 q)
        simp [g]
        rw [← e]; exact fun q => g2 q.symm
    · have h5 : ltS l[k].1 l[k+1].1 = true := by
        rcases h4 with h4 | h4
        · exact h4
        · exact absurd h4.1 e
      simp [e]
      intro q
      rcases h.2 with h6 | h6
      · exact e (h6 ▸ q.symm)
      · rw [← q, ltS_asymm h5] at h6; cases h6
theorem last_next {l : List EntryD} {floor : Int} {k : Nat} {last : ByteArray} (hs : ∀ j (hj : j + 1 < l.length), lessB (l[j]'(by omega)) l[j+1] = true) (hne : ∀ j (hj : j < l.length), l[j].1 ≠ ⟨#[]⟩) (hk : k < l.length) (h : lastOk l floor k last) :
    lastOk l floor (k + 1) (if l[k].1 = last then last else if l[k].2.1 ≤ floor then l[k].1 else last) := by
  have hid := last_hid hs hne hk h
  unfold lastOk
  simp only [Nat.succ_ne_zero, if_false, Nat.add_sub_cancel, List.getElem?_eq_getElem hk]
  by_cases e : l[k].1 = last
  · simp only [e, if_true]
    refine ⟨⟨fun _ => ?_, fun _ => trivial⟩, .inl trivial⟩
    rw [decide_eq_true e] at hid
    unfold hidB at hid
    rcases k with _ | k
    · simp at hid
    · simp only [Nat.succ_ne_zero, if_false, Nat.add_sub_cancel, List.getElem?_eq_getElem (show k < l.length by omega), List.getElem?_eq_getElem hk, Bool.and_eq_true, decide_eq_true_eq] at hid
      have h4 := hs k hk
      simp only [lessB, Bool.or_eq_true, Bool.and_eq_true, decide_eq_true_eq] at h4
      rcases h4 with h4 | h4
      · rw [hid.1, ltS_irrefl] at h4; cases h4
      · omega
  · by_cases g : l[k].2.1 ≤ floor
    · simp [e, g]
    · simp only [e, g, if_false, iff_false]
      refine ⟨fun q => e q.symm, .inr ?_⟩
      unfold lastOk at h
      rcases k with _ | k
      · simp at h
        subst h
        have : (l[0].1).toList ≠ [] := fun q => hne 0 hk (toList_inj (by rw [q, ByteArray.toList_eq]))
        unfold ltS
        cases hq : (l[0].1).toList with
        | nil => exact absurd hq this
        | cons a b => rw [ByteArray.toList_eq]; rfl
      · simp only [Nat.succ_ne_zero, if_false, Nat.add_sub_cancel, List.getElem?_eq_getElem (show k < l.length by omega)] at h
        have h4 := hs k hk
        simp only [lessB, Bool.or_eq_true, Bool.and_eq_true, decide_eq_true_eq] at h4
        rcases h4 with h4 | h4
        · rcases h.2 with h6 | h6
          · rw [h6]; exact h4
          · exact ltS_trans h6 h4
        · rcases h.2 with h6 | h6
          · exact absurd (h4.1.symm.trans h6.symm) e
          · rw [← h4.1]; exact h6
end Go.Proofs.YtgjfflfldddebaaDoor

/- Where a colon stands in a text. -/
namespace Go.Proofs.YtgjfflfldddebaaDoor
open Go Go.RowKit

/-- how many bytes stand ahead of the first colon -/
def colon : List UInt8 → Nat
  | [] => 0
  | c :: l => if c = 58 then 0 else colon l + 1
theorem colon_le : ∀ l, colon l ≤ l.length
  | [] => by simp [colon]
  | c :: l => by
    have := colon_le l
    unfold colon
    split <;> simp <;> omega
theorem indexByte_colon : ∀ l : List UInt8, Lib.indexByte l 58 = if colon l < l.length then (colon l : Int) else -1
  | [] => by simp [Lib.indexByte, colon]
  | c :: l => by
    have h := indexByte_colon l
    have hle := colon_le l
    by_cases hc : c = 58
    · subst hc; simp [Lib.indexByte, colon]
    · have hcb : (c == 58) = false := by simpa using hc
      simp only [Lib.indexByte, hcb, colon, if_neg hc, Bool.false_eq_true, if_false]
      rw [h]
      by_cases hl : colon l < l.length
      · rw [if_pos hl]
        have h1 : ((colon l : Int) == -1) = false := by rw [beq_eq_false_iff_ne]; omega
        rw [h1]
        simp
        omega
      · rw [if_neg hl]
        simp
        omega

set_option maxRecDepth 100000 in
set_option maxHeartbeats 800000 in
theorem idxByte_any (s : ByteArray) (c : Int) (w : World) :
    Calls Tryd.prog 80 #[.string s, .int .u8 c] w fun e w' => e = .returned (.int .i64 (Lib.indexByte s.data.toList c.toNat.toUInt8)) ∧ w = w' := by
  go_enter Tryd.func80, Tryd.ntmps80
  go_wp2
  rw [run_callFunc_extern Tryd.func89 (by kernel_rfl) (by kernel_rfl) (by kernel_rfl) (e := Extern.BytealgIndexByte.indexByte) (by kernel_rfl), Lib.run_indexByteString]
  simp only [Result.andThen]
  rw [Oper.upon_value]
  go_wp2
  go_ret
  exact ⟨rfl, rfl⟩

def colonI (s : ByteArray) : Int := Lib.indexByte s.data.toList 58

set_option maxRecDepth 100000 in
set_option maxHeartbeats 800000 in
theorem idxColon_any (s : ByteArray) (w : World) :
    Calls Tryd.prog 87 #[.string s, .string ⟨#[58]⟩] w fun e w' => e = .returned (.int .i64 (colonI s)) ∧ w = w' := by
  have hd : s.toList = s.data.toList := ByteArray.toList_eq s
  by_cases h1 : s.data.toList = [58]
  · have e1 : (([58] : List UInt8) == s.toList) = true := by rw [hd, h1]; rfl
    have HC := Lib.hid (show colonI s = 0 by unfold colonI; rw [h1]; rfl)
    clear hd h1
    go_enter Tryd.func87, Tryd.ntmps87
    go_wp2
    go_ret
    exact ⟨ret_int (by rw [HC.out]), rfl⟩
  · have e1 : (([58] : List UInt8) == s.toList) = false := by rw [hd]; simpa using fun h => h1 h.symm
    clear hd h1
    go_enter Tryd.func87, Tryd.ntmps87
    go_wp2_with (go_at_call 80; refine (idxByte_any _ _ _).mono ?_; rintro e w1 ⟨rfl, rfl⟩)
    go_ret
    exact ⟨rfl, rfl⟩

end Go.Proofs.YtgjfflfldddebaaDoor

/- Entries that are in order: EntriesOk of the program and of the specification. -/
namespace Go.Proofs.YtgjfflfldddebaaDoor
open Go Go.RowKit


theorem all_next {p : UInt8 → Bool} (s : ByteArray) (k : Nat) (h : k < s.size) (h0 : (s.data.toList.take k).all p = true) (h1 : p s[k] = true) :
    (s.data.toList.take (k + 1)).all p = true := by
  rw [List.take_succ_eq_append_getElem (by simpa using h), List.all_append, h0]
  have e : s.data.toList[k]'(by simpa using h) = s[k] := rfl
  simp [e, h1]
theorem all_not {p : UInt8 → Bool} (s : ByteArray) (k : Nat) (h : k < s.size) (h1 : p s[k] = false) : s.data.toList.all p = false := by
  have hm : s[k] ∈ s.data.toList := by
    have : s.data.toList[k]'(by simpa using h) = s[k] := rfl
    rw [← this]; exact List.getElem_mem _
  rw [List.all_eq_false]
  exact ⟨_, hm, by simp [h1]⟩
theorem all_end {p : UInt8 → Bool} (s : ByteArray) (k : Nat) (h : ¬ k < s.size) (h0 : (s.data.toList.take k).all p = true) : s.data.toList.all p = true := by
  rwa [List.take_of_length_le (by simp; omega)] at h0
theorem key_no (s : ByteArray) (k : Nat) (h : k < s.size) (h1 : keyC s[k] = false) : keyB s = false := by
  unfold keyB; rw [all_not s k h h1]; rfl
theorem key_end (s : ByteArray) (k : Nat) (h : ¬ k < s.size) (h0 : (s.data.toList.take k).all keyC = true) : keyB s = inB s.size 1 24 := by
  unfold keyB; rw [all_end s k h h0]; rfl
theorem val_no (s : ByteArray) (k : Nat) (h : k < s.size) (h1 : valC 32 s[k] = false) : valB s = false := by
  unfold valB; rw [all_not s k h h1]; rfl
theorem val_end (s : ByteArray) (k : Nat) (h : ¬ k < s.size) (h0 : (s.data.toList.take k).all (valC 32) = true) : valB s = decide ((s.size : Int) ≤ 80) := by
  unfold valB inB; rw [all_end s k h h0]; simp

theorem entB_eq (x0 : ByteArray) (x1 : Int) (x2 : Bool) (x3 : ByteArray) : entB (x0, x1, x2, x3) = (keyB x0 && inB x1 1 99999999 && valB x3 && (!x2 || decide (x3.size = 0))) := rfl
theorem toList_nil {s : ByteArray} (h : s.size = 0) : s.toList = [] := by
  rw [ByteArray.toList_eq]
  exact List.eq_nil_of_length_eq_zero (by simpa using h)
theorem toList_ne {s : ByteArray} (h : s.size ≠ 0) : s.toList ≠ [] := by
  rw [ByteArray.toList_eq]
  intro e
  have := congrArg List.length e
  rw [Array.length_toList] at this
  exact h this

end Go.Proofs.YtgjfflfldddebaaDoor

/- EntriesOk of the specification. -/
namespace Go.Proofs.YtgjfflfldddebaaDoor
open Go Go.RowKit

theorem lessB_eq (x0 : ByteArray) (x1 : Int) (x2 : Bool) (x3 : ByteArray) (y0 : ByteArray) (y1 : Int) (y2 : Bool) (y3 : ByteArray) : lessB (x0, x1, x2, x3) (y0, y1, y2, y3) = (ltS x0 y0 || (decide (x0 = y0) && decide (y1 < x1))) := rfl
theorem wrap_len {n : Nat} (h : n ≤ 9223372036854775807) : IntKind.i64.wrap (n : Int) = (n : Int) := by
  unfold IntKind.wrap
  simp [IntKind.bits, IntKind.signed]
  omega
theorem eqL_no {x y : ByteArray} (e : ¬ x = y) : (x.toList == y.toList) = false := by simpa using fun h => e (toList_inj h)
theorem eqL_yes (x : ByteArray) : (x.toList == x.toList) = true := by simp

set_option maxHeartbeats 400000 in
theorem specLess_any (x0 : ByteArray) (x1 : Int) (x2 : Bool) (x3 : ByteArray) (y0 : ByteArray) (y1 : Int) (y2 : Bool) (y3 : ByteArray) (w : World) :
    Calls Tryd.prog 81 #[.agg #[.string x0, .int .i64 x1, .bool x2, .string x3], .agg #[.string y0, .int .i64 y1, .bool y2, .string y3]] w fun e w' => e = .returned (.bool (lessB (x0, x1, x2, x3) (y0, y1, y2, y3))) ∧ Below w.heap.size w w' := by
  rw [lessB_eq]
  cases h0 : ltS x0 y0 with
  | true =>
    have q0 : Op.bytesLess x0.toList y0.toList = true := h0
    clear h0
    go_enter Tryd.func81, Tryd.ntmps81
    go_wp2
    go_ret
    exact ⟨rfl, (by repeat (first | exact Below.refl _ _ | (refine Below.alloc ?_ (by first | (simp; done) | (simp; omega)) _) | (refine Below.setCell ?_ (by first | (simp; done) | (simp; omega)) _) | (refine Below.drew ?_)))⟩
  | false =>
    have q0 : Op.bytesLess x0.toList y0.toList = false := h0
    clear h0
    by_cases e : x0 = y0
    · subst e
      have q1 := eqL_yes x0
      go_enter Tryd.func81, Tryd.ntmps81
      go_wp2
      go_ret
      exact ⟨ret_bool (by simp), (by repeat (first | exact Below.refl _ _ | (refine Below.alloc ?_ (by first | (simp; done) | (simp; omega)) _) | (refine Below.setCell ?_ (by first | (simp; done) | (simp; omega)) _) | (refine Below.drew ?_)))⟩
    · have q1 := eqL_no e
      have HE := Lib.hid (decide_eq_false e)
      clear e
      go_enter Tryd.func81, Tryd.ntmps81
      go_wp2
      go_ret
      exact ⟨ret_bool (by rw [HE.out]; rfl), (by repeat (first | exact Below.refl _ _ | (refine Below.alloc ?_ (by first | (simp; done) | (simp; omega)) _) | (refine Below.setCell ?_ (by first | (simp; done) | (simp; omega)) _) | (refine Below.drew ?_)))⟩

theorem okAt_first {l : List EntryD} {k : Nat} (h : k < l.length) (h0 : k = 0) : okAt l k = entB l[k] := by
  subst h0; exact okAt_zero (List.getElem?_eq_getElem h)
theorem okAt_next {l : List EntryD} {k m : Nat} (h : k < l.length) (hm : k = m + 1) : okAt l k = (entB l[k] && lessB (l[m]'(by omega)) l[k]) := by
  subst hm; exact okAt_succ (List.getElem?_eq_getElem (by omega)) (List.getElem?_eq_getElem h)
theorem okTo_go {l : List EntryD} {k : Nat} (h : okTo l k = true) (h1 : okAt l k = true) : okTo l (k + 1) = true := by rw [okTo_succ, h, h1]; rfl

end Go.Proofs.YtgjfflfldddebaaDoor

/- EntriesOk of the program. -/
namespace Go.Proofs.YtgjfflfldddebaaDoor
open Go Go.RowKit

/-- the first that is not 0 -/
def orI (x y : Int) : Int := if x ≠ 0 then x else y
theorem ordI_or (a b : EntryD) : ordI a b = orI (cmpS a.1 b.1) (cmpI b.2.1 a.2.1) := rfl
end Go.Proofs.YtgjfflfldddebaaDoor

/- entryOk and EntriesOk of the program. -/
namespace Go.Proofs.YtgjfflfldddebaaDoor
open Go Go.RowKit

def bytesB (s : ByteArray) (lo : Int) : Bool := s.data.toList.all (valC lo)
theorem bytesB_no (s : ByteArray) (lo : Int) (k : Nat) (h : k < s.size) (h1 : valC lo s[k] = false) : bytesB s lo = false := all_not s k h h1
theorem bytesB_end (s : ByteArray) (lo : Int) (k : Nat) (h : ¬ k < s.size) (h0 : (s.data.toList.take k).all (valC lo) = true) : bytesB s lo = true := all_end s k h h0

/-- a colon stands in the text -/
def hasC (s : ByteArray) : Bool := decide (0 ≤ colonI s)
theorem colon_mem : ∀ l : List UInt8, colon l < l.length ↔ (58 : UInt8) ∈ l
  | [] => by simp
  | c :: l => by
    have ih := colon_mem l
    unfold colon
    by_cases hc : c = 58
    · simp [hc]
    · rw [if_neg hc, List.length_cons, List.mem_cons]
      constructor
      · intro h; exact .inr (ih.1 (by omega))
      · rintro (h | h)
        · exact absurd h.symm hc
        · have := ih.2 h; omega
theorem hasC_mem (s : ByteArray) : hasC s = decide ((58 : UInt8) ∈ s.data.toList) := by
  unfold hasC colonI
  rw [indexByte_colon]
  by_cases h : (58 : UInt8) ∈ s.data.toList
  · have := (colon_mem _).2 h
    rw [if_pos this]; simp [h]
  · have := fun q => h ((colon_mem _).1 q)
    rw [if_neg this]; simp [h]
theorem keyB_parts (s : ByteArray) : keyB s = (bytesB s 46 && !hasC s && inB s.size 1 24) := by
  unfold keyB bytesB
  congr 1
  rw [hasC_mem]
  rw [Bool.eq_iff_iff]
  simp only [List.all_eq_true, Bool.and_eq_true, Bool.not_eq_true', decide_eq_false_iff_not, keyC, valC, decide_eq_true_eq]
  constructor
  · intro h
    refine ⟨fun c hc => ⟨(h c hc).1, (h c hc).2.1⟩, fun hm => (h _ hm).2.2 rfl⟩
  · rintro ⟨h, hn⟩ c hc
    refine ⟨(h c hc).1, (h c hc).2, fun e => hn ?_⟩
    have : c = 58 := by
      apply UInt8.toNat_inj.1
      have h2 : c.toNat = 58 := by omega
      rw [h2]; rfl
    rw [← this]; exact hc

end Go.Proofs.YtgjfflfldddebaaDoor

/- EntriesOk of both sides. -/
namespace Go.Proofs.YtgjfflfldddebaaDoor
open Go Go.RowKit

theorem ordI_ge {a b : EntryD} (h : lessB a b = false) : ¬ ordI a b < 0 := fun q => by rw [(ordI_neg a b).1 q] at h; cases h
theorem ordI_lt {a b : EntryD} (h : lessB a b = true) : ordI a b < 0 := (ordI_neg a b).2 h

end Go.Proofs.YtgjfflfldddebaaDoor

/- MemGet of both sides. -/
namespace Go.Proofs.YtgjfflfldddebaaDoor
open Go Go.RowKit

/-- what MemGet answers -/
def optV (o : Option EntryD) : ByteArray := match o with | none => ⟨#[]⟩ | some e => e.2.2.2
def optB (o : Option EntryD) : Bool := match o with | none => false | some e => !e.2.2.1
def getV (l : List EntryD) (key : ByteArray) (seq : Int) : ByteArray := optV (getE l key seq)
def getB (l : List EntryD) (key : ByteArray) (seq : Int) : Bool := optB (getE l key seq)
/-- an entry that may be none, as a value -/
def optE (o : Option EntryD) : Value := match o with | none => .agg #[.string ⟨#[]⟩, .int .i64 0, .bool false, .string ⟨#[]⟩] | some e => .agg #[.string e.1, .int .i64 e.2.1, .bool e.2.2.1, .string e.2.2.2]

theorem optE_none {o : Option EntryD} (h : o = none) : Ending.returned (.tuple #[.agg #[.string ⟨#[]⟩, .int .i64 0, .bool false, .string ⟨#[]⟩], .bool false]) = .returned (.tuple #[optE o, .bool o.isSome]) := by subst h; rfl
theorem optE_some {o : Option EntryD} {x : EntryD} (h : o = some x) : Ending.returned (.tuple #[.agg #[.string x.1, .int .i64 x.2.1, .bool x.2.2.1, .string x.2.2.2], .bool true]) = .returned (.tuple #[optE o, .bool o.isSome]) := by subst h; rfl

end Go.Proofs.YtgjfflfldddebaaDoor

/- slices.BinarySearchFunc over entries. -/
namespace Go.Proofs.YtgjfflfldddebaaDoor
open Go Go.RowKit

end Go.Proofs.YtgjfflfldddebaaDoor

/- MemGet of the program and of the specification. -/
namespace Go.Proofs.YtgjfflfldddebaaDoor
open Go Go.RowKit

end Go.Proofs.YtgjfflfldddebaaDoor

/- MemGet of the program and of the specification. -/
namespace Go.Proofs.YtgjfflfldddebaaDoor
open Go Go.RowKit

theorem bel_drewN {B : Nat} {w w' : World} (h : Below B w w') (n : Nat) : Below B w (w'.drewN n) := h.trans ⟨rfl, rfl, rfl, Nat.le_refl _, fun _ _ => rfl⟩

/-- what MemGet answers, of entries that may be not ok -/
def getVV (l : List EntryD) (key : ByteArray) (seq : Int) : ByteArray := if entsB l = true then getV l key seq else ⟨#[]⟩
def getBB (l : List EntryD) (key : ByteArray) (seq : Int) : Bool := if entsB l = true then getB l key seq else false
theorem ret_getNo {l : List EntryD} {key : ByteArray} {seq : Int} (h : entsB l = false) : Ending.returned (.tuple #[.string ⟨#[]⟩, .bool false]) = .returned (.tuple #[.string (getVV l key seq), .bool (getBB l key seq)]) := by
  unfold getVV getBB; rw [h]; rfl
theorem ret_getNone {l : List EntryD} {key : ByteArray} {seq : Int} (h : entsB l = true) (g : getE l key seq = none) : Ending.returned (.tuple #[.string ⟨#[]⟩, .bool false]) = .returned (.tuple #[.string (getVV l key seq), .bool (getBB l key seq)]) := by
  unfold getVV getBB; unfold getV getB; rw [h, g]; rfl
theorem ret_getSome {l : List EntryD} {key : ByteArray} {seq : Int} {x : EntryD} (h : entsB l = true) (g : getE l key seq = some x) : Ending.returned (.tuple #[.string x.2.2.2, .bool !x.2.2.1]) = .returned (.tuple #[.string (getVV l key seq), .bool (getBB l key seq)]) := by
  unfold getVV getBB; unfold getV getB; rw [h, g]; rfl

end Go.Proofs.YtgjfflfldddebaaDoor

/- MemTrim of the specification. -/
namespace Go.Proofs.YtgjfflfldddebaaDoor
open Go Go.RowKit

theorem cellsNew (w : World) (cs : List Value) (e : TypeId) : ∀ j u, cs[j]? = some u → (w.alloc (.cells cs.toArray e)).cell? ((⟨w.heap.size, 0, none⟩ : Addr).add j) = some u := by
  intro j u h
  rw [addr_add, Nat.zero_add]
  exact (Box.alloc w cs.toArray e j u (by simpa using h)).1
theorem cellsNew2 (w : World) (o : Obj) (cs : List Value) (e : TypeId) : ∀ j u, cs[j]? = some u → ((w.alloc o).alloc (.cells cs.toArray e)).cell? ((⟨w.heap.size + 1, 0, none⟩ : Addr).add j) = some u := by
  have h := cellsNew (w.alloc o) cs e
  simpa using h
theorem lastOk_zero (l : List EntryD) (floor : Int) : lastOk l floor 0 ⟨#[]⟩ := by simp [lastOk]
theorem entB_key {e : EntryD} (h : entB e = true) : e.1 ≠ ⟨#[]⟩ := by
  intro q
  have : e = (e.1, e.2.1, e.2.2.1, e.2.2.2) := rfl
  rw [this, entB_eq, q] at h
  simp only [Bool.and_eq_true, keyB, inB, decide_eq_true_eq] at h
  have h1 := h.1.1.1.2.1
  exact absurd h1 (by decide)
theorem ents_ne {l : List EntryD} (h : entsB l = true) : ∀ j (hj : j < l.length), l[j].1 ≠ ⟨#[]⟩ := fun j hj => entB_key ((entsB_at h).2.1 j hj)
theorem trim_skip {l : List EntryD} {floor : Int} {bottom : Bool} {k : Nat} (h : k < l.length) (hk : keepB l floor bottom k = false) : trimTo l floor bottom (k + 1) = trimTo l floor bottom k := by
  rw [trimTo_succ l floor bottom k h, hk]; simp
theorem trim_take {l : List EntryD} {floor : Int} {bottom : Bool} {k : Nat} (h : k < l.length) (hk : keepB l floor bottom k = true) : trimTo l floor bottom (k + 1) = trimTo l floor bottom k ++ [l[k]] := by
  rw [trimTo_succ l floor bottom k h, hk]; simp
theorem keepB_eq {l : List EntryD} {floor : Int} {bottom : Bool} {k : Nat} (h : k < l.length) : keepB l floor bottom k = (!hidB l k floor && !(bottom && l[k].2.2.1 && decide (l[k].2.1 ≤ floor))) := by
  simp [keepB, List.getElem?_eq_getElem h]
theorem enc_len (l : List EntryD) : (l.flatMap encEntry).length = l.length * 4 := flat_len encEntry_len l

/-- what MemTrim answers, of entries that may be not ok -/
def trimV (l : List EntryD) (floor : Int) (bottom : Bool) : List EntryD := if entsB l = true then trimL l floor bottom else []
theorem trimV_no {l : List EntryD} {floor : Int} {bottom : Bool} (h : entsB l = false) : trimV l floor bottom = [] := by unfold trimV; rw [h]; rfl
theorem trimV_yes {l : List EntryD} {floor : Int} {bottom : Bool} (h : entsB l = true) : trimV l floor bottom = trimL l floor bottom := by unfold trimV; rw [if_pos h]

/-- A list of entries that a call hands back, in memory of its own. -/
def OwnE (w : World) (L : List EntryD) (e : Ending) (w' : World) : Prop := ∃ v, e = .returned v ∧ w'.ownsRow w.heap.size 100 4 v L.length (L.flatMap encEntry) ∧ Below w.heap.size w w'

end Go.Proofs.YtgjfflfldddebaaDoor

/- MemTrim of the program. -/
namespace Go.Proofs.YtgjfflfldddebaaDoor
open Go Go.RowKit

theorem hid_zero {l : List EntryD} {floor : Int} {k : Nat} (h : k = 0) : hidB l k floor = false := by subst h; simp [hidB]
theorem hid_succ {l : List EntryD} {floor : Int} {k m : Nat} (hk : k < l.length) (hm : k = m + 1) : hidB l k floor = (decide ((l[m]'(by omega)).1 = l[k].1) && decide ((l[m]'(by omega)).2.1 ≤ floor)) := by
  subst hm
  simp [hidB, List.getElem?_eq_getElem (show m < l.length by omega), List.getElem?_eq_getElem hk]

theorem own_drewN {w : World} {base : Nat} {e : TypeId} {m : Nat} {v : Value} {n : Nat} {xs : List Value} (h : w.ownsRow base e m v n xs) (q : Nat) : (w.drewN q).ownsRow base e m v n xs := own_below h (bel_drewN (Below.refl _ _) q)
theorem cellsNew3 (w : World) (o : Obj) (n : Nat) (cs : List Value) (e : TypeId) : ∀ j u, cs[j]? = some u → (((w.alloc o).drewN n).alloc (.cells cs.toArray e)).cell? ((⟨w.heap.size + 1, 0, none⟩ : Addr).add j) = some u := by
  have h := cellsNew ((w.alloc o).drewN n) cs e
  simpa using h

theorem trimV_len (l : List EntryD) (floor : Int) (bottom : Bool) : (trimV l floor bottom).length ≤ 240 := by
  unfold trimV
  split
  · next h =>
    have h1 := trimTo_len l floor bottom l.length (Nat.le_refl _)
    have h2 := (entsB_at h).1
    unfold trimL; omega
  · simp
theorem trimV_mem {l : List EntryD} {floor : Int} {bottom : Bool} {x : EntryD} (h : x ∈ trimV l floor bottom) : x ∈ l := by
  unfold trimV at h
  split at h
  · unfold trimL trimTo at h
    rw [List.mem_flatMap] at h
    obtain ⟨j, hj, hx⟩ := h
    split at hx
    · rw [Option.mem_toList] at hx
      exact List.mem_of_getElem? hx
    · simp at hx
  · simp at h
end Go.Proofs.YtgjfflfldddebaaDoor

/- What many keys have at a moment: plain words and their laws. -/
namespace Go.Proofs.YtgjfflfldddebaaDoor
open Go Go.RowKit

theorem bl_pre : ∀ p t : List UInt8, Op.bytesLess (p ++ t) p = false
  | [], t => by cases t <;> rfl
  | c :: p, t => by
    have ih := bl_pre p t
    simp [Op.bytesLess, ih]
theorem bl_mid : ∀ p t x : List UInt8, Op.bytesLess x p = false → Op.bytesLess (p ++ t) x = false → ∃ u, x = p ++ u
  | [], _, x, _, _ => ⟨x, rfl⟩
  | c :: p, t, [], h, _ => by simp [Op.bytesLess] at h
  | c :: p, t, d :: x, h1, h2 => by
    simp only [List.cons_append, Op.bytesLess, Bool.or_eq_false_iff, decide_eq_false_iff_not, Bool.and_eq_false_iff, beq_eq_false_iff_ne] at h1 h2
    have hcd : c = d := UInt8.le_antisymm (UInt8.not_lt.1 h1.1) (UInt8.not_lt.1 h2.1)
    subst hcd
    obtain ⟨u, hu⟩ := bl_mid p t x (h1.2.resolve_left (fun k => k rfl)) (h2.2.resolve_left (fun k => k rfl))
    exact ⟨u, by rw [hu]; rfl⟩

/-- text s begins with text pre -/
def startsB (s pre : ByteArray) : Bool := decide (s.data.toList.take pre.size = pre.data.toList)
theorem starts_iff {s pre : ByteArray} : startsB s pre = true ↔ ∃ t, s.toList = pre.toList ++ t := by
  rw [ByteArray.toList_eq, ByteArray.toList_eq]
  unfold startsB
  rw [decide_eq_true_eq]
  constructor
  · intro h
    exact ⟨s.data.toList.drop pre.size, by rw [← h, List.take_append_drop]⟩
  · rintro ⟨t, h⟩
    rw [h, List.take_left' (by simp)]
theorem starts_nil (s : ByteArray) : startsB s ⟨#[]⟩ = true := decide_eq_true rfl
theorem starts_ge {s pre : ByteArray} (h : startsB s pre = true) : ltS s pre = false := by
  obtain ⟨t, ht⟩ := starts_iff.1 h
  unfold ltS
  rw [ht]
  exact bl_pre _ _
theorem starts_mid {x y pre : ByteArray} (h1 : ltS x pre = false) (h2 : ltS y x = false) (h : startsB y pre = true) : startsB x pre = true := by
  obtain ⟨t, ht⟩ := starts_iff.1 h
  unfold ltS at h1 h2
  rw [ht] at h2
  exact starts_iff.2 (bl_mid _ _ _ h1 h2)

/-- what each key has, key by key; told: the key that was told last -/
def seenR (seq : Int) : ByteArray → List EntryD → List EntryD
  | _, [] => []
  | told, e :: l => if decide (seq < e.2.1) || decide (e.1 = told) then seenR seq told l else if e.2.2.1 then seenR seq e.1 l else e :: seenR seq e.1 l
/-- the same, of keys that begin so -/
def scanR (pre : ByteArray) (seq : Int) : ByteArray → List EntryD → List EntryD
  | _, [] => []
  | last, e :: l => if decide (seq < e.2.1) || decide (e.1 = last) || !startsB e.1 pre then scanR pre seq last l else if e.2.2.1 then scanR pre seq e.1 l else e :: scanR pre seq e.1 l

theorem seenR_mem {seq : Int} {x : EntryD} : ∀ {m : List EntryD} {told : ByteArray}, x ∈ seenR seq told m → x ∈ m
  | [], _, h => by simp [seenR] at h
  | e :: m, told, h => by
    unfold seenR at h
    split at h
    · exact List.mem_cons_of_mem _ (seenR_mem h)
    · split at h
      · exact List.mem_cons_of_mem _ (seenR_mem h)
      · rcases List.mem_cons.1 h with h | h
        · rw [h]; exact List.mem_cons_self
        · exact List.mem_cons_of_mem _ (seenR_mem h)
theorem scanR_mem {pre : ByteArray} {seq : Int} {x : EntryD} : ∀ {m : List EntryD} {told : ByteArray}, x ∈ scanR pre seq told m → x ∈ m
  | [], _, h => by simp [scanR] at h
  | e :: m, told, h => by
    unfold scanR at h
    split at h
    · exact List.mem_cons_of_mem _ (scanR_mem h)
    · split at h
      · exact List.mem_cons_of_mem _ (scanR_mem h)
      · rcases List.mem_cons.1 h with h | h
        · rw [h]; exact List.mem_cons_self
        · exact List.mem_cons_of_mem _ (scanR_mem h)
theorem seenR_len (seq : Int) : ∀ (m : List EntryD) (told : ByteArray), (seenR seq told m).length ≤ m.length
  | [], _ => by simp [seenR]
  | e :: m, told => by
    have h1 := seenR_len seq m told
    have h2 := seenR_len seq m e.1
    unfold seenR
    split
    · simp; omega
    · split <;> simp <;> omega
theorem scanR_len (pre : ByteArray) (seq : Int) : ∀ (m : List EntryD) (told : ByteArray), (scanR pre seq told m).length ≤ m.length
  | [], _ => by simp [scanR]
  | e :: m, told => by
    have h1 := scanR_len pre seq m told
    have h2 := scanR_len pre seq m e.1
    unfold scanR
    split
    · simp; omega
    · split <;> simp <;> omega
theorem scanR_skip {pre : ByteArray} {seq : Int} : ∀ (l m : List EntryD) (told : ByteArray), (∀ e ∈ l, startsB e.1 pre = false) → scanR pre seq told (l ++ m) = scanR pre seq told m
  | [], _, _, _ => rfl
  | e :: l, m, told, h => by
    rw [List.cons_append]
    unfold scanR
    rw [if_pos (by simp [h e List.mem_cons_self])]
    rw [scanR_skip l m told (fun x hx => h x (List.mem_cons_of_mem _ hx))]
    cases m <;> rfl
theorem take_none {α : Type} {p : α → Bool} : ∀ {l : List α}, (∀ x ∈ l, p x = false) → l.takeWhile p = []
  | [], _ => rfl
  | x :: l, h => by simp [h x List.mem_cons_self]

/-- in order, as a list -/
def PW (l : List EntryD) : Prop := l.Pairwise (fun a b => lessB a b = true)
theorem pw_of {l : List EntryD} (h : ∀ j (hj : j + 1 < l.length), lessB (l[j]'(by omega)) l[j+1] = true) : PW l :=
  List.pairwise_iff_getElem.2 fun i j _ hj hij => sorted_lt h i j hij hj
theorem less_key {a b : EntryD} (h : lessB a b = true) : ltS b.1 a.1 = false := by
  simp only [lessB, Bool.or_eq_true, Bool.and_eq_true, decide_eq_true_eq] at h
  rcases h with h | h
  · exact ltS_asymm h
  · rw [h.1]; exact ltS_irrefl _

theorem seen_no {seq : Int} {told : ByteArray} {e : EntryD} {m : List EntryD} (h : (decide (seq < e.2.1) || decide (e.1 = told)) = true) : seenR seq told (e :: m) = seenR seq told m := by rw [seenR, if_pos h]
theorem seen_yes {seq : Int} {told : ByteArray} {e : EntryD} {m : List EntryD} (h : ¬ (decide (seq < e.2.1) || decide (e.1 = told)) = true) : seenR seq told (e :: m) = if e.2.2.1 then seenR seq e.1 m else e :: seenR seq e.1 m := by rw [seenR, if_neg h]
theorem scan_no {pre : ByteArray} {seq : Int} {told : ByteArray} {e : EntryD} {m : List EntryD} (h : (decide (seq < e.2.1) || decide (e.1 = told) || !startsB e.1 pre) = true) : scanR pre seq told (e :: m) = scanR pre seq told m := by rw [scanR, if_pos h]
theorem scan_yes {pre : ByteArray} {seq : Int} {told : ByteArray} {e : EntryD} {m : List EntryD} (h : ¬ (decide (seq < e.2.1) || decide (e.1 = told) || !startsB e.1 pre) = true) : scanR pre seq told (e :: m) = if e.2.2.1 then scanR pre seq e.1 m else e :: scanR pre seq e.1 m := by rw [scanR, if_neg h]
theorem seen_take {pre : ByteArray} {seq : Int} : ∀ (m : List EntryD) (told : ByteArray), PW m → (∀ e ∈ m, ltS e.1 pre = false) →
    (seenR seq told m).takeWhile (fun e => startsB e.1 pre) = scanR pre seq told m
  | [], _, _, _ => rfl
  | e :: m, told, hs, hp => by
    obtain ⟨hs1, hs2⟩ := List.pairwise_cons.1 hs
    have hm : ∀ x ∈ m, ltS x.1 pre = false := fun x hx => hp x (List.mem_cons_of_mem _ hx)
    by_cases h1 : (decide (seq < e.2.1) || decide (e.1 = told)) = true
    · rw [seen_no h1, scan_no (by rw [h1]; rfl)]
      exact seen_take m told hs2 hm
    · cases h2 : startsB e.1 pre with
      | true =>
        have h3 : ¬ (decide (seq < e.2.1) || decide (e.1 = told) || !startsB e.1 pre) = true := by rw [h2, Bool.not_true, Bool.or_false]; exact h1
        rw [seen_yes h1, scan_yes h3]
        have ih := seen_take (pre := pre) (seq := seq) m e.1 hs2 hm
        cases hd : e.2.2.1 with
        | true => rw [if_pos rfl, if_pos rfl]; exact ih
        | false => rw [if_neg Bool.false_ne_true, if_neg Bool.false_ne_true, List.takeWhile_cons, h2, if_pos rfl, ih]
      | false =>
        have h3 : (decide (seq < e.2.1) || decide (e.1 = told) || !startsB e.1 pre) = true := by rw [h2]; simp
        have hno : ∀ x ∈ m, startsB x.1 pre = false := fun x hx => by
          cases hc : startsB x.1 pre with
          | false => rfl
          | true => rw [starts_mid (hp e List.mem_cons_self) (less_key (hs1 x hx)) hc] at h2; cases h2
        have hnil : scanR pre seq told m = [] := by
          have := scanR_skip (seq := seq) m [] told hno
          rw [List.append_nil] at this
          rw [this]; rfl
        rw [scan_no h3, hnil]
        apply take_none
        intro x hx
        rcases List.mem_cons.1 (seenR_mem hx) with rfl | hx
        · exact h2
        · exact hno x hx

/-- all that stands ahead of a beginning's place does not begin so -/
theorem scan_place {l : List EntryD} {pre : ByteArray} {seq : Int} {p : Nat} (hs : ∀ j (hj : j + 1 < l.length), lessB (l[j]'(by omega)) l[j+1] = true) (hok : ∀ j (hj : j < l.length), l[j].2.1 ≤ 99999999)
    (h1 : ∀ r (hr : r < l.length), r < p → lessB l[r] (tgt pre 99999999) = true) (h2 : ∀ r (hr : r < l.length), p ≤ r → lessB l[r] (tgt pre 99999999) = false) :
    (seenR seq ⟨#[]⟩ (l.drop p)).takeWhile (fun e => startsB e.1 pre) = scanR pre seq ⟨#[]⟩ l := by
  have hpw := pw_of hs
  rw [seen_take]
  · conv => rhs; rw [← List.take_append_drop p l]
    rw [scanR_skip]
    intro e he
    obtain ⟨j, hj, rfl⟩ := List.getElem_of_mem he
    simp only [List.length_take] at hj
    rw [List.getElem_take]
    have h := h1 j (by omega) (by omega)
    rw [lessB_tgt] at h
    have hq := hok j (by omega)
    cases hc : startsB l[j].1 pre with
    | false => rfl
    | true =>
      have := starts_ge hc
      simp only [Bool.or_eq_true, this, Bool.false_eq_true, false_or, Bool.and_eq_true, decide_eq_true_eq] at h
      omega
  · exact hpw.drop
  · intro e he
    obtain ⟨j, hj, rfl⟩ := List.getElem_of_mem he
    simp only [List.length_drop] at hj
    rw [List.getElem_drop]
    have h := h2 (p + j) (by omega) (by omega)
    rw [lessB_tgt] at h
    simp only [Bool.or_eq_false_iff] at h
    exact h.1

/-- what MemScan answers, of entries that may be not ok -/
def scanV (l : List EntryD) (pre : ByteArray) (seq : Int) : List EntryD := if entsB l = true then scanR pre seq ⟨#[]⟩ l else []
theorem scanV_no {l : List EntryD} {pre : ByteArray} {seq : Int} (h : entsB l = false) : scanV l pre seq = [] := by unfold scanV; rw [h]; rfl
theorem scanV_yes {l : List EntryD} {pre : ByteArray} {seq : Int} (h : entsB l = true) : scanV l pre seq = scanR pre seq ⟨#[]⟩ l := by unfold scanV; rw [if_pos h]
theorem scanV_len (l : List EntryD) (pre : ByteArray) (seq : Int) : (scanV l pre seq).length ≤ 240 := by
  cases h : entsB l with
  | false => rw [scanV_no h]; simp
  | true => rw [scanV_yes h]; exact Nat.le_trans (scanR_len _ _ _ _) (entsB_at h).1
theorem scanV_mem {l : List EntryD} {pre : ByteArray} {seq : Int} {x : EntryD} (hx : x ∈ scanV l pre seq) : x ∈ l := by
  cases h : entsB l with
  | false => rw [scanV_no h] at hx; simp at hx
  | true => rw [scanV_yes h] at hx; exact scanR_mem hx
end Go.Proofs.YtgjfflfldddebaaDoor

/- Entries with one more: plain words. -/
namespace Go.Proofs.YtgjfflfldddebaaDoor
open Go Go.RowKit

theorem span_at {α : Type} (p : α → Bool) : ∀ (l : List α) (k : Nat), (∀ x ∈ l.take k, p x = true) → (∀ h : k < l.length, p l[k] = false) → l.takeWhile p = l.take k ∧ l.dropWhile p = l.drop k
  | [], k, _, _ => by simp
  | x :: l, 0, _, h => by
    have := h (by simp)
    simp only [List.getElem_cons_zero] at this
    simp [this]
  | x :: l, k + 1, h1, h2 => by
    have hx : p x = true := h1 x (by simp)
    obtain ⟨g1, g2⟩ := span_at p l k (fun y hy => h1 y (by simp [hy])) (fun h => by have := h2 (by simpa using h); simpa using this)
    simp [hx, g1, g2]

/-- entries with one more in its place -/
def putE (l : List EntryD) (e : EntryD) : List EntryD := l.takeWhile (fun x => lessB x e) ++ e :: l.dropWhile (fun x => lessB x e)
theorem putE_at {l : List EntryD} {e : EntryD} {k : Nat} (h1 : ∀ x ∈ l.take k, lessB x e = true) (h2 : ∀ h : k < l.length, lessB l[k] e = false) : putE l e = (l.take k ++ [e]) ++ l.drop k := by
  obtain ⟨g1, g2⟩ := span_at (fun x => lessB x e) l k h1 h2
  unfold putE
  rw [g1, g2, List.append_assoc]
  rfl
theorem putE_len (l : List EntryD) (e : EntryD) : (putE l e).length = l.length + 1 := by
  have h := congrArg List.length (List.takeWhile_append_dropWhile (p := fun x => lessB x e) (l := l))
  rw [List.length_append] at h
  unfold putE
  rw [List.length_append, List.length_cons]
  omega
theorem putE_mem {l : List EntryD} {e x : EntryD} (h : x ∈ putE l e) : x = e ∨ x ∈ l := by
  unfold putE at h
  rcases List.mem_append.1 h with h | h
  · exact .inr ((List.takeWhile_sublist _).subset h)
  · rcases List.mem_cons.1 h with h | h
    · exact .inl h
    · exact .inr ((List.dropWhile_sublist _).subset h)
/-- whether there is an entry of that key and moment -/
def isE (e x : EntryD) : Bool := decide (x.1 = e.1) && decide (x.2.1 = e.2.1)
def hasE (l : List EntryD) (e : EntryD) : Bool := l.any (isE e)
theorem hasE_yes {l : List EntryD} {e : EntryD} {k : Nat} (h : k < l.length) (hp : isE e l[k] = true) : hasE l e = true := List.any_eq_true.2 ⟨_, List.getElem_mem _, hp⟩
theorem hasE_no {l : List EntryD} {e : EntryD} {k : Nat} (hk : l.length ≤ k) (h : (l.take k).any (isE e) = false) : hasE l e = false := by rwa [List.take_of_length_le hk] at h
theorem any_take_succ {l : List EntryD} {p : EntryD → Bool} {k : Nat} (hk : k < l.length) (h : (l.take k).any p = false) (hp : p l[k] = false) : (l.take (k+1)).any p = false := by
  rw [List.take_succ_eq_append_getElem hk, List.any_append, h]
  simp [hp]
theorem all_take_succ {l : List EntryD} {p : EntryD → Bool} {k : Nat} (hk : k < l.length) (h : ∀ x ∈ l.take k, p x = true) (hp : p l[k] = true) : ∀ x ∈ l.take (k+1), p x = true := by
  rw [List.take_succ_eq_append_getElem hk]
  intro x hx
  rcases List.mem_append.1 hx with hx | hx
  · exact h x hx
  · rw [List.mem_singleton.1 hx]; exact hp
end Go.Proofs.YtgjfflfldddebaaDoor

/- MemScan of the specification; how a text begins. -/
namespace Go.Proofs.YtgjfflfldddebaaDoor
open Go Go.RowKit

theorem starts_cut {s pre : ByteArray} : ((s.extract 0 pre.size).toList == pre.toList) = startsB s pre := by
  rw [ByteArray.toList_eq, ByteArray.toList_eq, Lib.extract_data]
  by_cases h : s.data.toList.take pre.size = pre.data.toList <;> simp [startsB, h]
theorem starts_short {s pre : ByteArray} (h : ¬ pre.size ≤ s.size) : startsB s pre = false := by
  unfold startsB
  rw [decide_eq_false_iff_not]
  intro e
  have := congrArg List.length e
  simp at this
  omega

set_option maxHeartbeats 800000 in
theorem prefix1_any (s pre : ByteArray) (w : World) :
    Calls Tryd.prog 86 #[.string s, .string pre] w fun e w' => e = .returned (.bool (startsB s pre)) ∧ w = w' := by
  by_cases h : pre.size ≤ s.size
  · have hi : (pre.size : Int) ≤ (s.size : Int) := by omega
    have HX := Lib.hid (starts_cut (s := s) (pre := pre))
    go_enter Tryd.func86, Tryd.ntmps86
    go_wp2
    go_ret
    exact ⟨ret_bool HX.out, rfl⟩
  · have HX := Lib.hid (starts_short h)
    go_enter Tryd.func86, Tryd.ntmps86
    go_wp2
    go_ret
    exact ⟨ret_bool (by rw [HX.out]), rfl⟩
theorem flat_snoc {l : List EntryD} (e : EntryD) : (l ++ [e]).flatMap encEntry = l.flatMap encEntry ++ encEntry e := by rw [List.flatMap_append]; simp

/-- what is told ahead of the rest -/
theorem scan_step_no {pre : ByteArray} {seq : Int} {told : ByteArray} {l out : List EntryD} {k : Nat} (hk : k < l.length) (h : (decide (seq < l[k].2.1) || decide (l[k].1 = told) || !startsB l[k].1 pre) = true)
    (he : out ++ scanR pre seq told (l.drop k) = scanR pre seq ⟨#[]⟩ l) : out ++ scanR pre seq told (l.drop (k + 1)) = scanR pre seq ⟨#[]⟩ l := by
  rw [List.drop_eq_getElem_cons hk, scan_no h] at he; exact he
theorem scan_step_dead {pre : ByteArray} {seq : Int} {told : ByteArray} {l out : List EntryD} {k : Nat} (hk : k < l.length) (h : (decide (seq < l[k].2.1) || decide (l[k].1 = told) || !startsB l[k].1 pre) = false) (hd : l[k].2.2.1 = true)
    (he : out ++ scanR pre seq told (l.drop k) = scanR pre seq ⟨#[]⟩ l) : out ++ scanR pre seq l[k].1 (l.drop (k + 1)) = scanR pre seq ⟨#[]⟩ l := by
  rw [List.drop_eq_getElem_cons hk, scan_yes (by rw [h]; exact Bool.false_ne_true), if_pos hd] at he; exact he
theorem scan_step_live {pre : ByteArray} {seq : Int} {told : ByteArray} {l out : List EntryD} {k : Nat} (hk : k < l.length) (h : (decide (seq < l[k].2.1) || decide (l[k].1 = told) || !startsB l[k].1 pre) = false) (hd : l[k].2.2.1 = false)
    (he : out ++ scanR pre seq told (l.drop k) = scanR pre seq ⟨#[]⟩ l) : (out ++ [l[k]]) ++ scanR pre seq l[k].1 (l.drop (k + 1)) = scanR pre seq ⟨#[]⟩ l := by
  rw [List.drop_eq_getElem_cons hk, scan_yes (by rw [h]; exact Bool.false_ne_true), if_neg (by rw [hd]; exact Bool.false_ne_true)] at he
  rw [List.append_assoc]; exact he

end Go.Proofs.YtgjfflfldddebaaDoor

/- What each key has, told one by one: the program's iterator. -/
namespace Go.Proofs.YtgjfflfldddebaaDoor
open Go Go.RowKit Go.Shelf

attribute [local go_sem] Oper.semAt_some

def encA (x : EntryD) : Array Value := #[.agg #[.string x.1, .int .i64 x.2.1, .bool x.2.2.1, .string x.2.2.2]]

theorem seen_step_no {seq : Int} {told : ByteArray} {l out : List EntryD} {k : Nat} (hk : k < l.length) (h : (decide (seq < l[k].2.1) || decide (l[k].1 = told)) = true)
    (he : out ++ seenR seq told (l.drop k) = seenR seq ⟨#[]⟩ l) : out ++ seenR seq told (l.drop (k + 1)) = seenR seq ⟨#[]⟩ l := by
  rw [List.drop_eq_getElem_cons hk, seen_no h] at he; exact he
theorem seen_step_dead {seq : Int} {told : ByteArray} {l out : List EntryD} {k : Nat} (hk : k < l.length) (h : (decide (seq < l[k].2.1) || decide (l[k].1 = told)) = false) (hd : l[k].2.2.1 = true)
    (he : out ++ seenR seq told (l.drop k) = seenR seq ⟨#[]⟩ l) : out ++ seenR seq l[k].1 (l.drop (k + 1)) = seenR seq ⟨#[]⟩ l := by
  rw [List.drop_eq_getElem_cons hk, seen_yes (by rw [h]; exact Bool.false_ne_true), if_pos hd] at he; exact he
theorem seen_step_live {seq : Int} {told : ByteArray} {l out : List EntryD} {k : Nat} (hk : k < l.length) (h : (decide (seq < l[k].2.1) || decide (l[k].1 = told)) = false) (hd : l[k].2.2.1 = false)
    (he : out ++ seenR seq told (l.drop k) = seenR seq ⟨#[]⟩ l) : (out ++ [l[k]]) ++ seenR seq l[k].1 (l.drop (k + 1)) = seenR seq ⟨#[]⟩ l := by
  rw [List.drop_eq_getElem_cons hk, seen_yes (by rw [h]; exact Bool.false_ne_true), if_neg (by rw [hd]; exact Bool.false_ne_true)] at he
  rw [List.append_assoc]; exact he

theorem cellsEntryK {T : Nat → Prop} {w wr : World} {b o : Nat} {l : List EntryD} (hb : KeptOut T w wr) (hT : ¬ T b) (hc : ∀ j, (h : j < l.length) → ∀ i v, (encEntry l[j])[i]? = some v → w.cell? ⟨b, o + j * 4 + i, none⟩ = some v) (k : Nat) (h : k < l.length) :
    wr.cell? ⟨b, o + k * 4, none⟩ = some (.string l[k].1) ∧ wr.cell? ⟨b, o + k * 4 + 1, none⟩ = some (.int .i64 l[k].2.1) ∧ wr.cell? ⟨b, o + k * 4 + 2, none⟩ = some (.bool l[k].2.2.1) ∧ wr.cell? ⟨b, o + k * 4 + 3, none⟩ = some (.string l[k].2.2.2) := by
  have g : ∀ i v, (encEntry l[k])[i]? = some v → wr.cell? ⟨b, o + k * 4 + i, none⟩ = some v := fun i v hv => by
    have h0 := hc k h i v hv
    rw [hb.cell (by have := World.block_lt_of_cell? w _ h0; simpa using this) hT]
    exact h0
  exact ⟨g 0 _ rfl, g 1 _ rfl, g 2 _ rfl, g 3 _ rfl⟩

end Go.Proofs.YtgjfflfldddebaaDoor

/- MemScan of the program. -/
namespace Go.Proofs.YtgjfflfldddebaaDoor
open Go Go.RowKit Go.Shelf

attribute [local go_sem] Oper.semAt_some

theorem els_drop {w : World} {a : Option Addr} {l : List EntryD} (p : Nat) (h : ElS 4 encEntry w a l) : ElS 4 encEntry w (a.map (fun x => x.add (p * 4))) (l.drop p) := by
  refine ⟨Nat.le_trans (by rw [List.length_drop]; omega) h.1, ?_⟩
  rcases h.2 with rfl | ⟨b, o, rfl, hc⟩
  · exact .inl (by simp)
  · refine .inr ⟨b, o + p * 4, by simp [addr_add], fun j hj i v hv => ?_⟩
    rw [List.length_drop] at hj
    have := hc (p + j) (by omega) i v (by rwa [List.getElem_drop] at hv)
    rw [← this]
    congr 2
    rw [Nat.add_mul]; omega
theorem els_lt {w : World} {a : Option Addr} {l : List EntryD} (h : ElS 4 encEntry w a l) (hn : l ≠ []) : ∀ k, a.map Addr.block = some k → k < w.heap.size := by
  obtain ⟨b, o, rfl, hc⟩ := h.2.resolve_left hn
  rintro k e
  obtain rfl : b = k := by simpa using e
  have := hc 0 (List.length_pos_iff.2 hn) 0 _ rfl
  have := World.block_lt_of_cell? w _ this
  simpa using this
theorem take_allS {l : List EntryD} {pre : ByteArray} (h : ∀ x ∈ l, startsB x.1 pre = true) : l.takeWhile (fun e => startsB e.1 pre) = l := by
  induction l with
  | nil => rfl
  | cons x l ih => rw [List.takeWhile_cons, h x List.mem_cons_self, if_pos rfl, ih (fun y hy => h y (List.mem_cons_of_mem _ hy))]
theorem take_stopS {q : List EntryD} {x : EntryD} {l : List EntryD} {pre : ByteArray} (hp : q ++ [x] <+: l) (h : ∀ y ∈ q, startsB y.1 pre = true) (hx : startsB x.1 pre = false) : l.takeWhile (fun e => startsB e.1 pre) = q := by
  obtain ⟨t, rfl⟩ := hp
  induction q with
  | nil => simp [hx]
  | cons y q ih => rw [List.cons_append, List.cons_append, List.takeWhile_cons, h y List.mem_cons_self, if_pos rfl, ih (fun z hz => h z (List.mem_cons_of_mem _ hz))]
/-- between two rounds -/
def InvS (w : World) (pre : ByteArray) (Bs n2 : Nat) (s : List EntryD) (W : World) : Prop :=
  ((∃ v, Boxed W Bs 69 v ∧ W.ownsRow n2 100 4 v s.length (s.flatMap encEntry) ∧ True) ∧ W.cell? ⟨w.heap.size, 0, none⟩ = some (.string pre)) ∧ ((∀ x ∈ s, startsB x.1 pre = true) ∧ Below w.heap.size w W) ∧ n2 ≤ W.heap.size
theorem invS_own (w : World) (pre : ByteArray) (Bs n2 B : Nat) (hB : w.heap.size ≤ B) : OwnFrom B (InvS w pre Bs n2) :=
  OwnFrom.and (OwnFrom.and (Own.from (holdsRow_own (β := List EntryD) n2 Bs 69 100 4 (fun s => s.length) (fun s => s.flatMap encEntry) (fun _ _ => True)) _) (Own.from (fun _ _ _ _ hs hg hr => cell_kept hs hg hr) _))
    (OwnFrom.and (OwnFrom.and (ownFrom_pure _ _) (ownFrom_below (Nat.le_refl _) hB)) (fun _ _ _ _ hs hg _ => Nat.le_trans hs hg.size))

theorem box_two (w w1 : World) (pre : ByteArray) (t : TypeId) (o : Obj) (b1 : Below (w.alloc (.cells #[.string pre] t)).heap.size (w.alloc (.cells #[.string pre] t)) w1) :
    (w1.alloc o).cell? ⟨w.heap.size, 0, none⟩ = some (.string pre) ∧ (w1.alloc o).frozen? ⟨w.heap.size, 0, none⟩ = false :=
  (((Box.alloc w #[.string pre] t).below b1).below (below_alloc w1 o)) 0 _ rfl

end Go.Proofs.YtgjfflfldddebaaDoor

/- Entries with one more, by the specification. -/
namespace Go.Proofs.YtgjfflfldddebaaDoor
open Go Go.RowKit

theorem below_app {B : Nat} {w0 W w1 : World} {g n c : Nat} (h : Below B w0 W) (hB : B ≤ W.heap.size) (hg : W.grownBy w1 (Value.slice (some ⟨g, 0, none⟩) n c).ownBlock) (hk : B ≤ g) : Below B w0 w1 :=
  h.grown hg hB (fun k e => by
    have e2 : g = k := Option.some.inj e
    omega)
theorem own_lit0 {base : Nat} (W : World) (e : TypeId) (size g : Nat) (hg : g = W.heap.size) (h : base ≤ W.heap.size) : (W.alloc (.cells #[] e)).ownsRow base e size (.slice (some ⟨g, 0, none⟩) 0 0) 0 [] := by
  subst hg
  exact World.ownsRow_lit W #[] 0 h (by unfold maxLen; omega) (by simp)
theorem src_lit' (W : World) (cs : List Value) (e : TypeId) (m size g : Nat) (hg : g = W.heap.size) (h : cs.length = m * size) : SrcS (W.alloc (.cells cs.toArray e)) size (some ⟨g, 0, none⟩) m cs := by
  subst hg
  exact ⟨h, .inr ⟨W.heap.size, 0, rfl, fun j u hu => by have := cellsNew W cs e j u hu; rwa [addr_add] at this⟩⟩
theorem one_ents {l : List EntryD} {u : Value} (hu : u ∈ l.flatMap encEntry) : u.oneCell' = true := by
  rw [List.mem_flatMap] at hu
  obtain ⟨x, _, hx⟩ := hu
  simp only [encEntry, List.mem_cons, List.not_mem_nil, or_false] at hx
  rcases hx with rfl | rfl | rfl | rfl <;> rfl
theorem els_take {w : World} {a : Option Addr} {l : List EntryD} (p : Nat) (h : ElS 4 encEntry w a l) : ElS 4 encEntry w a (l.take p) := by
  refine ⟨Nat.le_trans (by rw [List.length_take]; omega) h.1, ?_⟩
  rcases h.2 with rfl | ⟨b, o, rfl, hc⟩
  · exact .inl (by simp)
  · refine .inr ⟨b, o, rfl, fun j hj i v hv => ?_⟩
    rw [List.length_take] at hj
    exact hc j (by omega) i v (by rwa [List.getElem_take] at hv)
theorem els_nil_of {w : World} {a : Option Addr} {l : List EntryD} (h : l = []) : ElS 4 encEntry w a l := by
  subst h
  exact ⟨by simp, .inl rfl⟩

set_option maxRecDepth 100000 in
set_option maxHeartbeats 800000 in
theorem specHas_any (a : Option Addr) (ca : Nat) (l : List EntryD) (x0 : ByteArray) (x1 : Int) (x2 : Bool) (x3 : ByteArray) (w : World) (hl : ElS 4 encEntry w a l) :
    Calls Tryd.prog 66 #[.slice a l.length ca, .agg #[.string x0, .int .i64 x1, .bool x2, .string x3]] w fun e w' => e = .returned (.bool (hasE l (x0, x1, x2, x3))) ∧ Below w.heap.size w w' := by
  obtain ⟨hl1, hl⟩ := hl
  unfold maxLen at hl1
  rcases hl with rfl | ⟨ba, oa, rfl, hca⟩
  · go_enter Tryd.func66, Tryd.ntmps66
    go_wp2
    refine wp_loop_rounds 1 ?_
    rw [rounds_succ]
    go_wp2
    go_ret
    exact ⟨rfl, (by repeat (first | exact Below.refl _ _ | (refine Below.alloc ?_ (by first | (simp; done) | (simp; omega)) _) | (refine Below.setCell ?_ (by first | (simp; done) | (simp; omega)) _) | (refine Below.drew ?_)))⟩
  · have HC := Lib.hid hca
    clear hca
    obtain ⟨E, hE⟩ : ∃ E : EntryD, E = (x0, x1, x2, x3) := ⟨_, rfl⟩
    rw [← hE]
    have HE := Lib.hid hE
    clear hE
    go_enter Tryd.func66, Tryd.ntmps66
    go_wp2
    go_loopw [5] (fun i wr => ∃ k : Nat, k ≤ l.length ∧ i = .int .i64 k ∧ (l.take k).any (isE E) = false ∧ Box wr w.heap.size [.string x0, .int .i64 x1, .bool x2, .string x3] ∧ Below w.heap.size w wr) (fun i _ => l.length - (intOf i).toNat)
    case atStart => exact ⟨0, Nat.zero_le _, rfl, by simp, Box.alloc _ _ _, (by repeat (first | exact Below.refl _ _ | (refine Below.alloc ?_ (by first | (simp; done) | (simp; omega)) _) | (refine Below.setCell ?_ (by first | (simp; done) | (simp; omega)) _) | (refine Below.drew ?_)))⟩
    case round =>
      obtain ⟨k, hk, rfl, hto, hbx, hbel⟩ := hrel
      have HT := Lib.hid hto
      have HX := Lib.hid hbx
      obtain ⟨⟨y0, f0⟩, ⟨y1, f1⟩, ⟨y2, f2⟩, y3, f3⟩ := show _ ∧ _ ∧ _ ∧ _ from ⟨hbx 0 _ rfl, hbx 1 _ rfl, hbx 2 _ rfl, hbx 3 _ rfl⟩
      clear hto hbx
      by_cases hlt : k < l.length
      · obtain ⟨c0, c1, c2, c3⟩ := cellsEntry hbel HC.out k hlt
        have hk0 : (0 : Int) ≤ (k : Int) := by omega
        have hkn : (k : Int) < (l.length : Int) := by omega
        by_cases e : l[k].1 = x0
        · have q1 : (l[k].1.toList == x0.toList) = true := by rw [e]; simp
          by_cases g : l[k].2.1 = x1
          · have g1 : (l[k].2.1 == x1) = true := by rw [g]; simp
            have HN := Lib.hid (show hasE l E = true from hasE_yes hlt (by rw [HE.out]; simp [isE, e, g]))
            clear e g
            go_wp2
            go_quiet (fail)
            go_wp2
            go_ret
            exact ⟨ret_bool (by rw [HN.out]), bel_drewN hbel _⟩
          · have g1 : (l[k].2.1 == x1) = false := by simp [g]
            have HN := Lib.hid (any_take_succ hlt HT.out (show isE E l[k] = false by rw [HE.out]; simp [isE, g]))
            clear e g
            go_wp2
            go_quiet (fail)
            go_wp2
            go_roundw
            case rel => exact ⟨k + 1, by omega, by go_num, HN.out, HX.out.below (bel_drewN (Below.refl _ _) _), bel_drewN hbel _⟩
            case measure => simp [intOf]; omega
        · have q1 := eqL_no e
          have HN := Lib.hid (any_take_succ hlt HT.out (show isE E l[k] = false by rw [HE.out]; simp [isE, e]))
          clear e
          go_wp2
          go_quiet (fail)
          go_wp2
          go_roundw
          case rel => exact ⟨k + 1, by omega, by go_num, HN.out, HX.out.below (bel_drewN (Below.refl _ _) _), bel_drewN hbel _⟩
          case measure => simp [intOf]; omega
      · have HN := Lib.hid (show hasE l E = false from hasE_no (k := k) (by omega) HT.out)
        go_wp2
        go_ret
        exact ⟨ret_bool (by rw [HN.out]), hbel⟩

set_option maxRecDepth 100000 in
set_option maxHeartbeats 1600000 in
theorem specPut_any (a : Option Addr) (ca : Nat) (l : List EntryD) (x0 : ByteArray) (x1 : Int) (x2 : Bool) (x3 : ByteArray) (w : World) (hn : l.length ≤ 1048576) (hcap : l.length ≤ ca) (hl : ElS 4 encEntry w a l) :
    Calls Tryd.prog 67 #[.slice a l.length ca, .agg #[.string x0, .int .i64 x1, .bool x2, .string x3]] w (OwnE w (putE l (x0, x1, x2, x3))) := by
  obtain ⟨i0, hi, hz0, hz1, hz2⟩ := info_parts infoEntry
  have HX := Lib.hid hl
  clear hl
  obtain ⟨E, hE⟩ : ∃ E : EntryD, E = (x0, x1, x2, x3) := ⟨_, rfl⟩
  rw [← hE]
  have HE := Lib.hid hE
  clear hE
  go_enter Tryd.func67, Tryd.ntmps67
  go_wp2
  go_loopw [5] (fun i wr => ∃ k : Nat, k ≤ l.length ∧ i = .int .i64 k ∧ (∀ x ∈ l.take k, lessB x E = true) ∧ Box wr w.heap.size [.string x0, .int .i64 x1, .bool x2, .string x3] ∧ Below w.heap.size w wr) (fun i _ => l.length - (intOf i).toNat)
  case atStart => exact ⟨0, Nat.zero_le _, rfl, by simp, Box.alloc _ _ _, (by repeat (first | exact Below.refl _ _ | (refine Below.alloc ?_ (by first | (simp; done) | (simp; omega)) _) | (refine Below.setCell ?_ (by first | (simp; done) | (simp; omega)) _) | (refine Below.drew ?_)))⟩
  case round =>
    obtain ⟨k, hk, rfl, hto, hbx, hbel⟩ := hrel
    have HT := Lib.hid hto
    have HBX := Lib.hid hbx
    obtain ⟨⟨y0, f0⟩, ⟨y1, f1⟩, ⟨y2, f2⟩, y3, f3⟩ := show _ ∧ _ ∧ _ ∧ _ from ⟨hbx 0 _ rfl, hbx 1 _ rfl, hbx 2 _ rfl, hbx 3 _ rfl⟩
    clear hto hbx
    by_cases hgo : ∃ h : k < l.length, lessB l[k] E = true
    · obtain ⟨hlt, hle⟩ := hgo
      obtain ⟨ba, oa, rfl, hca⟩ := HX.out.2.resolve_left (by intro e; subst e; simp at hlt)
      have HC := Lib.hid hca
      clear hca
      obtain ⟨c0, c1, c2, c3⟩ := cellsEntry hbel HC.out k hlt
      have hk0 : (0 : Int) ≤ (k : Int) := by omega
      have hkn : (k : Int) < (l.length : Int) := by omega
      have hd : decide (k < l.length) = true := decide_eq_true hlt
      have HN := Lib.hid (all_take_succ hlt HT.out hle)
      have HL := Lib.hid (show lessB (l[k].1, l[k].2.1, l[k].2.2.1, l[k].2.2.2) (x0, x1, x2, x3) = true by rw [← HE.out]; exact hle)
      clear hle
      go_wp2
      go_region_held3 (fun w' => w'.cell? ⟨ba, oa + k * 4, none⟩ = some (.string l[k].1) ∧ w'.cell? ⟨ba, oa + k * 4 + 1, none⟩ = some (.int .i64 l[k].2.1) ∧ w'.cell? ⟨ba, oa + k * 4 + 2, none⟩ = some (.bool l[k].2.2.1) ∧ w'.cell? ⟨ba, oa + k * 4 + 3, none⟩ = some (.string l[k].2.2.2) ∧ w'.cell? ⟨w.heap.size, 0, none⟩ = some (.string x0) ∧ w'.cell? ⟨w.heap.size, 1, none⟩ = some (.int .i64 x1) ∧ w'.cell? ⟨w.heap.size, 2, none⟩ = some (.bool x2) ∧ w'.cell? ⟨w.heap.size, 3, none⟩ = some (.string x3)) (first | exact ⟨c0, c1, c2, c3, y0, y1, y2, y3⟩ | exact ⟨(cellsEntry bel1 HC.out k hlt).1, (cellsEntry bel1 HC.out k hlt).2.1, (cellsEntry bel1 HC.out k hlt).2.2.1, (cellsEntry bel1 HC.out k hlt).2.2.2, (HX1.out 0 _ rfl).1, (HX1.out 1 _ rfl).1, (HX1.out 2 _ rfl).1, (HX1.out 3 _ rfl).1⟩)
        (first | (go_at_call 81; refine (specLess_any l[k].1 l[k].2.1 l[k].2.2.1 l[k].2.2.2 x0 x1 x2 x3 _).mono ?_; rintro e w1 ⟨rfl, hb1⟩; rw [HL.out]; have bel1 : Below w.heap.size w w1 := hbel.drew.trans (hb1.mono hbel.size); have HX1 := Lib.hid ((HBX.out.below ((Below.refl _ _).drew.trans hb1)) : Box w1 w.heap.size [.string x0, .int .i64 x1, .bool x2, .string x3])))
      go_wp2
      go_roundw
      case rel => exact ⟨k + 1, by omega, by go_num, HN.out, HX1.out, bel1⟩
      case measure => simp [intOf]; omega
    · have HP := Lib.hid (putE_at HT.out (fun h => by cases hc : lessB l[k] E with
        | false => rfl
        | true => exact absurd ⟨h, hc⟩ hgo))
      by_cases hlt : k < l.length
      · have hle : lessB l[k] E = false := by cases hc : lessB l[k] E with
          | false => rfl
          | true => exact absurd ⟨hlt, hc⟩ hgo
        obtain ⟨ba, oa, rfl, hca⟩ := HX.out.2.resolve_left (by intro e; subst e; simp at hlt)
        have HC := Lib.hid hca
        clear hca
        obtain ⟨c0, c1, c2, c3⟩ := cellsEntry hbel HC.out k hlt
        have hk0 : (0 : Int) ≤ (k : Int) := by omega
        have hkn : (k : Int) < (l.length : Int) := by omega
        have hd : decide (k < l.length) = true := decide_eq_true hlt
        have HL := Lib.hid (show lessB (l[k].1, l[k].2.1, l[k].2.2.1, l[k].2.2.2) (x0, x1, x2, x3) = false by rw [← HE.out]; exact hle)
        clear hle hgo
        go_wp2
        go_region_held3 (fun w' => w'.cell? ⟨ba, oa + k * 4, none⟩ = some (.string l[k].1) ∧ w'.cell? ⟨ba, oa + k * 4 + 1, none⟩ = some (.int .i64 l[k].2.1) ∧ w'.cell? ⟨ba, oa + k * 4 + 2, none⟩ = some (.bool l[k].2.2.1) ∧ w'.cell? ⟨ba, oa + k * 4 + 3, none⟩ = some (.string l[k].2.2.2) ∧ w'.cell? ⟨w.heap.size, 0, none⟩ = some (.string x0) ∧ w'.cell? ⟨w.heap.size, 1, none⟩ = some (.int .i64 x1) ∧ w'.cell? ⟨w.heap.size, 2, none⟩ = some (.bool x2) ∧ w'.cell? ⟨w.heap.size, 3, none⟩ = some (.string x3)) (first | exact ⟨c0, c1, c2, c3, y0, y1, y2, y3⟩ | exact ⟨(cellsEntry bel1 HC.out k hlt).1, (cellsEntry bel1 HC.out k hlt).2.1, (cellsEntry bel1 HC.out k hlt).2.2.1, (cellsEntry bel1 HC.out k hlt).2.2.2, (HX1.out 0 _ rfl).1, (HX1.out 1 _ rfl).1, (HX1.out 2 _ rfl).1, (HX1.out 3 _ rfl).1⟩)
          (first | (go_at_call 81; refine (specLess_any l[k].1 l[k].2.1 l[k].2.2.1 l[k].2.2.2 x0 x1 x2 x3 _).mono ?_; rintro e w1 ⟨rfl, hb1⟩; rw [HL.out]; have bel1 : Below w.heap.size w w1 := hbel.drew.trans (hb1.mono hbel.size); have HX1 := Lib.hid ((HBX.out.below ((Below.refl _ _).drew.trans hb1)) : Box w1 w.heap.size [.string x0, .int .i64 x1, .bool x2, .string x3])))
        go_wp2
        have B00 := bel1
        have HB0 := HX1
        obtain ⟨w0, hw0⟩ : ∃ w0, w0 = w1 := ⟨_, rfl⟩
        rw [← hw0] at B00 HB0 ⊢
        clear y0 y1 y2 y3 f0 f1 f2 f3 c0 c1 c2 c3 bel1 HX1 hb1 hw0
        have hkt : (l.take k).length = k := by rw [List.length_take]; omega
        have HS1 := Lib.hid (show SrcS w0 4 ((some ⟨ba, oa, none⟩)) k ((l.take k).flatMap encEntry) from by
          have h := src_el encEntry_len (by decide) (els_take k (HX.out.below B00))
          rwa [hkt] at h)
        have l0 : w.heap.size < w0.heap.size := HB0.out.lt
        have KS : ∀ w' : World, KeptOut (fun _ => False) w0 w' → w'.cell? ⟨w.heap.size, 0, none⟩ = some (.string x0) ∧ w'.cell? ⟨w.heap.size, 1, none⟩ = some (.int .i64 x1) ∧ w'.cell? ⟨w.heap.size, 2, none⟩ = some (.bool x2) ∧ w'.cell? ⟨w.heap.size, 3, none⟩ = some (.string x3) :=
          fun w' h => by
            have hb := HB0.out.kept h (fun h => h)
            exact ⟨(hb 0 _ rfl).1, (hb 1 _ rfl).1, (hb 2 _ rfl).1, (hb 3 _ rfl).1⟩
        have hnk : k ≤ l.length := hk
        have ik0 : (0 : Int) ≤ (k : Int) := by omega
        have ikn : (k : Int) ≤ (l.length : Int) := by omega
        have ikc : (k : Int) ≤ (ca : Int) := by omega
        have inc : (l.length : Int) ≤ (ca : Int) := by omega
        by_cases hck : k = ca
        · subst hck
          omega
        · have hck2 : ¬ ca = k := fun h => hck h.symm
          have HS2 := Lib.hid (show SrcS w0 4 (some ⟨ba, oa + k * 4, none⟩) (l.length - k) ((l.drop k).flatMap encEntry) from by
            have h := src_el encEntry_len (by decide) (by have h := els_drop k (HX.out.below B00); first | exact h | simpa [addr_add] using h : ElS 4 encEntry w0 (some ⟨ba, oa + k * 4, none⟩) (l.drop k))
            rw [List.length_drop] at h; exact h)
          go_region_held3 (fun w' => w'.cell? ⟨w.heap.size, 0, none⟩ = some (.string x0) ∧ w'.cell? ⟨w.heap.size, 1, none⟩ = some (.int .i64 x1) ∧ w'.cell? ⟨w.heap.size, 2, none⟩ = some (.bool x2) ∧ w'.cell? ⟨w.heap.size, 3, none⟩ = some (.string x3))
            ((refine KS _ ?_; (repeat (first | exact KeptOut.refl _ _ | exact b1 | exact b2 | exact b3 | refine KeptOut.drew ?_ | refine KeptOut.alloc ?_ _))))
            (first
              | (refine step_append_src _ rfl (.tmp 20) (.tmp 23) 69 rfl w0.heap.size 100 i0 (.agg #[.string ⟨#[]⟩, .int .i64 0, .bool false, .string ⟨#[]⟩]) 4 48 Tryd.underlying69 hi hz0 hz1 hz2 rfl (by decide) (.slice (some ⟨_, 0, none⟩) 0 0) 0 [] rfl (own_lit0 w0 100 4 _ rfl (Nat.le_refl _)) (some ⟨ba, oa, none⟩) k ca ((l.take k).flatMap encEntry) rfl (HS1.out.below (below_alloc w0 _)) (by intro u hu; exact one_ents hu) (by unfold maxLen; omega) (by omega) (by simp; try omega) ?_; intro v1 w1 o1 g1 at1; rw [Nat.zero_add, List.nil_append] at o1; obtain ⟨a1, c1, rfl⟩ := own_shape o1; have B1 : Below w0.heap.size w0 w1 := below_app (below_alloc w0 _) (by simp; try omega) g1 (by omega); have b1 : KeptOut (fun _ => False) w0 w1 := .of_below B1; have z1 := B1.size)
              | (refine step_append_src _ rfl (.tmp 20) (.tmp 23) 69 rfl w0.heap.size 100 i0 (.agg #[.string ⟨#[]⟩, .int .i64 0, .bool false, .string ⟨#[]⟩]) 4 48 Tryd.underlying69 hi hz0 hz1 hz2 rfl (by decide) (.slice (some ⟨_, 0, none⟩) 0 0) 0 [] rfl ((own_lit0 w0 100 4 _ rfl (Nat.le_refl _)).drew) (some ⟨ba, oa, none⟩) k ca ((l.take k).flatMap encEntry) rfl (HS1.out.below ((below_alloc w0 _).drew)) (by intro u hu; exact one_ents hu) (by unfold maxLen; omega) (by omega) (by simp; try omega) ?_; intro v1 w1 o1 g1 at1; rw [Nat.zero_add, List.nil_append] at o1; obtain ⟨a1, c1, rfl⟩ := own_shape o1; have B1 : Below w0.heap.size w0 w1 := below_app ((below_alloc w0 _).drew) (by simp; try omega) g1 (by omega); have b1 : KeptOut (fun _ => False) w0 w1 := .of_below B1; have z1 := B1.size)
              | (refine step_append_src _ rfl (.tmp 20) (.tmp 23) 69 rfl w0.heap.size 100 i0 (.agg #[.string ⟨#[]⟩, .int .i64 0, .bool false, .string ⟨#[]⟩]) 4 48 Tryd.underlying69 hi hz0 hz1 hz2 rfl (by decide) (.slice (some ⟨_, 0, none⟩) 0 0) 0 [] rfl (((own_lit0 w0 100 4 _ rfl (Nat.le_refl _)).alloc _).drew) (some ⟨ba, oa, none⟩) k ca ((l.take k).flatMap encEntry) rfl (HS1.out.below (((below_alloc w0 _).alloc (by simp) _).drew)) (by intro u hu; exact one_ents hu) (by unfold maxLen; omega) (by omega) (by simp; try omega) ?_; intro v1 w1 o1 g1 at1; rw [Nat.zero_add, List.nil_append] at o1; obtain ⟨a1, c1, rfl⟩ := own_shape o1; have B1 : Below w0.heap.size w0 w1 := below_app (((below_alloc w0 _).alloc (by simp) _).drew) (by simp; try omega) g1 (by omega); have b1 : KeptOut (fun _ => False) w0 w1 := .of_below B1; have z1 := B1.size; have SE : SrcS w1 4 (some ⟨w0.heap.size + 1, 0, none⟩) 1 [.string x0, .int .i64 x1, .bool x2, .string x3] := ((src_lit' (w0.alloc (.cells #[] 100)) [.string x0, .int .i64 x1, .bool x2, .string x3] 100 1 4 (w0.heap.size + 1) (by simp) rfl).kept (KeptOut.drew (KeptOut.refl (fun _ => False) _)) (fun _ _ h => h)).kept (kept_of_grown g1) (fun q hq e => by simp at hq; have := own_blk e; omega))
              | (refine step_append_src _ rfl (.tmp 20) (.tmp 23) 69 rfl w0.heap.size 100 i0 (.agg #[.string ⟨#[]⟩, .int .i64 0, .bool false, .string ⟨#[]⟩]) 4 48 Tryd.underlying69 hi hz0 hz1 hz2 rfl (by decide) (.slice (some ⟨_, 0, none⟩) 0 0) 0 [] rfl ((own_lit0 (w0.alloc _) 100 4 (w0.heap.size + 1) (by simp) (by simp)).drew) (some ⟨ba, oa, none⟩) k ca ((l.take k).flatMap encEntry) rfl (HS1.out.below (((below_alloc w0 _).alloc (by simp) _).drew)) (by intro u hu; exact one_ents hu) (by unfold maxLen; omega) (by omega) (by simp; try omega) ?_; intro v1 w1 o1 g1 at1; rw [Nat.zero_add, List.nil_append] at o1; obtain ⟨a1, c1, rfl⟩ := own_shape o1; have B1 : Below w0.heap.size w0 w1 := below_app (((below_alloc w0 _).alloc (by simp) _).drew) (by simp; try omega) g1 (by omega); have b1 : KeptOut (fun _ => False) w0 w1 := .of_below B1; have z1 := B1.size; have SE : SrcS w1 4 (some ⟨w0.heap.size, 0, none⟩) 1 [.string x0, .int .i64 x1, .bool x2, .string x3] := (((src_lit' w0 [.string x0, .int .i64 x1, .bool x2, .string x3] 100 1 4 w0.heap.size rfl rfl).below (below_alloc _ (.cells #[] 100))).kept (KeptOut.drew (KeptOut.refl (fun _ => False) _)) (fun _ _ h => h)).kept (kept_of_grown g1) (fun q hq e => by simp at hq; have := own_blk e; omega))
              | (refine step_append_src _ rfl (.tmp 24) (.tmp 26) 69 rfl w0.heap.size 100 i0 (.agg #[.string ⟨#[]⟩, .int .i64 0, .bool false, .string ⟨#[]⟩]) 4 48 Tryd.underlying69 hi hz0 hz1 hz2 rfl (by decide) (.slice a1 k c1) k ((l.take k).flatMap encEntry) rfl (o1) (some ⟨_, 0, none⟩) 1 1 [.string x0, .int .i64 x1, .bool x2, .string x3] rfl (SE) (by simp [Value.oneCell']) (by unfold maxLen; omega) (by omega) (by first | omega | (simp; omega)) ?_; intro v2 w2 o2 g2 at2; obtain ⟨a2, c2, rfl⟩ := own_shape o2; have B2 : Below w0.heap.size w0 w2 := (B1).grown g2 (by first | omega | (simp; omega)) (fun q hq => (o1.lt q hq).1); have b2 : KeptOut (fun _ => False) w0 w2 := .of_below B2; have z2 := B2.size)
              | (refine step_append_src _ rfl (.tmp 24) (.tmp 26) 69 rfl w0.heap.size 100 i0 (.agg #[.string ⟨#[]⟩, .int .i64 0, .bool false, .string ⟨#[]⟩]) 4 48 Tryd.underlying69 hi hz0 hz1 hz2 rfl (by decide) (.slice a1 k c1) k ((l.take k).flatMap encEntry) rfl (o1.alloc _) (some ⟨_, 0, none⟩) 1 1 [.string x0, .int .i64 x1, .bool x2, .string x3] rfl (src_lit' w1 [.string x0, .int .i64 x1, .bool x2, .string x3] 100 1 4 _ rfl rfl) (by simp [Value.oneCell']) (by unfold maxLen; omega) (by omega) (by first | omega | (simp; omega)) ?_; intro v2 w2 o2 g2 at2; obtain ⟨a2, c2, rfl⟩ := own_shape o2; have B2 : Below w0.heap.size w0 w2 := (B1.alloc z1 _).grown g2 (by first | omega | (simp; omega)) (fun q hq => (o1.lt q hq).1); have b2 : KeptOut (fun _ => False) w0 w2 := .of_below B2; have z2 := B2.size)
              | (refine step_append_src _ rfl (.tmp 27) (.tmp 30) 69 rfl w0.heap.size 100 i0 (.agg #[.string ⟨#[]⟩, .int .i64 0, .bool false, .string ⟨#[]⟩]) 4 48 Tryd.underlying69 hi hz0 hz1 hz2 rfl (by decide) (.slice a2 (k + 1) c2) (k + 1) ((l.take k).flatMap encEntry ++ [.string x0, .int .i64 x1, .bool x2, .string x3]) rfl o2 (some ⟨ba, oa + k * 4, none⟩) (l.length - k) ((ca - k)) ((l.drop k).flatMap encEntry) rfl (HS2.out.below B2) (by intro u hu; exact one_ents hu) (by unfold maxLen; omega) (by omega) (by first | omega | (simp; omega)) ?_; intro v3 w3 o3 g3 at3; have B3 : Below w0.heap.size w0 w3 := B2.grown g3 (by first | omega | (simp; omega)) (fun q hq => (o2.lt q hq).1); have b3 : KeptOut (fun _ => False) w0 w3 := .of_below B3))
          all_goals
            go_wp2
            go_ret
            exact ⟨_, rfl, by rw [HP.out, HE.out, List.length_append, List.length_append, List.flatMap_append, List.flatMap_append, hkt, List.length_drop]; exact own_mono B00.size o3, B00.trans (B3.mono B00.size)⟩
      · have hd : decide (k < l.length) = false := decide_eq_false hlt
        clear hgo
        go_wp2
        go_quiet (fail)
        go_wp2
        have B00 := bel_drewN hbel nq
        have HB0 := Lib.hid (HBX.out.below (bel_drewN (Below.refl _ _) nq))
        generalize World.drewN wr nq = w0 at B00 HB0 ⊢
        clear y0 y1 y2 y3 f0 f1 f2 f3
        have hkt : (l.take k).length = k := by rw [List.length_take]; omega
        have HS1 := Lib.hid (show SrcS w0 4 (a) k ((l.take k).flatMap encEntry) from by
          have h := src_el encEntry_len (by decide) (els_take k (HX.out.below B00))
          rwa [hkt] at h)
        have l0 : w.heap.size < w0.heap.size := HB0.out.lt
        have KS : ∀ w' : World, KeptOut (fun _ => False) w0 w' → w'.cell? ⟨w.heap.size, 0, none⟩ = some (.string x0) ∧ w'.cell? ⟨w.heap.size, 1, none⟩ = some (.int .i64 x1) ∧ w'.cell? ⟨w.heap.size, 2, none⟩ = some (.bool x2) ∧ w'.cell? ⟨w.heap.size, 3, none⟩ = some (.string x3) :=
          fun w' h => by
            have hb := HB0.out.kept h (fun h => h)
            exact ⟨(hb 0 _ rfl).1, (hb 1 _ rfl).1, (hb 2 _ rfl).1, (hb 3 _ rfl).1⟩
        have hnk : k ≤ l.length := hk
        have ik0 : (0 : Int) ≤ (k : Int) := by omega
        have ikn : (k : Int) ≤ (l.length : Int) := by omega
        have ikc : (k : Int) ≤ (ca : Int) := by omega
        have inc : (l.length : Int) ≤ (ca : Int) := by omega
        by_cases hck : k = ca
        · subst hck
          have hdk : l.drop k = [] := List.drop_of_length_le (by omega)
          go_region_held3 (fun w' => w'.cell? ⟨w.heap.size, 0, none⟩ = some (.string x0) ∧ w'.cell? ⟨w.heap.size, 1, none⟩ = some (.int .i64 x1) ∧ w'.cell? ⟨w.heap.size, 2, none⟩ = some (.bool x2) ∧ w'.cell? ⟨w.heap.size, 3, none⟩ = some (.string x3))
            ((refine KS _ ?_; (repeat (first | exact KeptOut.refl _ _ | exact b1 | exact b2 | exact b3 | refine KeptOut.drew ?_ | refine KeptOut.alloc ?_ _))))
            (first
              | (refine step_append_src _ rfl (.tmp 20) (.tmp 23) 69 rfl w0.heap.size 100 i0 (.agg #[.string ⟨#[]⟩, .int .i64 0, .bool false, .string ⟨#[]⟩]) 4 48 Tryd.underlying69 hi hz0 hz1 hz2 rfl (by decide) (.slice (some ⟨_, 0, none⟩) 0 0) 0 [] rfl (own_lit0 w0 100 4 _ rfl (Nat.le_refl _)) a k k ((l.take k).flatMap encEntry) rfl (HS1.out.below (below_alloc w0 _)) (by intro u hu; exact one_ents hu) (by unfold maxLen; omega) (by omega) (by simp; try omega) ?_; intro v1 w1 o1 g1 at1; rw [Nat.zero_add, List.nil_append] at o1; obtain ⟨a1, c1, rfl⟩ := own_shape o1; have B1 : Below w0.heap.size w0 w1 := below_app (below_alloc w0 _) (by simp; try omega) g1 (by omega); have b1 : KeptOut (fun _ => False) w0 w1 := .of_below B1; have z1 := B1.size)
              | (refine step_append_src _ rfl (.tmp 20) (.tmp 23) 69 rfl w0.heap.size 100 i0 (.agg #[.string ⟨#[]⟩, .int .i64 0, .bool false, .string ⟨#[]⟩]) 4 48 Tryd.underlying69 hi hz0 hz1 hz2 rfl (by decide) (.slice (some ⟨_, 0, none⟩) 0 0) 0 [] rfl ((own_lit0 w0 100 4 _ rfl (Nat.le_refl _)).drew) a k k ((l.take k).flatMap encEntry) rfl (HS1.out.below ((below_alloc w0 _).drew)) (by intro u hu; exact one_ents hu) (by unfold maxLen; omega) (by omega) (by simp; try omega) ?_; intro v1 w1 o1 g1 at1; rw [Nat.zero_add, List.nil_append] at o1; obtain ⟨a1, c1, rfl⟩ := own_shape o1; have B1 : Below w0.heap.size w0 w1 := below_app ((below_alloc w0 _).drew) (by simp; try omega) g1 (by omega); have b1 : KeptOut (fun _ => False) w0 w1 := .of_below B1; have z1 := B1.size)
              | (refine step_append_src _ rfl (.tmp 20) (.tmp 23) 69 rfl w0.heap.size 100 i0 (.agg #[.string ⟨#[]⟩, .int .i64 0, .bool false, .string ⟨#[]⟩]) 4 48 Tryd.underlying69 hi hz0 hz1 hz2 rfl (by decide) (.slice (some ⟨_, 0, none⟩) 0 0) 0 [] rfl (((own_lit0 w0 100 4 _ rfl (Nat.le_refl _)).alloc _).drew) a k k ((l.take k).flatMap encEntry) rfl (HS1.out.below (((below_alloc w0 _).alloc (by simp) _).drew)) (by intro u hu; exact one_ents hu) (by unfold maxLen; omega) (by omega) (by simp; try omega) ?_; intro v1 w1 o1 g1 at1; rw [Nat.zero_add, List.nil_append] at o1; obtain ⟨a1, c1, rfl⟩ := own_shape o1; have B1 : Below w0.heap.size w0 w1 := below_app (((below_alloc w0 _).alloc (by simp) _).drew) (by simp; try omega) g1 (by omega); have b1 : KeptOut (fun _ => False) w0 w1 := .of_below B1; have z1 := B1.size; have SE : SrcS w1 4 (some ⟨w0.heap.size + 1, 0, none⟩) 1 [.string x0, .int .i64 x1, .bool x2, .string x3] := ((src_lit' (w0.alloc (.cells #[] 100)) [.string x0, .int .i64 x1, .bool x2, .string x3] 100 1 4 (w0.heap.size + 1) (by simp) rfl).kept (KeptOut.drew (KeptOut.refl (fun _ => False) _)) (fun _ _ h => h)).kept (kept_of_grown g1) (fun q hq e => by simp at hq; have := own_blk e; omega))
              | (refine step_append_src _ rfl (.tmp 20) (.tmp 23) 69 rfl w0.heap.size 100 i0 (.agg #[.string ⟨#[]⟩, .int .i64 0, .bool false, .string ⟨#[]⟩]) 4 48 Tryd.underlying69 hi hz0 hz1 hz2 rfl (by decide) (.slice (some ⟨_, 0, none⟩) 0 0) 0 [] rfl ((own_lit0 (w0.alloc _) 100 4 (w0.heap.size + 1) (by simp) (by simp)).drew) a k k ((l.take k).flatMap encEntry) rfl (HS1.out.below (((below_alloc w0 _).alloc (by simp) _).drew)) (by intro u hu; exact one_ents hu) (by unfold maxLen; omega) (by omega) (by simp; try omega) ?_; intro v1 w1 o1 g1 at1; rw [Nat.zero_add, List.nil_append] at o1; obtain ⟨a1, c1, rfl⟩ := own_shape o1; have B1 : Below w0.heap.size w0 w1 := below_app (((below_alloc w0 _).alloc (by simp) _).drew) (by simp; try omega) g1 (by omega); have b1 : KeptOut (fun _ => False) w0 w1 := .of_below B1; have z1 := B1.size; have SE : SrcS w1 4 (some ⟨w0.heap.size, 0, none⟩) 1 [.string x0, .int .i64 x1, .bool x2, .string x3] := (((src_lit' w0 [.string x0, .int .i64 x1, .bool x2, .string x3] 100 1 4 w0.heap.size rfl rfl).below (below_alloc _ (.cells #[] 100))).kept (KeptOut.drew (KeptOut.refl (fun _ => False) _)) (fun _ _ h => h)).kept (kept_of_grown g1) (fun q hq e => by simp at hq; have := own_blk e; omega))
              | (refine step_append_src _ rfl (.tmp 24) (.tmp 26) 69 rfl w0.heap.size 100 i0 (.agg #[.string ⟨#[]⟩, .int .i64 0, .bool false, .string ⟨#[]⟩]) 4 48 Tryd.underlying69 hi hz0 hz1 hz2 rfl (by decide) (.slice a1 k c1) k ((l.take k).flatMap encEntry) rfl (o1) (some ⟨_, 0, none⟩) 1 1 [.string x0, .int .i64 x1, .bool x2, .string x3] rfl (SE) (by simp [Value.oneCell']) (by unfold maxLen; omega) (by omega) (by first | omega | (simp; omega)) ?_; intro v2 w2 o2 g2 at2; obtain ⟨a2, c2, rfl⟩ := own_shape o2; have B2 : Below w0.heap.size w0 w2 := (B1).grown g2 (by first | omega | (simp; omega)) (fun q hq => (o1.lt q hq).1); have b2 : KeptOut (fun _ => False) w0 w2 := .of_below B2; have z2 := B2.size)
              | (refine step_append_src _ rfl (.tmp 24) (.tmp 26) 69 rfl w0.heap.size 100 i0 (.agg #[.string ⟨#[]⟩, .int .i64 0, .bool false, .string ⟨#[]⟩]) 4 48 Tryd.underlying69 hi hz0 hz1 hz2 rfl (by decide) (.slice a1 k c1) k ((l.take k).flatMap encEntry) rfl (o1.alloc _) (some ⟨_, 0, none⟩) 1 1 [.string x0, .int .i64 x1, .bool x2, .string x3] rfl (src_lit' w1 [.string x0, .int .i64 x1, .bool x2, .string x3] 100 1 4 _ rfl rfl) (by simp [Value.oneCell']) (by unfold maxLen; omega) (by omega) (by first | omega | (simp; omega)) ?_; intro v2 w2 o2 g2 at2; obtain ⟨a2, c2, rfl⟩ := own_shape o2; have B2 : Below w0.heap.size w0 w2 := (B1.alloc z1 _).grown g2 (by first | omega | (simp; omega)) (fun q hq => (o1.lt q hq).1); have b2 : KeptOut (fun _ => False) w0 w2 := .of_below B2; have z2 := B2.size)
              | (refine step_append_src _ rfl (.tmp 27) (.tmp 30) 69 rfl w0.heap.size 100 i0 (.agg #[.string ⟨#[]⟩, .int .i64 0, .bool false, .string ⟨#[]⟩]) 4 48 Tryd.underlying69 hi hz0 hz1 hz2 rfl (by decide) (.slice a2 (k + 1) c2) (k + 1) ((l.take k).flatMap encEntry ++ [.string x0, .int .i64 x1, .bool x2, .string x3]) rfl o2 (a) 0 0 [] rfl ⟨rfl, .inl rfl⟩ (by simp) (by unfold maxLen; omega) (by omega) (by first | omega | (simp; omega)) ?_; intro v3 w3 o3 g3 at3; have B3 : Below w0.heap.size w0 w3 := B2.grown g3 (by first | omega | (simp; omega)) (fun q hq => (o2.lt q hq).1); have b3 : KeptOut (fun _ => False) w0 w3 := .of_below B3))
          all_goals
            go_wp2
            go_ret
            exact ⟨_, rfl, by rw [HP.out, HE.out, List.length_append, List.length_append, List.flatMap_append, List.flatMap_append, hkt, hdk]; exact own_mono B00.size o3, B00.trans (B3.mono B00.size)⟩
        · have hck2 : ¬ ca = k := fun h => hck h.symm
          have HS2 := Lib.hid (show SrcS w0 4 (Option.map (fun x => x.add (k * 4)) (a)) (l.length - k) ((l.drop k).flatMap encEntry) from by
            have h := src_el encEntry_len (by decide) (by have h := els_drop k (HX.out.below B00); first | exact h | simpa [addr_add] using h : ElS 4 encEntry w0 (Option.map (fun x => x.add (k * 4)) (a)) (l.drop k))
            rw [List.length_drop] at h; exact h)
          go_region_held3 (fun w' => w'.cell? ⟨w.heap.size, 0, none⟩ = some (.string x0) ∧ w'.cell? ⟨w.heap.size, 1, none⟩ = some (.int .i64 x1) ∧ w'.cell? ⟨w.heap.size, 2, none⟩ = some (.bool x2) ∧ w'.cell? ⟨w.heap.size, 3, none⟩ = some (.string x3))
            ((refine KS _ ?_; (repeat (first | exact KeptOut.refl _ _ | exact b1 | exact b2 | exact b3 | refine KeptOut.drew ?_ | refine KeptOut.alloc ?_ _))))
            (first
              | (refine step_append_src _ rfl (.tmp 20) (.tmp 23) 69 rfl w0.heap.size 100 i0 (.agg #[.string ⟨#[]⟩, .int .i64 0, .bool false, .string ⟨#[]⟩]) 4 48 Tryd.underlying69 hi hz0 hz1 hz2 rfl (by decide) (.slice (some ⟨_, 0, none⟩) 0 0) 0 [] rfl (own_lit0 w0 100 4 _ rfl (Nat.le_refl _)) a k ca ((l.take k).flatMap encEntry) rfl (HS1.out.below (below_alloc w0 _)) (by intro u hu; exact one_ents hu) (by unfold maxLen; omega) (by omega) (by simp; try omega) ?_; intro v1 w1 o1 g1 at1; rw [Nat.zero_add, List.nil_append] at o1; obtain ⟨a1, c1, rfl⟩ := own_shape o1; have B1 : Below w0.heap.size w0 w1 := below_app (below_alloc w0 _) (by simp; try omega) g1 (by omega); have b1 : KeptOut (fun _ => False) w0 w1 := .of_below B1; have z1 := B1.size)
              | (refine step_append_src _ rfl (.tmp 20) (.tmp 23) 69 rfl w0.heap.size 100 i0 (.agg #[.string ⟨#[]⟩, .int .i64 0, .bool false, .string ⟨#[]⟩]) 4 48 Tryd.underlying69 hi hz0 hz1 hz2 rfl (by decide) (.slice (some ⟨_, 0, none⟩) 0 0) 0 [] rfl ((own_lit0 w0 100 4 _ rfl (Nat.le_refl _)).drew) a k ca ((l.take k).flatMap encEntry) rfl (HS1.out.below ((below_alloc w0 _).drew)) (by intro u hu; exact one_ents hu) (by unfold maxLen; omega) (by omega) (by simp; try omega) ?_; intro v1 w1 o1 g1 at1; rw [Nat.zero_add, List.nil_append] at o1; obtain ⟨a1, c1, rfl⟩ := own_shape o1; have B1 : Below w0.heap.size w0 w1 := below_app ((below_alloc w0 _).drew) (by simp; try omega) g1 (by omega); have b1 : KeptOut (fun _ => False) w0 w1 := .of_below B1; have z1 := B1.size)
              | (refine step_append_src _ rfl (.tmp 20) (.tmp 23) 69 rfl w0.heap.size 100 i0 (.agg #[.string ⟨#[]⟩, .int .i64 0, .bool false, .string ⟨#[]⟩]) 4 48 Tryd.underlying69 hi hz0 hz1 hz2 rfl (by decide) (.slice (some ⟨_, 0, none⟩) 0 0) 0 [] rfl (((own_lit0 w0 100 4 _ rfl (Nat.le_refl _)).alloc _).drew) a k ca ((l.take k).flatMap encEntry) rfl (HS1.out.below (((below_alloc w0 _).alloc (by simp) _).drew)) (by intro u hu; exact one_ents hu) (by unfold maxLen; omega) (by omega) (by simp; try omega) ?_; intro v1 w1 o1 g1 at1; rw [Nat.zero_add, List.nil_append] at o1; obtain ⟨a1, c1, rfl⟩ := own_shape o1; have B1 : Below w0.heap.size w0 w1 := below_app (((below_alloc w0 _).alloc (by simp) _).drew) (by simp; try omega) g1 (by omega); have b1 : KeptOut (fun _ => False) w0 w1 := .of_below B1; have z1 := B1.size; have SE : SrcS w1 4 (some ⟨w0.heap.size + 1, 0, none⟩) 1 [.string x0, .int .i64 x1, .bool x2, .string x3] := ((src_lit' (w0.alloc (.cells #[] 100)) [.string x0, .int .i64 x1, .bool x2, .string x3] 100 1 4 (w0.heap.size + 1) (by simp) rfl).kept (KeptOut.drew (KeptOut.refl (fun _ => False) _)) (fun _ _ h => h)).kept (kept_of_grown g1) (fun q hq e => by simp at hq; have := own_blk e; omega))
              | (refine step_append_src _ rfl (.tmp 20) (.tmp 23) 69 rfl w0.heap.size 100 i0 (.agg #[.string ⟨#[]⟩, .int .i64 0, .bool false, .string ⟨#[]⟩]) 4 48 Tryd.underlying69 hi hz0 hz1 hz2 rfl (by decide) (.slice (some ⟨_, 0, none⟩) 0 0) 0 [] rfl ((own_lit0 (w0.alloc _) 100 4 (w0.heap.size + 1) (by simp) (by simp)).drew) a k ca ((l.take k).flatMap encEntry) rfl (HS1.out.below (((below_alloc w0 _).alloc (by simp) _).drew)) (by intro u hu; exact one_ents hu) (by unfold maxLen; omega) (by omega) (by simp; try omega) ?_; intro v1 w1 o1 g1 at1; rw [Nat.zero_add, List.nil_append] at o1; obtain ⟨a1, c1, rfl⟩ := own_shape o1; have B1 : Below w0.heap.size w0 w1 := below_app (((below_alloc w0 _).alloc (by simp) _).drew) (by simp; try omega) g1 (by omega); have b1 : KeptOut (fun _ => False) w0 w1 := .of_below B1; have z1 := B1.size; have SE : SrcS w1 4 (some ⟨w0.heap.size, 0, none⟩) 1 [.string x0, .int .i64 x1, .bool x2, .string x3] := (((src_lit' w0 [.string x0, .int .i64 x1, .bool x2, .string x3] 100 1 4 w0.heap.size rfl rfl).below (below_alloc _ (.cells #[] 100))).kept (KeptOut.drew (KeptOut.refl (fun _ => False) _)) (fun _ _ h => h)).kept (kept_of_grown g1) (fun q hq e => by simp at hq; have := own_blk e; omega))
              | (refine step_append_src _ rfl (.tmp 24) (.tmp 26) 69 rfl w0.heap.size 100 i0 (.agg #[.string ⟨#[]⟩, .int .i64 0, .bool false, .string ⟨#[]⟩]) 4 48 Tryd.underlying69 hi hz0 hz1 hz2 rfl (by decide) (.slice a1 k c1) k ((l.take k).flatMap encEntry) rfl (o1) (some ⟨_, 0, none⟩) 1 1 [.string x0, .int .i64 x1, .bool x2, .string x3] rfl (SE) (by simp [Value.oneCell']) (by unfold maxLen; omega) (by omega) (by first | omega | (simp; omega)) ?_; intro v2 w2 o2 g2 at2; obtain ⟨a2, c2, rfl⟩ := own_shape o2; have B2 : Below w0.heap.size w0 w2 := (B1).grown g2 (by first | omega | (simp; omega)) (fun q hq => (o1.lt q hq).1); have b2 : KeptOut (fun _ => False) w0 w2 := .of_below B2; have z2 := B2.size)
              | (refine step_append_src _ rfl (.tmp 24) (.tmp 26) 69 rfl w0.heap.size 100 i0 (.agg #[.string ⟨#[]⟩, .int .i64 0, .bool false, .string ⟨#[]⟩]) 4 48 Tryd.underlying69 hi hz0 hz1 hz2 rfl (by decide) (.slice a1 k c1) k ((l.take k).flatMap encEntry) rfl (o1.alloc _) (some ⟨_, 0, none⟩) 1 1 [.string x0, .int .i64 x1, .bool x2, .string x3] rfl (src_lit' w1 [.string x0, .int .i64 x1, .bool x2, .string x3] 100 1 4 _ rfl rfl) (by simp [Value.oneCell']) (by unfold maxLen; omega) (by omega) (by first | omega | (simp; omega)) ?_; intro v2 w2 o2 g2 at2; obtain ⟨a2, c2, rfl⟩ := own_shape o2; have B2 : Below w0.heap.size w0 w2 := (B1.alloc z1 _).grown g2 (by first | omega | (simp; omega)) (fun q hq => (o1.lt q hq).1); have b2 : KeptOut (fun _ => False) w0 w2 := .of_below B2; have z2 := B2.size)
              | (refine step_append_src _ rfl (.tmp 27) (.tmp 30) 69 rfl w0.heap.size 100 i0 (.agg #[.string ⟨#[]⟩, .int .i64 0, .bool false, .string ⟨#[]⟩]) 4 48 Tryd.underlying69 hi hz0 hz1 hz2 rfl (by decide) (.slice a2 (k + 1) c2) (k + 1) ((l.take k).flatMap encEntry ++ [.string x0, .int .i64 x1, .bool x2, .string x3]) rfl o2 (Option.map (fun x => x.add (k * 4)) (a)) (l.length - k) ((ca - k)) ((l.drop k).flatMap encEntry) rfl (HS2.out.below B2) (by intro u hu; exact one_ents hu) (by unfold maxLen; omega) (by omega) (by first | omega | (simp; omega)) ?_; intro v3 w3 o3 g3 at3; have B3 : Below w0.heap.size w0 w3 := B2.grown g3 (by first | omega | (simp; omega)) (fun q hq => (o2.lt q hq).1); have b3 : KeptOut (fun _ => False) w0 w3 := .of_below B3))
          all_goals
            go_wp2
            go_ret
            exact ⟨_, rfl, by rw [HP.out, HE.out, List.length_append, List.length_append, List.flatMap_append, List.flatMap_append, hkt, List.length_drop]; exact own_mono B00.size o3, B00.trans (B3.mono B00.size)⟩
end Go.Proofs.YtgjfflfldddebaaDoor

/- Drawn lists of entries. -/
namespace Go.Proofs.YtgjfflfldddebaaDoor
open Go Go.RowKit

set_option maxRecDepth 100000 in
set_option maxHeartbeats 800000 in
theorem pad_any (n : Nat) (w : World) (hn : n ≤ 1000) :
    Calls Tryd.prog 68 #[.int .i64 n] w fun e w' => (∃ s : ByteArray, e = .returned (.string s) ∧ s.size ≤ 1010) ∧ Below w.heap.size w w' := by
  have hd := decB_size n
  obtain ⟨d, hdd⟩ : ∃ d, d = decB n := ⟨_, rfl⟩
  rw [← hdd] at hd
  have HD := Lib.hid hdd
  clear hdd
  go_enter Tryd.func68, Tryd.ntmps68
  go_wp2_with fail
  refine (dec_any n _ (by omega)).mono ?_
  rintro e w1 ⟨rfl, b1⟩
  rw [← HD.out]
  go_wp2
  go_loopw [3] (fun v wr => ∃ s : ByteArray, v = .string s ∧ s.size ≤ 1010 ∧ Below w.heap.size w wr) (fun v _ => 8 - (match v with | .string s => s.size | _ => 0))
  case atStart => exact ⟨d, rfl, by omega, b1⟩
  case round =>
    obtain ⟨s, rfl, hs, hb⟩ := hrel
    by_cases h8 : s.size < 8
    · have h8i : (s.size : Int) < 8 := by omega
      have hz : ((⟨#[48]⟩ : ByteArray) ++ s).size = 1 + s.size := by rw [ByteArray.size_append]; rfl
      go_wp2
      go_roundw
      case rel => exact ⟨_, rfl, by rw [hz]; omega, hb⟩
      case measure => show 8 - ((⟨#[48]⟩ : ByteArray) ++ s).size < 8 - s.size; rw [hz]; omega
    · have h8i : (8 : Int) ≤ (s.size : Int) := by omega
      go_wp2
      go_ret
      exact ⟨⟨s, rfl, hs⟩, hb⟩

/-- no text of it is too long -/
def AnyE (L : List EntryD) : Prop := ∀ x ∈ L, x.1.size ≤ 3000 ∧ x.2.2.2.size ≤ 3000
theorem AnyE.ok {L : List EntryD} (h : AnyE L) : ∀ x ∈ L, OkEntry x := fun x hx => by have := h x hx; unfold OkEntry maxLen; omega
theorem AnyE.put {L : List EntryD} {e : EntryD} (h : AnyE L) (h1 : e.1.size ≤ 3000) (h2 : e.2.2.2.size ≤ 3000) : AnyE (putE L e) := fun x hx => (putE_mem hx).elim (fun q => by rw [q]; exact ⟨h1, h2⟩) (h x)
theorem own_cap {w : World} {base : Nat} {e : TypeId} {size : Nat} {a : Option Addr} {n c : Nat} {xs : List Value} (h : w.ownsRow base e size (.slice a n c) n xs) : n ≤ c := by
  rcases h.2 with ⟨hv, h0⟩ | ⟨g, cap, cur, hv, hb, hg, h1, h2, _⟩
  · omega
  · simp only [Value.slice.injEq] at hv
    omega
def DrawEPost (w : World) (r : Nat) (a : Option Addr) (c : Nat) (l : List UInt8) (p n m : Nat) (e : Ending) (w' : World) : Prop :=
  ∃ (b : Option Addr) (cb : Nat) (L : List EntryD) (p' : Nat), e = .returned (.slice b L.length cb) ∧ ElS 4 encEntry w' b L ∧ L.length ≤ cb ∧ (∀ k, b.map Addr.block = some k → w.heap.size ≤ k) ∧ AnyE L ∧ L.length ≤ m ∧ Rd w' r a c l p' ∧ p' ≤ p + n ∧ KeptOut (fun b => b = r) w w'

set_option maxRecDepth 100000 in
set_option maxHeartbeats 1600000 in
theorem l12Entries_any (w : World) (r : Nat) (a : Option Addr) (c : Nat) (l : List UInt8) (p : Nat) (hp : p ≤ 100000000) (h : Rd w r a c l p) :
    Calls Tryd.prog 46 #[.pointer (some ⟨r, 0, none⟩)] w (DrawEPost w r a c l p 40 240) := by
  have hr : r < w.heap.size := h.lt
  have HAR := Lib.hid (rd_har h)
  have HR := Lib.hid h
  clear h
  go_enter Tryd.func46, Tryd.ntmps46
  go_wp2_with fail
  refine (pick_any 10 _ r a c l p (by omega) (by omega) (by omega) (HR.out.below (below_alloc w _))).mono ?_
  rintro e w1 ⟨q, rfl, q0, q1, h1, k1⟩
  have q1' := q1 (by omega)
  obtain ⟨qn, rfl⟩ := Int.eq_ofNat_of_zero_le q0
  have K1 := Lib.hid ((KeptOut.of_below (S := fun b => b = r) (below_alloc w (.cells #[] 100))).trans k1)
  have O1 := Lib.hid (own_kept (own_lit0 (base := w.heap.size) w 100 4 w.heap.size rfl (Nat.le_refl _)) k1 (fun k hk e => by have := own_blk hk; omega))
  have H1 := Lib.hid h1
  clear h1 k1 q1 HR
  go_wp2_with fail
  go_loopw [3, 4] (fun v3 v4 wr => ∃ (q p' : Nat) (L : List EntryD), q ≤ 9 ∧ v4 = .int .i64 q ∧ p' + 4 * q ≤ p + 37 ∧ L.length + q ≤ 9 ∧ AnyE L ∧ wr.ownsRow w.heap.size 100 4 v3 L.length (L.flatMap encEntry) ∧ Rd wr r a c l p' ∧ KeptOut (fun b => b = r) w wr) (fun _ v4 _ => (intOf v4).toNat)
  case atStart => exact ⟨qn, p + 1, [], by omega, rfl, by omega, by simp; omega, fun x hx => by simp at hx, O1.out, H1.out, K1.out⟩
  case round =>
    clear O1 H1 K1
    obtain ⟨q, p', L, hq, rfl, hpp, hL, hE, hown, hrd, hk0⟩ := hrel
    obtain ⟨va, vc, rfl⟩ := own_shape hown
    have HO := Lib.hid hown
    have HRD := Lib.hid hrd
    have HK := Lib.hid hk0
    have HE := Lib.hid hE
    have hz0 := hk0.size
    clear hown hrd hk0 hE
    by_cases h0 : q = 0
    · subst h0
      go_wp2_with fail
      refine (pick_any 30 _ r a c l p' (by omega) (by omega) (by omega) HRD.out).mono ?_
      rintro e w2 ⟨q3, rfl, q30, q31, h2, k2⟩
      have H2 := Lib.hid h2
      have K2 := Lib.hid (HK.out.trans k2)
      have O2 := Lib.hid (own_kept HO.out k2 (fun k hk e => by have := (HO.out.lt k hk).1; omega))
      have z2 := k2.size
      clear h2 k2 q31 HRD HK HO
      by_cases hq3 : q3 = 0
      · subst hq3
        go_wp2_with fail
        go_loopw [3, 6] (fun v3 v6 wr => ∃ (i : Nat) (M : List EntryD), i ≤ 240 ∧ v6 = .int .i64 i ∧ i ≤ M.length ∧ M.length ≤ 9 + i ∧ AnyE M ∧ wr.ownsRow w.heap.size 100 4 v3 M.length (M.flatMap encEntry) ∧ Rd wr r a c l (p' + 1) ∧ KeptOut (fun b => b = r) w wr) (fun _ v6 _ => 240 - (intOf v6).toNat)
        case atStart => exact ⟨0, L, by omega, rfl, by omega, by omega, HE.out, O2.out, H2.out, K2.out⟩
        case round =>
          clear O2 H2 K2 HE
          obtain ⟨i, M, hi, rfl, hM0, hM, hE, hown, hrd, hk0⟩ := hrel
          obtain ⟨va, vc, rfl⟩ := own_shape hown
          have HO := Lib.hid hown
          have HRD := Lib.hid hrd
          have HK := Lib.hid hk0
          have HE := Lib.hid hE
          have hz0 := hk0.size
          have hcv := own_cap hown
          clear hown hrd hk0 hE
          by_cases hlt : i < 240
          · have hli : (i : Int) < 240 := by omega
            go_wp2_with fail
            refine (pad_any i _ (by omega)).mono ?_
            rintro e w3 ⟨⟨s, rfl, hs⟩, b3⟩
            have z3 := b3.size
            have hxs : ((⟨#[120, 46]⟩ : ByteArray) ++ s).size ≤ 3000 := by rw [ByteArray.size_append]; show 2 + s.size ≤ 3000; omega
            obtain ⟨xs, hxs2⟩ : ∃ xs, xs = (⟨#[120, 46]⟩ : ByteArray) ++ s := ⟨_, rfl⟩
            have O3 := Lib.hid (own_below (own_below HO.out b3) (below_alloc w3 (.cells #[.string ((⟨#[120, 46]⟩ : ByteArray) ++ s), .int .i64 1, .bool false, .string ⟨#[]⟩] 100)))
            go_wp2_with fail
            refine (specPut_any _ _ M ((⟨#[120, 46]⟩ : ByteArray) ++ s) 1 false ⟨#[]⟩ _ (by omega) hcv (own_el encEntry_len (by unfold maxLen; omega) O3.out)).mono ?_
            rintro e w4 ⟨v4, rfl, o4, b4⟩
            have z4 := b4.size
            simp only [World.size_alloc] at z4
            have B4 : Below wr.heap.size wr w4 := (b3.alloc z3 _).trans (b4.mono (by simp; omega))
            have O4 := Lib.hid (own_mono (show w.heap.size ≤ (w3.alloc (.cells #[.string ((⟨#[120, 46]⟩ : ByteArray) ++ s), .int .i64 1, .bool false, .string ⟨#[]⟩] 100)).heap.size by simp; omega) o4)
            have hpl := putE_len M ((⟨#[120, 46]⟩ : ByteArray) ++ s, 1, false, ⟨#[]⟩)
            clear o4 b4
            go_wp2
            go_roundw
            case rel => exact ⟨i + 1, _, by omega, by go_num, by rw [hpl]; omega, by rw [hpl]; omega, HE.out.put hxs (by simp [ByteArray.size]), O4.out, HRD.out.below B4, HK.out.trans (.of_below B4)⟩
            case measure => simp [intOf]; omega
          · have hcap2 : (240 : Int) ≤ (vc : Int) := by omega
            have hge : (240 : Int) ≤ (i : Int) := by omega
            have ht : (M.take 240).length = 240 := by rw [List.length_take]; omega
            go_wp2
            go_ret
            exact ⟨va, vc, M.take 240, p' + 1, by rw [ht]; rfl, els_take 240 (own_el encEntry_len (by unfold maxLen; omega) HO.out), by rw [ht]; omega, fun k hk => (HO.out.lt k (blk_map hk)).1, fun x hx => HE.out x (List.mem_of_mem_take hx), by rw [ht]; omega, HRD.out, by omega, HK.out⟩
      · have hq3' : (q3 == 0) = false := by simp [hq3]
        clear hq3
        go_wp2
        go_ret
        exact ⟨va, vc, L, p' + 1, rfl, own_el encEntry_len (by unfold maxLen; omega) O2.out, own_cap O2.out, fun k hk => (O2.out.lt k (blk_map hk)).1, HE.out, by omega, H2.out, by omega, K2.out⟩
    · have hqi : (0 : Int) < (q : Int) := by omega
      have hcv := own_cap HO.out
      go_wp2_with fail
      refine (l12Entry_any _ r a c l p' (by omega) HRD.out).mono ?_
      rintro e w2 ⟨x0, x1, x2, x3, rfl, s0, n0, n1, s3, h2, k2⟩
      have z2 := k2.size
      have O2 := Lib.hid (own_below (own_kept HO.out k2 (fun k hk e => by have := (HO.out.lt k hk).1; omega)) (below_alloc w2 (.cells #[.string x0, .int .i64 x1, .bool x2, .string x3] 100)))
      have H2 := Lib.hid (h2.below (below_alloc w2 (.cells #[.string x0, .int .i64 x1, .bool x2, .string x3] 100)))
      have K2 := Lib.hid ((HK.out.trans k2).trans (KeptOut.of_below (S := fun b => b = r) (below_alloc w2 (.cells #[.string x0, .int .i64 x1, .bool x2, .string x3] 100))))
      have bx := Box.alloc w2 #[.string x0, .int .i64 x1, .bool x2, .string x3] 100
      clear h2 k2 HRD HK HO
      go_wp2_with fail
      refine (specHas_any _ _ L x0 x1 x2 x3 _ (own_el encEntry_len (by unfold maxLen; omega) O2.out)).mono ?_
      rintro e w3 ⟨rfl, b3⟩
      have z3 := b3.size
      simp only [World.size_alloc] at z3
      have bx3 := bx.below b3
      have O3 := Lib.hid (own_below O2.out b3)
      have H3 := Lib.hid (H2.out.below b3)
      have K3 := Lib.hid (K2.out.trans (.of_below b3))
      obtain ⟨⟨y0, f0⟩, ⟨y1, f1⟩, ⟨y2, f2⟩, y3, f3⟩ := show _ ∧ _ ∧ _ ∧ _ from ⟨bx3 0 _ rfl, bx3 1 _ rfl, bx3 2 _ rfl, bx3 3 _ rfl⟩
      clear bx bx3 O2 H2 K2
      cases hh : hasE L (x0, x1, x2, x3) with
      | true =>
        go_wp2
        go_roundw
        case rel => exact ⟨q - 1, p' + 4, L, by omega, by go_num, by omega, by omega, HE.out, O3.out, H3.out, K3.out⟩
        case measure => simp [intOf]; omega
      | false =>
        go_wp2_with fail
        refine (specPut_any _ _ L x0 x1 x2 x3 _ (by omega) hcv (own_el encEntry_len (by unfold maxLen; omega) O3.out)).mono ?_
        rintro e w4 ⟨v4, rfl, o4, b4⟩
        have z4 := b4.size
        have O4 := Lib.hid (own_mono (show w.heap.size ≤ w3.heap.size by omega) o4)
        have H4 := Lib.hid (H3.out.below b4)
        have K4 := Lib.hid (K3.out.trans (.of_below b4))
        have hpl := putE_len L (x0, x1, x2, x3)
        clear o4 b4 y0 y1 y2 y3 f0 f1 f2 f3
        go_wp2
        go_roundw
        case rel => exact ⟨q - 1, p' + 4, _, by omega, by go_num, by omega, by rw [hpl]; omega, HE.out.put (show x0.size ≤ 3000 by omega) (show x3.size ≤ 3000 by omega), O4.out, H4.out, K4.out⟩
        case measure => simp [intOf]; omega
end Go.Proofs.YtgjfflfldddebaaDoor

/- Keys drawn; bits drawn. -/
namespace Go.Proofs.YtgjfflfldddebaaDoor
open Go Go.RowKit

theorem infoStrK : (Tryd.prog.info? 9).map (fun i => (i.zero, i.size, i.bytes)) = some (some (.string ⟨#[]⟩), 1, 16) := by kernel_rfl
def keysOf (L : List EntryD) : List ByteArray := L.map fun x => x.1
theorem keysOf_len (L : List EntryD) : (keysOf L).length = L.length := by simp [keysOf]
theorem keys_next {L : List EntryD} {k : Nat} (h : k < L.length) : ((keysOf L).take (k + 1)).map Value.string = ((keysOf L).take k).map .string ++ [.string L[k].1] := by
  rw [List.take_succ_eq_append_getElem (by rw [keysOf_len]; exact h), List.map_append]
  simp [keysOf]
theorem cells_oneK (w : World) (x : Value) (e : TypeId) : ∀ j u, [x][j]? = some u → (w.alloc (.cells #[x] e)).cell? ((⟨w.heap.size, 0, none⟩ : Addr).add j) = some u := fun j u h => by
  rw [addr_add, Nat.zero_add]
  exact (Box.alloc w #[x] e j u (by simpa using h)).1
set_option maxRecDepth 100000 in
set_option maxHeartbeats 2000000 in
theorem l5Keys_any (a : Option Addr) (c : Nat) (L : List EntryD) (w : World) (hl : ElS 4 encEntry w a L) (hlen : L.length ≤ 1048576) :
    Calls Tryd.prog 45 #[.slice a L.length c] w fun e w' => ∃ v, e = .returned v ∧ w'.ownsRow w.heap.size 9 1 v L.length ((keysOf L).map .string) ∧ Below w.heap.size w w' := by
  obtain ⟨i0, hi, hz0, hz1, hz2⟩ := info_parts infoStrK
  have HX := Lib.hid hl
  clear hl
  have O0 := Lib.hid (World.ownsRow_made (e := 9) (size := 1) w #[] 0 (Nat.le_refl _) (by unfold maxLen; omega) rfl)
  go_enter Tryd.func45, Tryd.ntmps45
  go_wp2
  go_loopw [3, 4] (fun v i wr => ∃ k : Nat, k ≤ L.length ∧ i = .int .i64 k ∧ wr.ownsRow w.heap.size 9 1 v k (((keysOf L).take k).map .string) ∧ Below w.heap.size w wr) (fun _ i _ => L.length - (intOf i).toNat)
  case atStart => exact ⟨0, Nat.zero_le _, rfl, O0.out, below_alloc _ _⟩
  case round =>
    obtain ⟨k, hk, rfl, hown, hbel⟩ := hrel
    have HO := Lib.hid hown
    have HB := Lib.hid hbel
    have hbz := hbel.size
    by_cases hlt : k < L.length
    · obtain ⟨b, o, rfl, hcell⟩ := HX.out.2.resolve_left (fun e => by rw [e] at hlt; simp at hlt)
      obtain ⟨c0, c1, c2, c3⟩ := cellsEntry hbel hcell k hlt
      have hki : (k : Int) < (L.length : Int) := by omega
      have hk0 : (0 : Int) ≤ (k : Int) := by omega
      have HN := Lib.hid (keys_next hlt)
      obtain ⟨av, cv, rfl⟩ := own_shape hown
      clear hown hbel hcell c1 c2 c3
      go_wp2_with (at_builtin; refine wpList_append_own _ rfl _ _ 25 rfl w.heap.size 9 i0 (.string ⟨#[]⟩) 1 16 Tryd.underlying25 hi hz0 hz1 hz2 rfl (by decide) _ _ _ rfl (own_below HO.out (below_alloc wr _)) ⟨wr.heap.size, 0, none⟩ 1 1 [.string L[k].1] rfl rfl (cells_oneK wr _ _) (by simp [Value.oneCell']) (by unfold maxLen; omega) (by omega) (by simp; omega) ?_; intro v8 w8 o8 g8 _)
      have O8 := Lib.hid (show w8.ownsRow w.heap.size 9 1 v8 (k + 1) (((keysOf L).take (k + 1)).map .string) by rw [HN.out]; exact o8)
      have B8 := Lib.hid (show Below w.heap.size w w8 from (HB.out.alloc hbz _).grown g8 (by simp; omega) (fun q hq => (HO.out.lt q hq).1))
      clear o8 g8
      go_wp2
      go_roundw
      case rel => exact ⟨k + 1, by omega, by go_num, O8.out, B8.out⟩
      case measure => simp [intOf]; omega
    · obtain rfl : k = L.length := by omega
      have HO2 := Lib.hid (show wr.ownsRow w.heap.size 9 1 _ L.length ((keysOf L).map .string) by have h := HO.out; rwa [List.take_of_length_le (by rw [keysOf_len]; exact Nat.le_refl _)] at h)
      go_wp2
      go_ret
      exact ⟨_, rfl, HO2.out, HB.out⟩
theorem specMake_isK {a : Option Addr} {c n : Nat} {K : List ByteArray} (hn : K.length = n) {w : World} (hl : StrS w a K) (hs : ∀ s ∈ K, s.size ≤ 549755813888) (hlen : n ≤ 1048576) :
    Calls Tryd.prog 14 #[.slice a n c] w fun e w2 => e = .returned (.string (bloomB (bitK K))) ∧ Below w.heap.size w w2 := by
  subst hn
  exact specBloomMake_any a c K _ hl hs hlen
def SmallK (L : List ByteArray) : Prop := L.length ≤ 240 ∧ ∀ x ∈ L, x.size ≤ 3000
theorem keys_small {L : List EntryD} (h : AnyE L) (hl : L.length ≤ 240) : SmallK (keysOf L) := ⟨by rw [keysOf_len]; exact hl, fun x hx => by
  obtain ⟨e, he, rfl⟩ := List.mem_map.1 hx
  exact (h e he).1⟩
def KeysD (w : World) (e : Ending) (w' : World) : Prop := ∃ v K, e = .returned v ∧ w'.ownsRow w.heap.size 9 1 v K.length (K.map .string) ∧ SmallK K ∧ Below w.heap.size w w'
set_option maxRecDepth 100000 in
set_option maxHeartbeats 2000000 in
theorem drawBloomMake_any (a : Option Addr) (c : Nat) (l : List UInt8) (w : World) (hl : l.length ≤ c) (hc : c ≤ maxLen) (h : BytesS w a l) :
    Calls Tryd.prog 20 #[.slice a l.length c] w (KeysD w) := by
  go_enter Tryd.func20, Tryd.ntmps20
  go_wp2_with fail
  refine (open_any a c l _ hl hc h).mono ?_
  rintro e w1 ⟨c1, l1, rfl, h1, b1⟩
  have z1 : w.heap.size < w1.heap.size := h1.lt
  have H1 := Lib.hid h1
  have B1 := Lib.hid b1
  clear h1 b1
  go_wp2_with fail
  refine (l12Entries_any _ w.heap.size a c1 l1 0 (by omega) H1.out).mono ?_
  rintro e w2 ⟨b, cb, L, p', rfl, el, hcb, hb, he, hll, -, -, k2⟩
  have EL := Lib.hid el
  have HE := Lib.hid he
  have K2 := Lib.hid k2
  have z2 := k2.size
  have HB2 := Lib.hid (show Below w.heap.size w w2 from k2.below B1.out B1.out.size (fun q hq => by omega))
  clear el he k2 hb
  go_wp2_with fail
  refine (l5Keys_any b cb L _ EL.out (by omega)).mono ?_
  rintro e w3 ⟨v, rfl, o3, b3⟩
  have O3 := Lib.hid (own_mono (show w.heap.size ≤ w2.heap.size by omega) o3)
  have B3 := Lib.hid (HB2.out.trans (b3.mono HB2.out.size))
  clear o3 b3
  go_wp2
  go_ret
  exact ⟨_, keysOf L, rfl, by rw [keysOf_len]; exact O3.out, keys_small HE.out (by omega), B3.out⟩
def MayD (w : World) (e : Ending) (w' : World) : Prop := ∃ s k : ByteArray, e = .returned (.tuple #[.string s, .string k]) ∧ s.size ≤ 24 ∧ k.size ≤ 24 ∧ Below w.heap.size w w'
def litB5 : List ByteArray := [⟨#[]⟩, ⟨#[120]⟩, ⟨#[102, 102, 102, 102, 102, 102, 102, 102, 102, 102, 102, 102, 102, 102, 102, 102]⟩, ⟨#[48, 48, 48, 48, 48, 48, 48, 48, 48, 48, 48, 48, 48, 48, 48, 48]⟩, ⟨#[122, 122, 122, 122, 122, 122, 122, 122, 122, 122, 122, 122, 122, 122, 122, 122]⟩]
theorem litB5_size : ∀ s ∈ litB5, s.size ≤ 24 := by
  intro s hs
  simp only [litB5, List.mem_cons, List.not_mem_nil, or_false] at hs
  rcases hs with rfl | rfl | rfl | rfl | rfl <;> decide
theorem bloomB_size0 (f : Nat → Bool) : (bloomB f).size = 16 := by
  show (bloomL f).toArray.size = 16
  simp [bloomL]
theorem own_strK {w : World} {base : Nat} {a : Option Addr} {c n : Nat} {K : List ByteArray} (hn : n = K.length) (hk : SmallK K) (h : w.ownsRow base 9 1 (.slice a n c) n (K.map .string)) : StrS w a K := by
  subst hn
  exact own_str (by have := hk.1; unfold maxLen; omega) (fun s hs => by have := hk.2 s hs; unfold maxLen; omega) h
set_option maxRecDepth 100000 in
set_option maxHeartbeats 4000000 in
theorem drawBloomMay_any (a : Option Addr) (c : Nat) (l : List UInt8) (w : World) (hl : l.length ≤ c) (hc : c ≤ maxLen) (h : BytesS w a l) :
    Calls Tryd.prog 21 #[.slice a l.length c] w (MayD w) := by
  go_enter Tryd.func21, Tryd.ntmps21
  go_wp2_with fail
  refine (open_any a c l _ hl hc h).mono ?_
  rintro e w1 ⟨c1, l1, rfl, h1, b1⟩
  have z1 : w.heap.size < w1.heap.size := h1.lt
  have H1 := Lib.hid h1
  have B1 := Lib.hid b1
  clear h1 b1
  go_wp2_with fail
  refine (l12Entries_any _ w.heap.size a c1 l1 0 (by omega) H1.out).mono ?_
  rintro e w2 ⟨b, cb, L, p', rfl, el, hcb, hb, he, hll, h2, hp', k2⟩
  have EL := Lib.hid el
  have HE := Lib.hid he
  have H2 := Lib.hid h2
  have z2 := k2.size
  have HB2 := Lib.hid (show Below w.heap.size w w2 from k2.below B1.out B1.out.size (fun q hq => by omega))
  clear el he k2 hb h2
  go_wp2_with fail
  refine (l5Keys_any b cb L _ EL.out (by omega)).mono ?_
  rintro e w3 ⟨v, rfl, o3, b3⟩
  obtain ⟨av, cv, rfl⟩ := own_shape o3
  have S3 := Lib.hid (own_strK (keysOf_len L).symm (keys_small HE.out (by omega)) o3)
  have H3 := Lib.hid (H2.out.below b3)
  have z3 := b3.size
  have B3 := Lib.hid (HB2.out.trans (b3.mono HB2.out.size))
  clear o3 b3
  go_wp2_with fail
  refine (specMake_isK (keysOf_len L) S3.out (fun s hs => by have := (keys_small HE.out (by omega)).2 s hs; omega) (by omega)).mono ?_
  rintro e w4 ⟨rfl, b4⟩
  have H4 := Lib.hid (H3.out.below b4)
  have z4 := b4.size
  have B4 := Lib.hid (B3.out.trans (b4.mono B3.out.size))
  have hs0 := bloomB_size0 (bitK (keysOf L))
  generalize bloomB (bitK (keysOf L)) = s0 at hs0 ⊢
  clear b4
  go_wp2_with fail
  refine (pick_any 10 _ w.heap.size a c1 l1 p' (by omega) (by omega) (by omega) H4.out).mono ?_
  rintro e w5 ⟨q, rfl, q0, q1, h5, k5⟩
  have H5 := Lib.hid h5
  have z5 := k5.size
  have B5 := Lib.hid (show Below w.heap.size w w5 from k5.below B4.out B4.out.size (fun b hb => by omega))
  clear h5 k5 q1
  by_cases hq : q = 0
  · subst hq
    go_wp2_with fail
    refine (of_any _ w.heap.size a c1 l1 (p' + 1) (by omega) (H5.out.below (below_alloc w5 _)) w5.heap.size 0 5 litB5 (by decide) (by decide) (by omega) (lit_cells w5 litB5 _)).mono ?_
    rintro e w6 ⟨s, hs, rfl, h6, k6⟩
    have hs24 := litB5_size s hs
    have H6 := Lib.hid h6
    have B6 := Lib.hid (show Below w.heap.size w w6 from k6.below (B5.out.alloc B5.out.size _) (by rw [World.size_alloc]; have := B5.out.size; omega) (fun b hb => by omega))
    clear h6 k6 hs
    go_wp2_with fail
    refine (l12Key_any _ w.heap.size a c1 l1 (p' + 1 + 1) (by omega) H6.out).mono ?_
    rintro e w7 ⟨k, rfl, hk, -, k7⟩
    have B7 := Lib.hid (show Below w.heap.size w w7 from k7.below B6.out B6.out.size (fun b hb => by omega))
    clear k7
    go_wp2
    go_returns
    exact ⟨s, k, rfl, hs24, hk, B7.out⟩
  · have f1 : (q == 0) = false := by rw [beq_eq_false_iff_ne]; exact hq
    go_wp2_with fail
    refine (l12Key_any _ w.heap.size a c1 l1 (p' + 1) (by omega) H5.out).mono ?_
    rintro e w7 ⟨k, rfl, hk, -, k7⟩
    have B7 := Lib.hid (show Below w.heap.size w w7 from k7.below B5.out B5.out.size (fun b hb => by omega))
    clear k7
    go_wp2
    go_returns
    exact ⟨s0, k, rfl, by omega, hk, B7.out⟩
end Go.Proofs.YtgjfflfldddebaaDoor

/- A key that is among them is never told not to be. -/
namespace Go.Proofs.YtgjfflfldddebaaDoor
open Go Go.RowKit

theorem bloomB_size (f : Nat → Bool) : (bloomB f).size = 16 := by
  show (bloomL f).toArray.size = 16
  simp [bloomL]
theorem bloomB_at (f : Nat → Bool) {j : Nat} (h : j < 16) : (bloomB f).data.toList.getD j 0 = figC (nib f j) := by
  show (bloomL f).getD j 0 = _
  simp [bloomL, h]
theorem bloomB_vN (f : Nat → Bool) {j : Nat} (h : j < 16) : vN (bloomB f) j = nib f j := by
  unfold vN
  rw [bloomB_at f h, vfig_figC _ (nib_lt f j)]
  simp
theorem bloomB_ok (f : Nat → Bool) : figOk (bloomB f) = true := by
  unfold figOk
  refine List.all_eq_true.2 fun j hj => ?_
  rw [bloomB_at f (List.mem_range.1 hj), vfig_figC _ (nib_lt f j), decide_eq_true (by omega)]
theorem bloomB_bit (f : Nat → Bool) {b : Nat} (h : b < 64) : bitV (bloomB f) b = f b := by
  unfold bitV
  rw [bloomB_vN f (show b / 4 < 16 by omega)]
  have h1 := and_bit (nib f (b / 4)) (nib_lt f _) (b % 4) (Nat.mod_lt _ (by omega))
  have h2 := nib_bit f b
  cases hf : f b with
  | true =>
    rw [hf] at h2
    have h3 : ¬ (nib f (b / 4) &&& (8 >>> (b % 4)) = 0) := of_decide_eq_false h2
    rw [h1] at h3
    exact decide_eq_true (Decidable.not_not.1 h3)
  | false =>
    rw [hf] at h2
    have h3 : nib f (b / 4) &&& (8 >>> (b % 4)) = 0 := of_decide_eq_true h2
    rw [h1] at h3
    exact decide_eq_false h3
theorem bloom_may (f : Nat → Bool) (x : ByteArray) : mayB (bloomB f) x = (List.range 3).all fun i => f (spotU (shaS x) i) := by
  rw [may_all (bloomB_size f) (bloomB_ok f) rfl]
  unfold allV
  congr 1
  funext i
  exact bloomB_bit f (spotU_lt _ _)
theorem bloom_has {l : List ByteArray} {x : ByteArray} (h : x ∈ l) : mayB (bloomB (bitK l)) x = true := by
  rw [bloom_may]
  refine List.all_eq_true.2 fun i hi => ?_
  unfold bitK
  refine List.any_eq_true.2 ⟨x, h, ?_⟩
  unfold hasU
  exact List.any_eq_true.2 ⟨i, hi, by simp⟩
theorem bloom_nil (x : ByteArray) : mayB (bloomB (bitK [])) x = false := by
  rw [bloom_may]
  exact List.all_eq_false.2 ⟨0, by simp, by simp [bitK]⟩
end Go.Proofs.YtgjfflfldddebaaDoor

/- The walk of FnBloomMay. -/
namespace Go.Proofs.YtgjfflfldddebaaDoor
open Go Go.RowKit

theorem drawMake_is {a : Option Addr} {c n : Nat} {l : List UInt8} (hn : l.length = n) {w : World} (hl : n ≤ c) (hc : c ≤ maxLen) (h : BytesS w a l) :
    Calls Tryd.prog 20 #[.slice a n c] w (KeysD w) := by
  subst hn
  exact drawBloomMake_any a c l w hl hc h
theorem drawMay_is {a : Option Addr} {c n : Nat} {l : List UInt8} (hn : l.length = n) {w : World} (hl : n ≤ c) (hc : c ≤ maxLen) (h : BytesS w a l) :
    Calls Tryd.prog 21 #[.slice a n c] w (MayD w) := by
  subst hn
  exact drawBloomMay_any a c l w hl hc h
theorem specMake_isL {a : Option Addr} {c n : Nat} {K : List ByteArray} {s : ByteArray} (hn : K.length = n) (hs : bloomB (bitK K) = s) {w : World} (hl : StrS w a K) (hk : SmallK K) :
    Calls Tryd.prog 14 #[.slice a n c] w fun e w2 => e = .returned (.string s) ∧ Below w.heap.size w w2 := by
  subst hn hs
  exact specBloomMake_any a c K _ hl (fun s hs => by have := hk.2 s hs; omega) (by have := hk.1; omega)
theorem implMake_isL {a : Option Addr} {c n : Nat} {K : List ByteArray} {s : ByteArray} (hn : K.length = n) (hs : bloomB (bitK K) = s) {w : World} (hl : StrS w a K) (hk : ∀ s ∈ K, s.size ≤ 3000) (hkl : n ≤ 1000) (ht : HashT w) :
    Calls Tryd.prog 16 #[.slice a n c] w fun e w2 => e = .returned (.string s) ∧ Below w.heap.size w w2 := by
  subst hn hs
  exact implBloomMake_any a c K _ hl (fun s hs => by have := hk s hs; omega) (by omega) ht
theorem specMay_isL {s x : ByteArray} {q : Bool} (h : mayB s x = q) (hx : x.size ≤ 3000) (w : World) :
    Calls Tryd.prog 18 #[.string s, .string x] w fun e w' => e = .returned (.bool q) ∧ Below w.heap.size w w' := by
  subst h
  exact specBloomMay_any s x (by omega) w
theorem implMay_isL {s x : ByteArray} {q : Bool} (h : mayB s x = q) (hx : x.size ≤ 3000) (w : World) (ht : HashT w) :
    Calls Tryd.prog 19 #[.string s, .string x] w fun e w' => e = .returned (.bool q) ∧ Below w.heap.size w w' := by
  subst h
  exact implBloomMay_any s x (by omega) w ht
set_option maxRecDepth 100000 in
set_option maxHeartbeats 8000000 in
theorem fnBloomMayWalk (a : Option Addr) (c : Nat) (l : List UInt8) (hl : l.length ≤ c) (hc : c ≤ maxLen) {w : World} (h : BytesS w a l) (a' : Option Addr) (c' : Nat) (l' : List UInt8) (hl' : l'.length ≤ c') (hc' : c' ≤ maxLen) (h' : BytesS w a' l') (ht : HashT w) :
    Calls Tryd.prog 6 #[.slice a l.length c, .slice a' l'.length c'] w fun e w' => e = .returned (.bool true) ∧ Below w.heap.size w w' := by
  obtain ⟨i0, hi, hz0, hz1, hz2⟩ := info_parts infoStrK
  have hcl := hc
  have hcl' := hc'
  unfold maxLen at hcl hcl'
  have HT := Lib.hid ht
  have HA := Lib.hid h
  have HA' := Lib.hid h'
  clear ht h h'
  by_cases hb : (1048576 : Int) < (l.length : Int)
  · go_enter Tryd.func6, Tryd.ntmps6
    go_wp2
    go_ret
    exact ⟨rfl, Below.refl _ _⟩
  have hb1 : ¬ (1048576 : Int) < (l.length : Int) := by omega
  clear hb
  by_cases hb : (1048576 : Int) < (l'.length : Int)
  · go_enter Tryd.func6, Tryd.ntmps6
    go_wp2
    go_ret
    exact ⟨rfl, Below.refl _ _⟩
  have hb2 : ¬ (1048576 : Int) < (l'.length : Int) := by omega
  clear hb
  go_enter Tryd.func6, Tryd.ntmps6
  go_wp2_with fail
  refine (drawMake_is rfl hl hc HA.out).mono ?_
  rintro e w1 ⟨v1, K, rfl, o1, hk, b1⟩
  obtain ⟨a1, c1, rfl⟩ := own_shape o1
  obtain ⟨n, hn⟩ : ∃ n, K.length = n := ⟨_, rfl⟩
  have HN := Lib.hid hn
  have hn240 : n ≤ 240 := by rw [← hn]; exact hk.1
  have HK := Lib.hid hk
  have O1 := Lib.hid (show w1.ownsRow w.heap.size 9 1 (.slice a1 n c1) n (K.map .string) by rw [← hn]; exact o1)
  have S1 := Lib.hid (own_strK rfl hk o1)
  have B1 := Lib.hid b1
  rw [hn]
  obtain ⟨bits, hbits⟩ : ∃ s, bloomB (bitK K) = s := ⟨_, rfl⟩
  have HBITS := Lib.hid hbits
  have hbs : bits.size = 16 := by rw [← hbits]; exact bloomB_size _
  clear hn hk o1 b1 hbits
  go_wp2_with fail
  refine (implMake_isL HN.out HBITS.out S1.out HK.out.2 (by omega) (HT.out.below B1.out)).mono ?_
  rintro e w2 ⟨rfl, b2⟩
  have z1 := B1.out.size
  have z2 := b2.size
  have S2 := Lib.hid (S1.out.below b2)
  have O2 := Lib.hid (own_below O1.out b2)
  have B2 := Lib.hid (B1.out.trans (b2.mono z1))
  clear b2 S1 O1
  have E0 := Lib.hid (World.ownsRow_made (e := 9) (size := 1) w2 #[] 0 (Nat.le_refl _) (by unfold maxLen; omega) rfl)
  have SR := Lib.hid (show SrcS (w2.alloc (.cells #[] 9)) 1 a1 n (K.map .string) by
    have h := src_str (S2.out.below (below_alloc w2 (.cells #[] 9)))
    rwa [HN.out] at h)
  have hnc := own_cap O2.out
  go_wp2_with (at_builtin; refine wpList_append_src _ rfl _ _ 25 rfl w2.heap.size 9 i0 (.string ⟨#[]⟩) 1 16 Tryd.underlying25 hi hz0 hz1 hz2 rfl (by decide) _ 0 [] rfl E0.out a1 n c1 (K.map .string) rfl SR.out (fun u hu => by obtain ⟨y, _, rfl⟩ := List.mem_map.1 hu; rfl) (by unfold maxLen; omega) (by omega) (by rw [World.size_alloc]; omega) ?_; intro v3 w3 o3 g3 _)
  have B23 := Lib.hid (show Below w2.heap.size w2 w3 from (below_alloc w2 _).grown g3 (by simp) (fun k hk => (E0.out.lt k hk).1))
  have O3 := Lib.hid (show w3.ownsRow w2.heap.size 9 1 v3 n (K.map .string) by have h := o3; rwa [Nat.zero_add, List.nil_append] at h)
  have B3 := Lib.hid (B2.out.trans (B23.out.mono B2.out.size))
  have z3 := B23.out.size
  clear o3 g3
  obtain ⟨a3, c3, rfl⟩ := own_shape O3.out
  go_wp2_with fail
  refine (drawMake_is rfl hl' hc' (bytes_below B3.out HA'.out)).mono ?_
  rintro e w4 ⟨v4, K2, rfl, o4, hk2, b4⟩
  obtain ⟨a4, c4, rfl⟩ := own_shape o4
  obtain ⟨m, hm⟩ : ∃ m, K2.length = m := ⟨_, rfl⟩
  have HM := Lib.hid hm
  have hm240 : m ≤ 240 := by rw [← hm]; exact hk2.1
  have HK2 := Lib.hid hk2
  have S4 := Lib.hid (own_strK rfl hk2 o4)
  have O34 := Lib.hid (own_below O3.out b4)
  have B24 := Lib.hid (B23.out.trans (b4.mono z3))
  have z4 := b4.size
  have SR4 := Lib.hid (show SrcS w4 1 a4 m (K2.map .string) by
    have h := src_str S4.out
    rwa [hm] at h)
  have hmc : m ≤ c4 := by have h := own_cap o4; omega
  rw [hm]
  clear hm hk2 o4 b4
  go_wp2_with (at_builtin; refine wpList_append_src _ rfl _ _ 25 rfl w2.heap.size 9 i0 (.string ⟨#[]⟩) 1 16 Tryd.underlying25 hi hz0 hz1 hz2 rfl (by decide) (.slice a3 n c3) n (K.map .string) rfl O34.out a4 m c4 (K2.map .string) rfl SR4.out (fun u hu => by obtain ⟨y, _, rfl⟩ := List.mem_map.1 hu; rfl) (by unfold maxLen; omega) (by omega) (by omega) ?_; intro v5 w5 o5 g5 _)
  have B25 := Lib.hid (show Below w2.heap.size w2 w5 from B24.out.grown g5 B24.out.size (fun k hk => (O34.out.lt k hk).1))
  have hall : (K ++ K2).length = n + m := by rw [List.length_append, HN.out, HM.out]
  have HALL := Lib.hid hall
  obtain ⟨a5, c5, rfl⟩ := own_shape o5
  have S5 := Lib.hid (show StrS w5 a5 (K ++ K2) from own_str (by rw [hall]; unfold maxLen; omega) (fun s hs => by
    rcases List.mem_append.1 hs with h | h
    · have := HK.out.2 s h; unfold maxLen; omega
    · have := HK2.out.2 s h; unfold maxLen; omega) (by rw [hall, List.map_append]; exact o5))
  have SK5 := Lib.hid (S2.out.below B25.out)
  have B5 := Lib.hid (B2.out.trans (B25.out.mono B2.out.size))
  obtain ⟨all, hal⟩ : ∃ s, bloomB (bitK (K ++ K2)) = s := ⟨_, rfl⟩
  have HAL := Lib.hid hal
  clear hal hall o5 g5
  go_wp2_with fail
  refine (implMake_isL HALL.out HAL.out S5.out (fun s hs => by
    rcases List.mem_append.1 hs with h | h
    · exact HK.out.2 s h
    · exact HK2.out.2 s h) (by omega) (HT.out.below B5.out)).mono ?_
  rintro e w6 ⟨rfl, b6⟩
  have SK6 := Lib.hid (SK5.out.below b6)
  have B6 := Lib.hid (B5.out.trans (b6.mono B5.out.size))
  clear b6
  go_wp2_with fail
  refine (drawMay_is rfl hl' hc' (bytes_below B6.out HA'.out)).mono ?_
  rintro e w7 ⟨bb, kk, rfl, hbb, hkk, b7⟩
  have SK7 := Lib.hid (SK6.out.below b7)
  have B7 := Lib.hid (B6.out.trans (b7.mono B6.out.size))
  clear b7
  obtain ⟨q, hq⟩ : ∃ q, mayB bb kk = q := ⟨_, rfl⟩
  have HQ := Lib.hid hq
  clear hq
  have hbb1 : (bits.toList == bits.toList) = true := by simp
  go_wp2_with fail
  refine (specMake_isL HN.out HBITS.out SK7.out HK.out).mono ?_
  rintro e w8 ⟨rfl, b8⟩
  have SK8 := Lib.hid (SK7.out.below b8)
  have B8 := Lib.hid (B7.out.trans (b8.mono B7.out.size))
  clear b8
  go_wp2_with fail
  refine (implMay_isL HQ.out (by omega) _ (HT.out.below B8.out)).mono ?_
  rintro e w9 ⟨rfl, b9⟩
  have SK9 := Lib.hid (SK8.out.below b9)
  have B9 := Lib.hid (B8.out.trans (b9.mono B8.out.size))
  clear b9
  go_wp2_with fail
  refine (specMay_isL HQ.out (by omega) _).mono ?_
  rintro e w10 ⟨rfl, b10⟩
  have SK := Lib.hid (SK9.out.below b10)
  have B10 := Lib.hid (B9.out.trans (b10.mono B9.out.size))
  clear b10
  have hqq : (q != q) = false := by simp
  have hqr : (q == q) = true := by simp
  go_wp2_with fail
  go_loopw [10] (fun i wr => ∃ k : Nat, k ≤ n ∧ i = .int .i64 k ∧ Below w10.heap.size w10 wr) (fun i _ => n - (intOf i).toNat)
  case atStart => exact ⟨0, Nat.zero_le _, rfl, Below.refl _ _⟩
  case round =>
    obtain ⟨k, hk, rfl, hbel⟩ := hrel
    have HB := Lib.hid hbel
    by_cases hlt : k < n
    · have hkL : k < K.length := by rw [HN.out]; exact hlt
      obtain ⟨b, o, e, hcell⟩ := (SK.out.below hbel).2.2.resolve_left (fun e => by rw [e] at hkL; simp at hkL)
      have ck := hcell k hkL
      have hkI : (k : Int) < (n : Int) := by omega
      have hk0 : (0 : Int) ≤ (k : Int) := by omega
      obtain ⟨key, hkey⟩ : ∃ key, K[k] = key := ⟨_, rfl⟩
      have hmem : key ∈ K := by rw [← hkey]; exact List.getElem_mem hkL
      have hks := HK.out.2 key hmem
      have M1 := Lib.hid (show mayB bits key = true by rw [← HBITS.out]; exact bloom_has hmem)
      have M2 := Lib.hid (show mayB all key = true by rw [← HAL.out]; exact bloom_has (List.mem_append_left _ hmem))
      rw [hkey] at ck
      subst e
      clear hcell hbel hkey
      go_wp2_with fail
      refine (implMay_isL M1.out hks _ (HT.out.below (B10.out.trans (HB.out.mono B10.out.size)))).mono ?_
      rintro e w11 ⟨rfl, b11⟩
      have B11 := Lib.hid (HB.out.trans (b11.mono HB.out.size))
      have ck11 : w11.cell? ⟨b, o + k, none⟩ = some (.string key) := (b11.cell (by have := World.block_lt_of_cell? wr _ ck; simpa using this)).trans ck
      clear b11 ck
      go_wp2_with fail
      refine (implMay_isL M2.out hks _ (HT.out.below (B10.out.trans (B11.out.mono B10.out.size)))).mono ?_
      rintro e w12 ⟨rfl, b12⟩
      have B12 := Lib.hid (B11.out.trans (b12.mono B11.out.size))
      clear b12 ck11
      go_wp2
      go_roundw
      case rel => exact ⟨k + 1, by omega, by go_num, B12.out⟩
      case measure => simp [intOf]; omega
    · obtain rfl : k = n := by omega
      have BE := Lib.hid (B10.out.trans (HB.out.mono B10.out.size))
      have MN := Lib.hid (bloom_nil kk)
      have hb16 : ((bits.size : Int) == 16) = true := by rw [hbs]; rfl
      have hnil : StrS wr none [] := ⟨by simp, by simp, .inl rfl⟩
      go_wp2_with fail
      refine (implMake_isL (K := []) (n := 0) rfl rfl hnil (by simp) (by omega) (HT.out.below BE.out)).mono ?_
      rintro e w13 ⟨rfl, b13⟩
      have B13 := Lib.hid (BE.out.trans (b13.mono BE.out.size))
      clear b13
      go_wp2_with fail
      refine (implMay_isL MN.out (by omega) _ (HT.out.below B13.out)).mono ?_
      rintro e w14 ⟨rfl, b14⟩
      go_wp2
      go_ret
      exact ⟨rfl, B13.out.trans (b14.mono B13.out.size)⟩
end Go.Proofs.YtgjfflfldddebaaDoor
