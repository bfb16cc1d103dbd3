import Derived.Test.YtbioljpjpflboaaGreatDoorProg
import Derived.Test.YtbioljpjpflboaaGreatDoorBase
import Derived.Deep.QuietTactic
import Derived.BigQuiet
import Derived.WalkLawsBesides
/- The reader of codes: pick gives a number below n, and turns its place alone. -/
namespace Go.Proofs.YtbioljpjpflboaaGreatDoor
open Go Go.RowKit

/-- A slice at a reads as the bytes l. -/
def BytesS (w : World) (a : Option Addr) (l : List UInt8) : Prop :=
  l = [] ∨ ∃ b o, a = some ⟨b, o, none⟩ ∧ ∀ j, (h : j < l.length) → w.cell? ⟨b, o + j, none⟩ = some (.int .u8 (l[j].toNat : Int))

/-- block r is a reader of the bytes l at a, at place p -/
def Rd (w : World) (r : Nat) (a : Option Addr) (c : Nat) (l : List UInt8) (p : Nat) : Prop :=
  Box w r [.slice a l.length c, .int .i64 p] ∧ l.length ≤ 2000 ∧ (l = [] ∨ ∃ b o, a = some ⟨b, o, none⟩ ∧ b ≠ r ∧ ∀ j, (h : j < l.length) → w.cell? ⟨b, o + j, none⟩ = some (.int .u8 (l[j].toNat : Int)))

def PickPost (n : Int) (w : World) (r : Nat) (a : Option Addr) (c : Nat) (l : List UInt8) (p : Nat) (e : Ending) (w' : World) : Prop :=
  ∃ q : Int, e = .returned (.int .i64 q) ∧ 0 ≤ q ∧ (1 ≤ n → q < n) ∧ Rd w' r a c l (p + 1) ∧ KeptOut (fun b => b = r) w w'

theorem xor_i64_nat (a b : Nat) (ha : a < 4611686018427387904) (hb : b < 4611686018427387904) : bits .xor .i64 (a : Int) (b : Int) = ((a ^^^ b : Nat) : Int) := by
  have hx : a ^^^ b < 2 ^ 62 := Nat.xor_lt_two_pow (by omega) (by omega)
  have h1 : (BitVec.ofInt 64 (a : Int)).toNat = a := by
    rw [BitVec.ofInt_natCast, BitVec.toNat_ofNat]; exact Nat.mod_eq_of_lt (by omega)
  have h2 : (BitVec.ofInt 64 (b : Int)).toNat = b := by
    rw [BitVec.ofInt_natCast, BitVec.toNat_ofNat]; exact Nat.mod_eq_of_lt (by omega)
  show IntKind.i64.wrap ((BitVec.ofInt 64 (a : Int) ^^^ BitVec.ofInt 64 (b : Int)).toNat : Int) = _
  rw [BitVec.toNat_xor, h1, h2]
  simp [IntKind.wrap, IntKind.bits, IntKind.signed]
  omega
theorem xor_nonneg {x y : Int} (hx : 0 ≤ x) (hx' : x < 4611686018427387904) (hy : 0 ≤ y) (hy' : y < 4611686018427387904) : 0 ≤ bits .xor .i64 x y := by
  obtain ⟨a, rfl⟩ := Int.eq_ofNat_of_zero_le hx
  obtain ⟨b, rfl⟩ := Int.eq_ofNat_of_zero_le hy
  rw [xor_i64_nat a b (by omega) (by omega)]
  omega

theorem Rd.stored {w : World} {r : Nat} {a : Option Addr} {c : Nat} {l : List UInt8} {p : Nat} (h : Rd w r a c l p) (q : Nat) : Rd (w.setCell ⟨r, 1, none⟩ (.int .i64 (q : Int))) r a c l q := by
  obtain ⟨hb, hn, hl⟩ := h
  refine ⟨?_, hn, ?_⟩
  · intro i v hv
    match i, hv with
    | 0, hv =>
      have h0 := hb 0 _ rfl
      simp only [List.getElem?_cons_zero, Option.some.injEq] at hv
      subst hv
      exact ⟨by simpa [go_sem] using h0.1, by simpa [go_sem] using h0.2⟩
    | 1, hv =>
      have h1 := hb 1 _ rfl
      simp only [List.getElem?_cons_succ, List.getElem?_cons_zero, Option.some.injEq] at hv
      subst hv
      exact ⟨by simp [go_sem, h1.1], by simpa [go_sem] using h1.2⟩
    | n + 2, hv => simp at hv
  · rcases hl with hl | ⟨b, o, ha, hbr, hc⟩
    · exact .inl hl
    · refine .inr ⟨b, o, ha, hbr, fun j hj => ?_⟩
      have := hc j hj
      rw [← this]
      exact World.cell?_of_block (w := w) (Below.heap_setCell _ _ _ _ hbr)

theorem Rd.drewN {w : World} {r : Nat} {a : Option Addr} {c : Nat} {l : List UInt8} {p : Nat} (h : Rd w r a c l p) (n : Nat) : Rd (w.drewN n) r a c l p := h

theorem Rd.kept {S : Nat → Prop} {w w' : World} {r : Nat} {a : Option Addr} {c : Nat} {l : List UInt8} {p : Nat} (hk : KeptOut S w w') (hr : ¬ S r) (ha : ∀ x, a = some x → ¬ S x.block) (h : Rd w r a c l p) : Rd w' r a c l p := by
  obtain ⟨hb, hn, hl⟩ := h
  refine ⟨hb.kept hk hr, hn, ?_⟩
  rcases hl with hl | ⟨b, o, hab, hbr, hc⟩
  · exact .inl hl
  · refine .inr ⟨b, o, hab, hbr, fun j hj => ?_⟩
    have h0 := hc j hj
    exact (hk.cell (p := ⟨b, o + j, none⟩) (by have := World.block_lt_of_cell? w _ h0; simpa using this) (ha ⟨b, o, none⟩ hab)).trans h0
theorem Rd.below {w w' : World} {r : Nat} {a : Option Addr} {c : Nat} {l : List UInt8} {p : Nat} (hb : Below w.heap.size w w') (h : Rd w r a c l p) : Rd w' r a c l p :=
  h.kept (S := fun _ => False) (.of_below hb) (fun h => h) (fun _ _ h => h)
theorem Rd.lt {w : World} {r : Nat} {a : Option Addr} {c : Nat} {l : List UInt8} {p : Nat} (h : Rd w r a c l p) : r < w.heap.size := h.1.lt

def OpenPost (w : World) (a : Option Addr) (e : Ending) (w' : World) : Prop :=
  ∃ c l, e = .returned (.pointer (some ⟨w.heap.size, 0, none⟩)) ∧ Rd w' w.heap.size a c l 0 ∧ Below w.heap.size w w'

theorem bytes_lt {w : World} {b o : Nat} {l : List UInt8} (hn : l ≠ []) (hc : ∀ j, (h : j < l.length) → w.cell? ⟨b, o + j, none⟩ = some (.int .u8 (l[j].toNat : Int))) : b < w.heap.size := by
  have h0 := hc 0 (List.length_pos_iff.2 hn)
  have := World.block_lt_of_cell? w _ h0
  simpa using this

def OfPost (w : World) (r : Nat) (a : Option Addr) (c : Nat) (l : List UInt8) (p : Nat) (list : List ByteArray) (e : Ending) (w' : World) : Prop :=
  ∃ s, s ∈ list ∧ e = .returned (.string s) ∧ Rd w' r a c l (p + 1) ∧ KeptOut (fun b => b = r) w w'

/-- the cells of a list of texts that was just written out -/
theorem lit_cells (w : World) (L : List ByteArray) (e : TypeId) (j : Nat) (h : j < L.length) : (w.alloc (.cells (L.map Value.string).toArray e)).cell? ⟨w.heap.size, 0 + j, none⟩ = some (.string L[j]) := by
  rw [World.cell?_alloc_at _ _ _ _ rfl]
  simp [h]
end Go.Proofs.YtbioljpjpflboaaGreatDoor
