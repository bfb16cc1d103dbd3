import Derived.Test.YtfekpbkcidhbfaaDoorProg
import Derived.Test.YtfekpbkcidhbfaaDoorBase
import Derived.Deep.QuietTactic
import Derived.BigQuiet
import Derived.WalkLawsBesides
/- The reader of codes: pick gives a number below n, and turns its place alone. -/
namespace Go.Proofs.YtfekpbkcidhbfaaDoor
open Go Go.RowKit

/-- A slice at a reads as the bytes l. -/
def BytesS (w : World) (a : Option Addr) (l : List UInt8) : Prop :=
  l = [] ∨ ∃ b o, a = some ⟨b, o, none⟩ ∧ ∀ j, (h : j < l.length) → w.cell? ⟨b, o + j, none⟩ = some (.int .u8 (l[j].toNat : Int))

/-- block r is a reader of the bytes l at a, at place p -/
def Rd (w : World) (r : Nat) (a : Option Addr) (c : Nat) (l : List UInt8) (p : Nat) : Prop :=
  Box w r [.slice a l.length c, .int .i64 p] ∧ l.length ≤ 2000 ∧ (l = [] ∨ ∃ b o, a = some ⟨b, o, none⟩ ∧ b ≠ r ∧ ∀ j, (h : j < l.length) → w.cell? ⟨b, o + j, none⟩ = some (.int .u8 (l[j].toNat : Int)))

def PickPost (n : Int) (w : World) (r : Nat) (a : Option Addr) (c : Nat) (l : List UInt8) (p : Nat) (e : Ending) (w' : World) : Prop :=
  ∃ q : Int, e = .returned (.int .i64 q) ∧ 0 ≤ q ∧ (1 ≤ n → q < n) ∧ Rd w' r a c l (p + 1) ∧ KeptOut (fun b => b = r) w w'

theorem xor_i64_nat (a b : Nat) (ha : a < 4611686018427387904) (hb : b < 4611686018427387904) : bits .xor .i64 (a : Int) (b : Int) = ((a ^^^ b : Nat) : Int) := by
  have hx : a ^^^ b < 2 ^ 62 := Nat.xor_lt_two_pow (by omega) (by omega)
  have h1 : (BitVec.ofInt 64 (a : Int)).toNat = a := by
    rw [BitVec.ofInt_natCast, BitVec.toNat_ofNat]; exact Nat.mod_eq_of_lt (by omega)
  have h2 : (BitVec.ofInt 64 (b : Int)).toNat = b := by
    rw [BitVec.ofInt_natCast, BitVec.toNat_ofNat]; exact Nat.mod_eq_of_lt (by omega)
  show IntKind.i64.wrap ((BitVec.ofInt 64 (a : Int) ^^^ BitVec.ofInt 64 (b : Int)).toNat : Int) = _
  rw [BitVec.toNat_xor, h1, h2]
  simp [IntKind.wrap, IntKind.bits, IntKind.signed]
  omega
theorem xor_nonneg {x y : Int} (hx : 0 ≤ x) (hx' : x < 4611686018427387904) (hy : 0 ≤ y) (hy' : y < 4611686018427387904) : 0 ≤ bits .xor .i64 x y := by
  obtain ⟨a, rfl⟩ := Int.eq_ofNat_of_zero_le hx
  obtain ⟨b, rfl⟩ := Int.eq_ofNat_of_zero_le hy
  rw [xor_i64_nat a b (by omega) (by omega)]
  omega

theorem Rd.stored {w : World} {r : Nat} {a : Option Addr} {c : Nat} {l : List UInt8} {p : Nat} (h : Rd w r a c l p) (q : Nat) : Rd (w.setCell ⟨r, 1, none⟩ (.int .i64 (q : Int))) r a c l q := by
  obtain ⟨hb, hn, hl⟩ := h
  refine ⟨?_, hn, ?_⟩
  · intro i v hv
    match i, hv with
    | 0, hv =>
      have h0 := hb 0 _ rfl
      simp only [List.getElem?_cons_zero, Option.some.injEq] at hv
      subst hv
      exact ⟨by simpa [go_sem] using h0.1, by simpa [go_sem] using h0.2⟩
    | 1, hv =>
      have h1 := hb 1 _ rfl
      simp only [List.getElem?_cons_succ, List.getElem?_cons_zero, Option.some.injEq] at hv
      subst hv
      exact ⟨by simp [go_sem, h1.1], by simpa [go_sem] using h1.2⟩
    | n + 2, hv => simp at hv
  · rcases hl with hl | ⟨b, o, ha, hbr, hc⟩
    · exact .inl hl
    · refine .inr ⟨b, o, ha, hbr, fun j hj => ?_⟩
      have := hc j hj
      rw [← this]
      exact World.cell?_of_block (w := w) (Below.heap_setCell _ _ _ _ hbr)

theorem Rd.drewN {w : World} {r : Nat} {a : Option Addr} {c : Nat} {l : List UInt8} {p : Nat} (h : Rd w r a c l p) (n : Nat) : Rd (w.drewN n) r a c l p := h

set_option maxRecDepth 100000 in
set_option maxHeartbeats 800000 in
theorem pick_any (n : Int) (w : World) (r : Nat) (a : Option Addr) (c : Nat) (l : List UInt8) (p : Nat) (hp : p ≤ 1099511627776) (hn : n ≤ 1099511627776) (hn0 : -1099511627776 ≤ n) (h : Rd w r a c l p) :
    Calls Tryd.prog 37 #[.pointer (some ⟨r, 0, none⟩), .int .i64 n] w (PickPost n w r a c l p) := by
  obtain ⟨hb, hlen, hl⟩ := id h
  have c0 := (hb 0 _ rfl).1
  have c1 := (hb 1 _ rfl).1
  have f1 := (hb 1 _ rfl).2
  have HS := Lib.hid (h.stored (p + 1))
  have HK := Lib.hid (show KeptOut (fun b => b = r) w (w.setCell ⟨r, 1, none⟩ (.int .i64 ((p + 1 : Nat) : Int))) from (KeptOut.refl (fun b => b = r) w).setCell (p := ⟨r, 1, none⟩) rfl _)
  by_cases h1 : n < 1
  · go_enter Tryd.func37, Tryd.ntmps37
    go_wp2
    go_ret
    exact ⟨0, rfl, by omega, fun _ => by omega, HS.out, HK.out⟩
  · have h1' : 1 ≤ n := by omega
    by_cases h2 : l.length = 0
    · have h2' : ((l.length : Int) == 0) = true := by rw [beq_iff_eq]; omega
      have h2'' : (l.length : Int) ≤ 0 := by omega
      clear h2
      go_enter Tryd.func37, Tryd.ntmps37
      go_wp2
      go_ret
      exact ⟨0, rfl, by omega, fun _ => by omega, HS.out, HK.out⟩
    · have h2' : ((l.length : Int) == 0) = false := by rw [beq_eq_false_iff_ne]; omega
      have h2'' : 0 < l.length := by omega
      rcases hl with rfl | ⟨ba, oa, rfl, hbr, hca⟩
      · simp at h2
      clear h2
      by_cases h3 : p < l.length
      · obtain ⟨x, d0, hx0, hx1⟩ : ∃ x : Int, w.cell? ⟨ba, oa + p, none⟩ = some (.int .u8 x) ∧ 0 ≤ x ∧ x ≤ 255 := ⟨_, hca p h3, by omega, by have := (l[p]).toNat_lt; omega⟩
        clear hca
        go_enter Tryd.func37, Tryd.ntmps37
        go_wp2
        go_ret
        refine ⟨_, rfl, ?_, fun _ => ?_, HS.out, HK.out⟩
        · exact Int.emod_nonneg _ (by omega)
        · exact Int.emod_lt_of_pos _ (by omega)
      · have hL : 0 < (l.length : Int) := by omega
        have hm1 : p % l.length < l.length := Nat.mod_lt _ h2''
        have hm2 : (p * 7 + 3) % l.length < l.length := Nat.mod_lt _ h2''
        have e1 := hca _ hm1
        have e2 := hca _ hm2
        obtain ⟨x, hx, hx0, hx1⟩ : ∃ x : Int, w.cell? ⟨ba, oa + p % l.length, none⟩ = some (.int .u8 x) ∧ 0 ≤ x ∧ x ≤ 255 := ⟨_, e1, by omega, by have := (l[p % l.length]).toNat_lt; omega⟩
        obtain ⟨y, hy, hy0, hy1⟩ : ∃ y : Int, w.cell? ⟨ba, oa + (p * 7 + 3) % l.length, none⟩ = some (.int .u8 y) ∧ 0 ≤ y ∧ y ≤ 255 := ⟨_, e2, by omega, by have := (l[(p * 7 + 3) % l.length]).toNat_lt; omega⟩
        have i1 : (0 : Int) ≤ (p : Int) % (l.length : Int) := Int.emod_nonneg _ (by omega)
        have i2 : (p : Int) % (l.length : Int) < (l.length : Int) := Int.emod_lt_of_pos _ hL
        have i3 : (0 : Int) ≤ ((p : Int) * 7 + 3) % (l.length : Int) := Int.emod_nonneg _ (by omega)
        have i4 : ((p : Int) * 7 + 3) % (l.length : Int) < (l.length : Int) := Int.emod_lt_of_pos _ hL
        have i5 : (0 : Int) ≤ (p : Int) / (l.length : Int) := Int.ediv_nonneg (by omega) (by omega)
        have i6 : (p : Int) / (l.length : Int) ≤ (p : Int) := Int.ediv_le_self _ (by omega)
        have h3' : (l.length : Int) ≤ (p : Int) := by omega
        clear hca e1 e2 h3
        go_enter Tryd.func37, Tryd.ntmps37
        go_wp2
        go_quiet (fail)
        go_wp2
        go_ret
        have hX : 0 ≤ bits BinOp.xor IntKind.i64 (x * 131 + y * 1117 + (p : Int) * 29 + (p : Int) / (l.length : Int) * 53) ((x * 131 + y * 1117 + (p : Int) * 29 + (p : Int) / (l.length : Int) * 53) / 64) :=
          xor_nonneg (by omega) (by omega) (by omega) (by omega)
        refine ⟨_, rfl, ?_, fun _ => ?_, HS.out.drewN nq, HK.out.trans (KeptOut.of_below (below_drewN (Below.refl _ _) nq))⟩
        · exact Int.tmod_nonneg _ hX
        · exact Int.tmod_lt_of_pos _ (by omega)

theorem Rd.kept {S : Nat → Prop} {w w' : World} {r : Nat} {a : Option Addr} {c : Nat} {l : List UInt8} {p : Nat} (hk : KeptOut S w w') (hr : ¬ S r) (ha : ∀ x, a = some x → ¬ S x.block) (h : Rd w r a c l p) : Rd w' r a c l p := by
  obtain ⟨hb, hn, hl⟩ := h
  refine ⟨hb.kept hk hr, hn, ?_⟩
  rcases hl with hl | ⟨b, o, hab, hbr, hc⟩
  · exact .inl hl
  · refine .inr ⟨b, o, hab, hbr, fun j hj => ?_⟩
    have h0 := hc j hj
    exact (hk.cell (p := ⟨b, o + j, none⟩) (by have := World.block_lt_of_cell? w _ h0; simpa using this) (ha ⟨b, o, none⟩ hab)).trans h0
theorem Rd.below {w w' : World} {r : Nat} {a : Option Addr} {c : Nat} {l : List UInt8} {p : Nat} (hb : Below w.heap.size w w') (h : Rd w r a c l p) : Rd w' r a c l p :=
  h.kept (S := fun _ => False) (.of_below hb) (fun h => h) (fun _ _ h => h)
theorem Rd.lt {w : World} {r : Nat} {a : Option Addr} {c : Nat} {l : List UInt8} {p : Nat} (h : Rd w r a c l p) : r < w.heap.size := h.1.lt

def OpenPost (w : World) (a : Option Addr) (e : Ending) (w' : World) : Prop :=
  ∃ c l, e = .returned (.pointer (some ⟨w.heap.size, 0, none⟩)) ∧ Rd w' w.heap.size a c l 0 ∧ Below w.heap.size w w'

theorem bytes_lt {w : World} {b o : Nat} {l : List UInt8} (hn : l ≠ []) (hc : ∀ j, (h : j < l.length) → w.cell? ⟨b, o + j, none⟩ = some (.int .u8 (l[j].toNat : Int))) : b < w.heap.size := by
  have h0 := hc 0 (List.length_pos_iff.2 hn)
  have := World.block_lt_of_cell? w _ h0
  simpa using this

set_option maxRecDepth 100000 in
set_option maxHeartbeats 800000 in
theorem open_any (a : Option Addr) (c : Nat) (l : List UInt8) (w : World) (hl : l.length ≤ c) (hc : c ≤ maxLen) (h : BytesS w a l) :
    Calls Tryd.prog 24 #[.slice a l.length c] w (OpenPost w a) := by
  unfold maxLen at hc
  by_cases hb : (2000 : Int) < (l.length : Int)
  · rcases h with rfl | ⟨b, o, rfl, hcell⟩
    · simp at hb
    have hlt := bytes_lt (by intro e; subst e; simp at hb) hcell
    have HC := Lib.hid hcell
    clear hcell
    go_enter Tryd.func24, Tryd.ntmps24
    go_wp2
    go_ret
    refine ⟨c, l.take 2000, rfl, ⟨?_, by rw [List.length_take]; omega, .inr ⟨b, o, rfl, by omega, fun j hj => ?_⟩⟩, (by repeat (first | exact Below.refl _ _ | (refine Below.alloc ?_ (by first | (simp; done) | (simp; omega)) _) | (refine Below.setCell ?_ (by first | (simp; done) | (simp; omega)) _) | (refine Below.drew ?_)))⟩
    · have e : (l.take 2000).length = 2000 := by rw [List.length_take]; omega
      rw [e]
      exact Box.alloc _ _ _
    · have hj' : j < 2000 := by rw [List.length_take] at hj; omega
      have h0 := HC.out j (by omega)
      rw [(below_alloc w _).cell (by simpa using hlt), h0]
      simp
  · have hb' : (l.length : Int) ≤ 2000 := by omega
    go_enter Tryd.func24, Tryd.ntmps24
    go_wp2
    go_ret
    refine ⟨c, l, rfl, ⟨Box.alloc _ _ _, by omega, ?_⟩, (by repeat (first | exact Below.refl _ _ | (refine Below.alloc ?_ (by first | (simp; done) | (simp; omega)) _) | (refine Below.setCell ?_ (by first | (simp; done) | (simp; omega)) _) | (refine Below.drew ?_)))⟩
    rcases h with h | ⟨b, o, ha, hcell⟩
    · exact .inl h
    · by_cases hn : l = []
      · exact .inl hn
      · have hlt := bytes_lt hn hcell
        refine .inr ⟨b, o, ha, by omega, fun j hj => ?_⟩
        rw [(below_alloc w _).cell (by simpa using hlt)]
        exact hcell j hj

def OfPost (w : World) (r : Nat) (a : Option Addr) (c : Nat) (l : List UInt8) (p : Nat) (list : List ByteArray) (e : Ending) (w' : World) : Prop :=
  ∃ s, s ∈ list ∧ e = .returned (.string s) ∧ Rd w' r a c l (p + 1) ∧ KeptOut (fun b => b = r) w w'

set_option maxRecDepth 100000 in
set_option maxHeartbeats 800000 in
theorem of_any (w : World) (r : Nat) (a : Option Addr) (c : Nat) (l : List UInt8) (p : Nat) (hp : p ≤ 1099511627776) (h : Rd w r a c l p) (b o : Nat) (ca : Nat) (list : List ByteArray) (hne : 0 < list.length) (hlen : list.length ≤ 1048576) (hbr : b ≠ r)
    (hs : ∀ j, (h : j < list.length) → w.cell? ⟨b, o + j, none⟩ = some (.string list[j])) :
    Calls Tryd.prog 57 #[.pointer (some ⟨r, 0, none⟩), .slice (some ⟨b, o, none⟩) list.length ca] w (OfPost w r a c l p list) := by
  have HS := Lib.hid hs
  clear hs
  go_enter Tryd.func57, Tryd.ntmps57
  go_wp2_with fail
  refine (pick_any _ _ r a c l p hp (by omega) (by omega) h).mono ?_
  rintro e w1 ⟨q, rfl, hq0, hq1, hrd, hk⟩
  obtain ⟨j, rfl⟩ := Int.eq_ofNat_of_zero_le hq0
  have hj : j < list.length := by have := hq1 (by omega); omega
  have hj' : (j : Int) < (list.length : Int) := by omega
  have c1 : w1.cell? ⟨b, o + j, none⟩ = some (.string list[j]) := by
    have h0 := HS.out j hj
    rw [hk.cell (by have := World.block_lt_of_cell? w _ h0; simpa using this) hbr]
    exact h0
  clear hq1
  have HR := Lib.hid hrd
  have HK := Lib.hid hk
  clear hrd hk
  go_wp2
  go_ret
  exact ⟨list[j], List.getElem_mem _, rfl, HR.out, HK.out⟩

/-- the cells of a list of texts that was just written out -/
theorem lit_cells (w : World) (L : List ByteArray) (e : TypeId) (j : Nat) (h : j < L.length) : (w.alloc (.cells (L.map Value.string).toArray e)).cell? ⟨w.heap.size, 0 + j, none⟩ = some (.string L[j]) := by
  rw [World.cell?_alloc_at _ _ _ _ rfl]
  simp [h]
end Go.Proofs.YtfekpbkcidhbfaaDoor
