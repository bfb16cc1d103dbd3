import Derived.Test.YtgjfflfldddebaaDoorSlotsW
import Derived.Test.YtgjfflfldddebaaDoorPick
import Derived.Test.YtgjfflfldddebaaDoorMany
import Derived.Deep.RegionHeld3
/- Drawn texts and frames. -/
namespace Go.Proofs.YtgjfflfldddebaaDoor
open Go Go.RowKit

def litT6 (x y z : ByteArray) : List ByteArray := [⟨#[]⟩, ⟨#[97, 32, 116, 101, 120, 116]⟩, x, y, z, ⟨#[119, 105, 116, 104, 58, 99, 111, 108, 111, 110, 115, 44, 32, 97, 110, 100, 32, 49, 58, 50]⟩]
theorem litT6_size {x y z : ByteArray} (hx : x.size ≤ 300) (hy : y.size ≤ 300) (hz : z.size ≤ 300) : ∀ s ∈ litT6 x y z, s.size ≤ 300 := by
  intro s hs
  simp only [litT6, List.mem_cons, List.not_mem_nil, or_false] at hs
  rcases hs with rfl | rfl | rfl | rfl | rfl | rfl <;> first | assumption | decide
def TextP (w : World) (r : Nat) (a : Option Addr) (c : Nat) (l : List UInt8) (p : Nat) (e : Ending) (w' : World) : Prop := ∃ s : ByteArray, e = .returned (.string s) ∧ s.size ≤ 300 ∧ Rd w' r a c l (p + 1) ∧ KeptOut (fun b => b = r) w w'
set_option maxRecDepth 100000 in
set_option maxHeartbeats 1000000 in
theorem l12Text_any (w : World) (r : Nat) (a : Option Addr) (c : Nat) (l : List UInt8) (p : Nat) (hp : p ≤ 10000000) (h : Rd w r a c l p) :
    Calls Tryd.prog 26 #[.pointer (some ⟨r, 0, none⟩)] w (TextP w r a c l p) := by
  have hr : r < w.heap.size := h.lt
  have HR := Lib.hid h
  clear h
  go_enter Tryd.func26, Tryd.ntmps26
  go_wp2_with fail
  refine (many_any ⟨#[116]⟩ 140 _ (by decide) (by decide)).mono ?_
  rintro e w1 ⟨⟨x, hx, rfl⟩, rfl⟩
  have hx3 : x.size ≤ 300 := by rw [hx]; decide
  clear hx
  go_wp2_with fail
  refine (many_any ⟨#[117]⟩ 141 _ (by decide) (by decide)).mono ?_
  rintro e w1 ⟨⟨y, hy, rfl⟩, rfl⟩
  have hy3 : y.size ≤ 300 := by rw [hy]; decide
  clear hy
  go_wp2_with fail
  refine (many_any ⟨#[118]⟩ 300 _ (by decide) (by decide)).mono ?_
  rintro e w1 ⟨⟨z, hz, rfl⟩, rfl⟩
  have hz3 : z.size ≤ 300 := by rw [hz]; decide
  clear hz
  go_wp2_with fail
  refine (pick_any 6 _ r a c l p (by omega) (by omega) (by omega) (HR.out.below (below_alloc w _))).mono ?_
  rintro e w3 ⟨q, rfl, q0, q1, h3, k3⟩
  have q2 := q1 (by omega)
  obtain ⟨n, rfl⟩ := Int.eq_ofNat_of_zero_le q0
  have hn : n < (litT6 x y z).length := by show n < 6; omega
  have hn6 : (n : Int) < 6 := q2
  have hc0 := lit_cells w (litT6 x y z) 9 n hn
  have cz : w3.cell? ⟨w.heap.size, n, none⟩ = some (.string (litT6 x y z)[n]) := by
    have h0 := (k3.cell (p := ⟨w.heap.size, 0 + n, none⟩) (by simp) (by show ¬ (w.heap.size = r); omega)).trans hc0
    rwa [Nat.zero_add] at h0
  have hsz := litT6_size hx3 hy3 hz3 _ (List.getElem_mem hn)
  obtain ⟨s, hs⟩ : ∃ s, (litT6 x y z)[n] = s := ⟨_, rfl⟩
  rw [hs] at cz hsz
  have H3 := Lib.hid h3
  have K3 := Lib.hid ((KeptOut.of_below (S := fun b => b = r) (below_alloc w (.cells ((litT6 x y z).map Value.string).toArray 9))).trans k3)
  clear h3 k3 hs hc0 q1
  go_wp2
  go_ret
  exact ⟨s, rfl, hsz, H3.out, K3.out⟩
def FrameDraw (w : World) (e : Ending) (w' : World) : Prop := ∃ (t n : Int) (s : ByteArray), e = .returned (.tuple #[.int .i64 t, .int .i64 n, .string s]) ∧ (-2 ≤ t ∧ t ≤ 10) ∧ (-2 ≤ n ∧ n ≤ 100000000) ∧ s.size ≤ 3000 ∧ Below w.heap.size w w'
def FNat (n : Nat) (v : Value) : Prop := ∃ q : Nat, q < n ∧ v = .int .i64 (q : Int)
def FInt (lo hi : Int) (v : Value) : Prop := ∃ q : Int, lo ≤ q ∧ q ≤ hi ∧ v = .int .i64 q
def FTwo (r : Nat) (v : Value) (w : World) : Prop := ∃ b, v = .slice (some ⟨b, 0, none⟩) 2 2 ∧ b ≠ r ∧ w.cell? ⟨b, 0, none⟩ = some (.int .i64 (-1)) ∧ w.cell? ⟨b, 1, none⟩ = some (.int .i64 100000000)
def FAt (r : Nat) (v : Value) (w : World) : Prop := ∃ b o, ∃ z : Int, -1 ≤ z ∧ z ≤ 100000000 ∧ v = .pointer (some ⟨b, o, none⟩) ∧ b ≠ r ∧ w.cell? ⟨b, o, none⟩ = some (.int .i64 z)
def FStr (v : Value) : Prop := ∃ s : ByteArray, s.size ≤ 2001 ∧ v = .string s
theorem fcell {r b o : Nat} {v : Value} {w w' : World} (hc : w.cell? ⟨b, o, none⟩ = some v) (hb : b ≠ r) (hk : KeptOut (fun b => b = r) w w') : w'.cell? ⟨b, o, none⟩ = some v := by
  rw [hk.cell (p := ⟨b, o, none⟩) (by have := World.block_lt_of_cell? w _ hc; simpa using this) hb]; exact hc
theorem FTwo.kept {r : Nat} {v : Value} {w w' : World} (h : FTwo r v w) (hk : KeptOut (fun b => b = r) w w') : FTwo r v w' := by
  obtain ⟨b, e, hb, h0, h1⟩ := h
  exact ⟨b, e, hb, fcell h0 hb hk, fcell h1 hb hk⟩
theorem FAt.kept {r : Nat} {v : Value} {w w' : World} (h : FAt r v w) (hk : KeptOut (fun b => b = r) w w') : FAt r v w' := by
  obtain ⟨b, o, z, h1, h2, e, hb, hc⟩ := h
  exact ⟨b, o, z, h1, h2, e, hb, fcell hc hb hk⟩
def GFr (r : Nat) : Nat → Value → World → Prop
  | 0, v, _ | 4, v, _ | 8, v, _ => v = .pointer (some ⟨r, 0, none⟩)
  | 1, v, _ => FNat 4 v
  | 2, v, _ | 12, v, _ => FInt (-1) 2 v
  | 3, v, w => FTwo r v w
  | 5, v, _ | 9, v, _ => FNat 2 v
  | 6, v, w => FAt r v w
  | 7, v, _ | 13, v, _ => FInt (-1) 100000000 v
  | 10, v, _ => ∃ q : Nat, q ≤ 2001 ∧ v = .int .i64 (q : Int)
  | 11, v, _ | 14, v, _ => FStr v
  | _, _, _ => True
theorem gfr_kept {r : Nat} (i : Nat) (v : Value) (w w' : World) (h : GFr r i v w) (hk : KeptOut (fun b => b = r) w w') : GFr r i v w' := by
  unfold GFr at h ⊢
  split at h <;> first | exact h | exact FTwo.kept h hk | exact FAt.kept h hk
def SFr (w0 : World) (r : Nat) (a : Option Addr) (c : Nat) (l : List UInt8) (p : Nat) (k : Nat) (w : World) : Prop := KeptOut (fun b => b = r) w0 w ∧ ∃ p', p' + k ≤ p ∧ Rd w r a c l p'
def litP3 : List ByteArray := [⟨#[112]⟩, ⟨#[113]⟩, ⟨#[116, 101, 120, 116, 32]⟩]
def litX2 : List ByteArray := [⟨#[120]⟩, ⟨#[121]⟩]
theorem litP3_size : ∀ s ∈ litP3, s.size ≤ 5 := by
  intro s hs
  simp only [litP3, List.mem_cons, List.not_mem_nil, or_false] at hs
  rcases hs with rfl | rfl | rfl <;> decide
theorem litX2_size : ∀ s ∈ litX2, s.size ≤ 1 := by
  intro s hs
  simp only [litX2, List.mem_cons, List.not_mem_nil, or_false] at hs
  rcases hs with rfl | rfl <;> decide
set_option maxRecDepth 100000 in
set_option maxHeartbeats 4000000 in
theorem drawFramePut_any (a : Option Addr) (c : Nat) (l : List UInt8) (w : World) (hl : l.length ≤ c) (hc : c ≤ maxLen) (h : BytesS w a l) :
    Calls Tryd.prog 7 #[.slice a l.length c] w (FrameDraw w) := by
  go_enter Tryd.func7, Tryd.ntmps7
  go_wp2_with fail
  refine (open_any a c l _ hl hc h).mono ?_
  rintro e w1 ⟨c1, l1, rfl, h1, b1⟩
  have z1 : w.heap.size < w1.heap.size := h1.lt
  have H1 := Lib.hid h1
  have B1 := Lib.hid b1
  clear h1 b1
  go_wp2_with fail
  refine (pick_any 16 _ w.heap.size a c1 l1 0 (by omega) (by omega) (by omega) H1.out).mono ?_
  rintro e w2 ⟨q, rfl, q0, q1, h2, k2⟩
  have z2 := k2.size
  obtain ⟨n, rfl⟩ := Int.eq_ofNat_of_zero_le q0
  have H2 := Lib.hid h2
  have K2 := Lib.hid k2
  clear h2 k2 q0 q1 H1
  by_cases hn : n = 0
  · subst hn
    go_wp2_with fail
    refine wp_region_slotsW (G := GFr w.heap.size) (S := SFr w2 w.heap.size a c1 l1 20) (by kernel_rfl) 15 56 rfl (by kernel_rfl) (fun W W' => KeptOut (fun b => b = w.heap.size) W W') gfr_kept ⟨(KeptOut.refl _ _).drew, 0 + 1, by simp, H2.out⟩ ?step ?done ?last
    case step =>
      intro i o A W kk K him ho hs hd hS hK
      obtain ⟨hkw, p3, hp3, hrd⟩ := hS
      have hr2 : w.heap.size < W.heap.size := hrd.lt
      have hszW := hkw.size
      match i, him, ho, hd, hK with
      | 0, _, ho, hd, hK =>
        obtain rfl := Option.some.inj ho
        have e : A.tmps.getD 5 undef = .pointer (some ⟨w.heap.size, 0, none⟩) := hs.keep (by kernel_rfl)
        go_simp
        exact hK _ _ (KeptOut.refl _ _) rfl ⟨hkw, p3, by omega, hrd⟩
      | 1, _, ho, hd, hK =>
        obtain rfl := Option.some.inj ho
        have e0 : A.tmps.getD 12 undef = .pointer (some ⟨w.heap.size, 0, none⟩) := hd ⟨0, .data⟩ (by simp) rfl
        go_simp
        refine (pick_any 4 _ w.heap.size a c1 l1 p3 (by omega) (by omega) (by omega) hrd).mono ?_
        rintro e w' ⟨q, rfl, q0, q1, h1, k1⟩
        obtain ⟨q, rfl⟩ := Int.eq_ofNat_of_zero_le q0
        have q2 := q1 (by omega)
        exact hK _ _ k1 ⟨q, by omega, rfl⟩ ⟨hkw.trans k1, p3 + 1, by omega, h1⟩
      | 2, _, ho, hd, hK =>
        obtain rfl := Option.some.inj ho
        obtain ⟨q, hq, e0⟩ := (show FNat 4 (A.tmps.getD 13 undef) from hd ⟨1, .data⟩ (by simp) rfl)
        have e0' := (Array.getD_eq_getD_getElem? ..).symm.trans e0
        have hw : IntKind.i64.wrap ((q : Int) - 1) = (q : Int) - 1 := by rcases (show q = 0 ∨ q = 1 ∨ q = 2 ∨ q = 3 by omega) with rfl | rfl | rfl | rfl <;> decide
        go_simp
        exact hK _ _ (KeptOut.refl _ _) ⟨(q : Int) - 1, by omega, by omega, rfl⟩ ⟨hkw, p3, by omega, hrd⟩
      | 3, _, ho, hd, hK =>
        obtain rfl := Option.some.inj ho
        go_simp
        have hB := Box.alloc W #[.int .i64 (-1), .int .i64 100000000] 3
        exact hK _ _ (.of_below (below_alloc _ _)) ⟨W.heap.size, rfl, by omega, (hB 0 _ rfl).1, (hB 1 _ rfl).1⟩ ⟨hkw.trans (.of_below (below_alloc _ _)), p3, by omega, hrd.below (below_alloc _ _)⟩
      | 4, _, ho, hd, hK =>
        obtain rfl := Option.some.inj ho
        have e : A.tmps.getD 5 undef = .pointer (some ⟨w.heap.size, 0, none⟩) := hs.keep (by kernel_rfl)
        go_simp
        exact hK _ _ (KeptOut.refl _ _) rfl ⟨hkw, p3, by omega, hrd⟩
      | 5, _, ho, hd, hK =>
        obtain rfl := Option.some.inj ho
        have e0 : A.tmps.getD 16 undef = .pointer (some ⟨w.heap.size, 0, none⟩) := hd ⟨4, .data⟩ (by simp) rfl
        go_simp
        refine (pick_any 2 _ w.heap.size a c1 l1 p3 (by omega) (by omega) (by omega) hrd).mono ?_
        rintro e w' ⟨q, rfl, q0, q1, h1, k1⟩
        obtain ⟨q, rfl⟩ := Int.eq_ofNat_of_zero_le q0
        have q2 := q1 (by omega)
        exact hK _ _ k1 ⟨q, by omega, rfl⟩ ⟨hkw.trans k1, p3 + 1, by omega, h1⟩
      | 6, _, ho, hd, hK =>
        obtain rfl := Option.some.inj ho
        obtain ⟨b9, e0, hb, hc0, hc1⟩ := (show FTwo w.heap.size (A.tmps.getD 15 undef) W from hd ⟨3, .data⟩ (by simp) rfl)
        obtain ⟨q, hq, e1⟩ := (show FNat 2 (A.tmps.getD 17 undef) from hd ⟨5, .data⟩ (by simp) rfl)
        have e0' := (Array.getD_eq_getD_getElem? ..).symm.trans e0
        have e1' := (Array.getD_eq_getD_getElem? ..).symm.trans e1
        have q0 : (0 : Int) ≤ (q : Int) := by omega
        have q1 : (q : Int) < 2 := by omega
        obtain ⟨z, hz1, hz2, hz⟩ : ∃ z : Int, -1 ≤ z ∧ z ≤ 100000000 ∧ W.cell? ⟨b9, q, none⟩ = some (.int .i64 z) := by
          rcases (show q = 0 ∨ q = 1 by omega) with rfl | rfl
          · exact ⟨-1, by omega, by omega, hc0⟩
          · exact ⟨100000000, by omega, by omega, hc1⟩
        go_simp
        exact hK _ _ (KeptOut.refl _ _) ⟨b9, q, z, hz1, hz2, by simp, hb, hz⟩ ⟨hkw, p3, by omega, hrd⟩
      | 7, _, ho, hd, hK =>
        obtain rfl := Option.some.inj ho
        obtain ⟨b9, o9, z, h1, h2, e0, hb, hz⟩ := (show FAt w.heap.size (A.tmps.getD 18 undef) W from hd ⟨6, .data⟩ (by simp) rfl)
        have e0' := (Array.getD_eq_getD_getElem? ..).symm.trans e0
        go_simp
        exact hK _ _ (KeptOut.refl _ _) ⟨z, h1, h2, rfl⟩ ⟨hkw, p3, by omega, hrd⟩
      | 8, _, ho, hd, hK =>
        obtain rfl := Option.some.inj ho
        have e : A.tmps.getD 5 undef = .pointer (some ⟨w.heap.size, 0, none⟩) := hs.keep (by kernel_rfl)
        go_simp
        exact hK _ _ (KeptOut.refl _ _) rfl ⟨hkw, p3, by omega, hrd⟩
      | 9, _, ho, hd, hK =>
        obtain rfl := Option.some.inj ho
        have e0 : A.tmps.getD 20 undef = .pointer (some ⟨w.heap.size, 0, none⟩) := hd ⟨8, .data⟩ (by simp) rfl
        go_simp
        refine (pick_any 2 _ w.heap.size a c1 l1 p3 (by omega) (by omega) (by omega) hrd).mono ?_
        rintro e w' ⟨q, rfl, q0, q1, h1, k1⟩
        obtain ⟨q, rfl⟩ := Int.eq_ofNat_of_zero_le q0
        have q2 := q1 (by omega)
        exact hK _ _ k1 ⟨q, by omega, rfl⟩ ⟨hkw.trans k1, p3 + 1, by omega, h1⟩
      | 10, _, ho, hd, hK =>
        obtain rfl := Option.some.inj ho
        obtain ⟨q, hq, e0⟩ := (show FNat 2 (A.tmps.getD 21 undef) from hd ⟨9, .data⟩ (by simp) rfl)
        have e0' := (Array.getD_eq_getD_getElem? ..).symm.trans e0
        have hw : IntKind.i64.wrap (2000 + (q : Int)) = ((2000 + q : Nat) : Int) := by rw [wrap_small _ (by omega) (by omega)]; omega
        go_simp
        exact hK _ _ (KeptOut.refl _ _) ⟨2000 + q, by omega, by first | rfl | simp⟩ ⟨hkw, p3, by omega, hrd⟩
      | 11, _, ho, hd, hK =>
        obtain rfl := Option.some.inj ho
        obtain ⟨q, hq, e0⟩ := (show ∃ q : Nat, q ≤ 2001 ∧ (A.tmps.getD 22 undef) = .int .i64 (q : Int) from hd ⟨10, .data⟩ (by simp) rfl)
        have e0' := (Array.getD_eq_getD_getElem? ..).symm.trans e0
        go_simp
        refine (many_any ⟨#[116]⟩ q _ (by decide) (by omega)).mono ?_
        rintro e w' ⟨⟨s, hs9, rfl⟩, rfl⟩
        have hs2 : s.size ≤ 2001 := by rw [hs9]; show 1 * q ≤ 2001; omega
        exact hK _ _ (KeptOut.refl _ _) ⟨s, hs2, rfl⟩ ⟨hkw, p3, by omega, hrd⟩
      | 12, _, ho, hd, hK =>
        obtain rfl := Option.some.inj ho
        obtain ⟨q, h1, h2, e0⟩ := (show FInt (-1) 2 (A.tmps.getD 14 undef) from hd ⟨2, .data⟩ (by simp) rfl)
        have e0' := (Array.getD_eq_getD_getElem? ..).symm.trans e0
        go_simp
        exact hK _ _ (KeptOut.refl _ _) ⟨q, h1, h2, rfl⟩ ⟨hkw, p3, by omega, hrd⟩
      | 13, _, ho, hd, hK =>
        obtain rfl := Option.some.inj ho
        obtain ⟨q, h1, h2, e0⟩ := (show FInt (-1) 100000000 (A.tmps.getD 19 undef) from hd ⟨7, .data⟩ (by simp) rfl)
        have e0' := (Array.getD_eq_getD_getElem? ..).symm.trans e0
        go_simp
        exact hK _ _ (KeptOut.refl _ _) ⟨q, h1, h2, rfl⟩ ⟨hkw, p3, by omega, hrd⟩
      | 14, _, ho, hd, hK =>
        obtain rfl := Option.some.inj ho
        obtain ⟨s9, hs9, e0⟩ := (show FStr (A.tmps.getD 23 undef) from hd ⟨11, .data⟩ (by simp) rfl)
        have e0' := (Array.getD_eq_getD_getElem? ..).symm.trans e0
        go_simp
        exact hK _ _ (KeptOut.refl _ _) ⟨s9, hs9, rfl⟩ ⟨hkw, p3, by omega, hrd⟩
      | n + 15, him, ho, hd, hK => omega
    case done =>
      intro A W _ hs hG hS
      obtain ⟨hkw, p3, hp3, hrd⟩ := hS
      obtain ⟨x2, h21, h22, k2⟩ := (show FInt (-1) 2 (at_ A 2) from hG 12 (by decide))
      obtain ⟨x3, h31, h32, k3⟩ := (show FInt (-1) 100000000 (at_ A 3) from hG 13 (by decide))
      obtain ⟨x4, h41, k4⟩ := (show FStr (at_ A 4) from hG 14 (by decide))
      have HB := Lib.hid (show Below w.heap.size w W from (K2.out.trans hkw).below B1.out B1.out.size (fun q hq => by omega))
      rw [act_lit (n := 56) hs.size hs.defers]
      change Exit.then _ _ _ { tmps := #[at_ A 0, at_ A 1, at_ A 2, at_ A 3, at_ A 4, at_ A 5, at_ A 6, at_ A 7, at_ A 8, at_ A 9, at_ A 10, at_ A 11, at_ A 12, at_ A 13, at_ A 14, at_ A 15, at_ A 16, at_ A 17, at_ A 18, at_ A 19, at_ A 20, at_ A 21, at_ A 22, at_ A 23, at_ A 24, at_ A 25, at_ A 26, at_ A 27, at_ A 28, at_ A 29, at_ A 30, at_ A 31, at_ A 32, at_ A 33, at_ A 34, at_ A 35, at_ A 36, at_ A 37, at_ A 38, at_ A 39, at_ A 40, at_ A 41, at_ A 42, at_ A 43, at_ A 44, at_ A 45, at_ A 46, at_ A 47, at_ A 48, at_ A 49, at_ A 50, at_ A 51, at_ A 52, at_ A 53, at_ A 54, at_ A 55], defers := [] } _
      (try dsimp only)
      rw [k2, k3, k4]
      generalize at_ A 0 = y0
      generalize at_ A 1 = y1
      generalize at_ A 5 = y5
      generalize at_ A 6 = y6
      generalize at_ A 7 = y7
      generalize at_ A 8 = y8
      generalize at_ A 9 = y9
      generalize at_ A 10 = y10
      generalize at_ A 11 = y11
      generalize at_ A 12 = y12
      generalize at_ A 13 = y13
      generalize at_ A 14 = y14
      generalize at_ A 15 = y15
      generalize at_ A 16 = y16
      generalize at_ A 17 = y17
      generalize at_ A 18 = y18
      generalize at_ A 19 = y19
      generalize at_ A 20 = y20
      generalize at_ A 21 = y21
      generalize at_ A 22 = y22
      generalize at_ A 23 = y23
      generalize at_ A 24 = y24
      generalize at_ A 25 = y25
      generalize at_ A 26 = y26
      generalize at_ A 27 = y27
      generalize at_ A 28 = y28
      generalize at_ A 29 = y29
      generalize at_ A 30 = y30
      generalize at_ A 31 = y31
      generalize at_ A 32 = y32
      generalize at_ A 33 = y33
      generalize at_ A 34 = y34
      generalize at_ A 35 = y35
      generalize at_ A 36 = y36
      generalize at_ A 37 = y37
      generalize at_ A 38 = y38
      generalize at_ A 39 = y39
      generalize at_ A 40 = y40
      generalize at_ A 41 = y41
      generalize at_ A 42 = y42
      generalize at_ A 43 = y43
      generalize at_ A 44 = y44
      generalize at_ A 45 = y45
      generalize at_ A 46 = y46
      generalize at_ A 47 = y47
      generalize at_ A 48 = y48
      generalize at_ A 49 = y49
      generalize at_ A 50 = y50
      generalize at_ A 51 = y51
      generalize at_ A 52 = y52
      generalize at_ A 53 = y53
      generalize at_ A 54 = y54
      generalize at_ A 55 = y55
      clear hG hs k2 k3 k4
      go_wp2
      go_returns
      exact ⟨x2, x3, x4, rfl, by omega, by omega, by omega, HB.out⟩
    case last =>
      intro o A W K ho
      exact absurd ho (by simp)
  · have e1 : ¬ (n : Int) = 0 := by omega
    have e2 : ((n : Int) == 0) = false := by rw [beq_eq_false_iff_ne]; omega
    have e3 : (n == 0) = false := by rw [beq_eq_false_iff_ne]; omega
    go_wp2_with fail
    refine (pick_any 2 _ w.heap.size a c1 l1 (0 + 1) (by omega) (by omega) (by omega) H2.out).mono ?_
    rintro e w3 ⟨q, rfl, q0, q1, h3, k3⟩
    have z3 := k3.size
    obtain ⟨m, rfl⟩ := Int.eq_ofNat_of_zero_le q0
    have H3 := Lib.hid h3
    have K3 := Lib.hid (K2.out.trans k3)
    clear h3 k3 q0 q1 H2 K2
    by_cases hm : m = 0
    · subst hm
      go_wp2_with fail
      refine (of_any _ w.heap.size a c1 l1 (0 + 1 + 1) (by omega) (H3.out.below (below_alloc w3 _)) w3.heap.size 0 3 litP3 (by decide) (by decide) (by omega) (lit_cells w3 litP3 _)).mono ?_
      rintro e w4 ⟨x, hx, rfl, h4, k4⟩
      have hx5 := litP3_size x hx
      have z4 := k4.size
      rw [World.size_alloc] at z4
      have H4 := Lib.hid h4
      have K4 := Lib.hid ((K3.out.trans (KeptOut.of_below (S := fun b => b = w.heap.size) (below_alloc w3 (.cells (litP3.map Value.string).toArray 9)))).trans k4)
      clear h4 k4 hx H3 K3
      go_wp2_with fail
      refine (pick_any 60 _ w.heap.size a c1 l1 (0 + 1 + 1 + 1) (by omega) (by omega) (by omega) H4.out).mono ?_
      rintro e w5 ⟨u, rfl, u0, u1, h5, k5⟩
      have u2 := u1 (by omega)
      obtain ⟨u, rfl⟩ := Int.eq_ofNat_of_zero_le u0
      have z5 := k5.size
      have H5 := Lib.hid h5
      have K5 := Lib.hid (K4.out.trans k5)
      clear h5 k5 u1 u0 H4 K4
      go_wp2_with fail
      rw [show (28 + (u : Int)) = ((28 + u : Nat) : Int) by omega]
      refine (many_any x (28 + u) _ (by omega) (by omega)).mono ?_
      rintro e w6 ⟨⟨y, hy, rfl⟩, rfl⟩
      have hy2 : y.size ≤ 440 := by
        have h1 : x.size * (28 + u) ≤ 5 * 88 := Nat.mul_le_mul hx5 (by omega)
        omega
      clear hy
      go_wp2_with fail
      refine (l12Text_any _ w.heap.size a c1 l1 (0 + 1 + 1 + 1 + 1) (by omega) H5.out).mono ?_
      rintro e w7 ⟨s, rfl, hs, h7, k7⟩
      have z7 := k7.size
      have H7 := Lib.hid h7
      have K7 := Lib.hid (K5.out.trans k7)
      clear h7 k7 H5 K5
      go_wp2_with fail
      refine (pick_any 9 _ w.heap.size a c1 l1 (0 + 1 + 1 + 1 + 1 + 1) (by omega) (by omega) (by omega) H7.out).mono ?_
      rintro e w8 ⟨t, rfl, t0, t1, h8, k8⟩
      have t2 := t1 (by omega)
      have z8 := k8.size
      have H8 := Lib.hid h8
      have K8 := Lib.hid (K7.out.trans k8)
      clear h8 k8 t1 H7 K7
      go_wp2_with fail
      refine (pick_any 99 _ w.heap.size a c1 l1 (0 + 1 + 1 + 1 + 1 + 1 + 1) (by omega) (by omega) (by omega) H8.out).mono ?_
      rintro e w9 ⟨v, rfl, v0, v1, h9, k9⟩
      have v2 := v1 (by omega)
      have z9 := k9.size
      have H9 := Lib.hid h9
      have K9 := Lib.hid (K8.out.trans k9)
      clear h9 k9 v1 H8 K8
      go_wp2_with fail
      refine (of_any _ w.heap.size a c1 l1 (0 + 1 + 1 + 1 + 1 + 1 + 1 + 1) (by omega) (H9.out.below (below_alloc w9 _)) w9.heap.size 0 2 litX2 (by decide) (by decide) (by omega) (lit_cells w9 litX2 _)).mono ?_
      rintro e w10 ⟨x2, hx2, rfl, h10, k10⟩
      have hx6 := litX2_size x2 hx2
      have z10 := k10.size
      rw [World.size_alloc] at z10
      have H10 := Lib.hid h10
      have K10 := Lib.hid ((K9.out.trans (KeptOut.of_below (S := fun b => b = w.heap.size) (below_alloc w9 (.cells (litX2.map Value.string).toArray 9)))).trans k10)
      clear h10 k10 hx2 H9 K9
      go_wp2_with fail
      refine (pick_any 90 _ w.heap.size a c1 l1 (0 + 1 + 1 + 1 + 1 + 1 + 1 + 1 + 1) (by omega) (by omega) (by omega) H10.out).mono ?_
      rintro e w11 ⟨g, rfl, g0, g1, h11, k11⟩
      have g2 := g1 (by omega)
      obtain ⟨g, rfl⟩ := Int.eq_ofNat_of_zero_le g0
      have HB := Lib.hid (show Below w.heap.size w w11 from (K10.out.trans k11).below B1.out B1.out.size (fun q hq => by omega))
      clear h11 k11 g1 g0 H10 K10
      go_wp2_with fail
      rw [show (100 + (g : Int)) = ((100 + g : Nat) : Int) by omega]
      refine (many_any x2 (100 + g) _ (by omega) (by omega)).mono ?_
      rintro e w12 ⟨⟨y2, hy3, rfl⟩, rfl⟩
      have hy4 : y2.size ≤ 190 := by
        have h1 : x2.size * (100 + g) ≤ 1 * 190 := Nat.mul_le_mul hx6 (by omega)
        omega
      clear hy3
      go_wp2
      go_returns
      exact ⟨t, v, y ++ s ++ y2, rfl, by omega, by omega, by rw [ByteArray.size_append, ByteArray.size_append]; omega, HB.out⟩
    · have d1 : ¬ (m : Int) = 0 := by omega
      have d2 : ((m : Int) == 0) = false := by rw [beq_eq_false_iff_ne]; omega
      have d3 : (m == 0) = false := by rw [beq_eq_false_iff_ne]; omega
      go_wp2_with fail
      refine (pick_any 9 _ w.heap.size a c1 l1 (0 + 1 + 1) (by omega) (by omega) (by omega) H3.out).mono ?_
      rintro e w4 ⟨t, rfl, t0, t1, h4, k4⟩
      have t2 := t1 (by omega)
      have z4 := k4.size
      have H4 := Lib.hid h4
      have K4 := Lib.hid (K3.out.trans k4)
      clear h4 k4 t1 H3 K3
      go_wp2_with fail
      refine (pick_any 99 _ w.heap.size a c1 l1 (0 + 1 + 1 + 1) (by omega) (by omega) (by omega) H4.out).mono ?_
      rintro e w5 ⟨u, rfl, u0, u1, h5, k5⟩
      have u2 := u1 (by omega)
      have z5 := k5.size
      have H5 := Lib.hid h5
      have K5 := Lib.hid (K4.out.trans k5)
      clear h5 k5 u1 H4 K4
      go_wp2_with fail
      refine (l12Text_any _ w.heap.size a c1 l1 (0 + 1 + 1 + 1 + 1) (by omega) H5.out).mono ?_
      rintro e w6 ⟨s, rfl, hs, h6, k6⟩
      have HB := Lib.hid (show Below w.heap.size w w6 from (K5.out.trans k6).below B1.out B1.out.size (fun q hq => by omega))
      clear h6 k6 H5 K5
      go_wp2
      go_returns
      exact ⟨t, u, s, rfl, by omega, by omega, by omega, HB.out⟩
end Go.Proofs.YtgjfflfldddebaaDoor
