import Derived.Test.YthbhgeifknkolaaDoorDrawSp
import Derived.Test.YthbhgeifknkolaaDoorBytesOpen
import Derived.Test.YthbhgeifknkolaaDoorShape
import Derived.Deep.RegionHeld3
/- One drawn space: l13Space, DrawSpaceWrite. -/
namespace Go.Proofs.YthbhgeifknkolaaDoor
open Go Go.RowKit

def agD (x : SpaceD) : Value := .agg #[.string x.1, .string x.2.1, .int .i64 x.2.2.1, .bool x.2.2.2.1, .int .i64 x.2.2.2.2]
def SpcPost (w : World) (r : Nat) (a : Option Addr) (c : Nat) (l : List UInt8) (p : Nat) (e : Ending) (w' : World) : Prop :=
  ∃ (x : SpaceD) (p' : Nat), e = .returned (agD x) ∧ x.1.size ≤ 3000 ∧ x.2.1.size ≤ 3000 ∧ Rd w' r a c l p' ∧ p' ≤ p + 151 ∧ KeptOut (fun b => b = r) w w'
set_option maxRecDepth 100000 in
set_option maxHeartbeats 4000000 in
theorem l13Space_any (w : World) (r : Nat) (a : Option Addr) (c : Nat) (l : List UInt8) (p : Nat) (hp : p ≤ 10000000) (h : Rd w r a c l p) :
    Calls Tryd.prog 11 #[.pointer (some ⟨r, 0, none⟩)] w (SpcPost w r a c l p) := by
  have hr : r < w.heap.size := h.lt
  have HAR := Lib.hid (rd_har h)
  obtain ⟨w1, hA⟩ : ∃ wA, w.alloc (.cells #[.string ⟨#[]⟩, .string ⟨#[]⟩, .int .i64 0, .bool false, .int .i64 0] 26) = wA := ⟨_, rfl⟩
  have BX := Lib.hid (show Box w1 w.heap.size [.string ⟨#[]⟩, .string ⟨#[]⟩, .int .i64 0, .bool false, .int .i64 0] by rw [← hA]; exact Box.alloc w _ _)
  have B1 := Lib.hid (show Below w.heap.size w w1 by rw [← hA]; exact below_alloc _ _)
  have z1 : w1.heap.size = w.heap.size + 1 := by rw [← hA, World.size_alloc]
  have HR := Lib.hid (h.below B1.out)
  have HA := Lib.hid hA
  clear h hA
  go_enter Tryd.func11, Tryd.ntmps11
  go_wp2_with fail
  rw [HA.out]
  refine (l13Spaces_any _ r a c l p (by omega) HR.out).mono ?_
  rintro e w2 ⟨v, L, p2, rfl, o, hE, hn0, hn, h2, hp2, k2⟩
  obtain ⟨b, cb, rfl⟩ := own_shape o
  have z2 := k2.size
  have O := Lib.hid o
  have HE := Lib.hid hE
  have H2 := Lib.hid h2
  have K2 := Lib.hid k2
  clear o hE h2 k2
  go_wp2_with fail
  refine (pick_any (L.length : Int) _ r a c l p2 (by omega) (by omega) (by omega) H2.out).mono ?_
  rintro e w3 ⟨k, rfl, k0, k1, h3, k3⟩
  have k4 := k1 (by omega)
  have z3 := k3.size
  obtain ⟨k, rfl⟩ := Int.eq_ofNat_of_zero_le k0
  have hkl : k < L.length := by omega
  have HL3 := Lib.hid (own_el encSpace_len (by unfold maxLen; omega) (own_kept O.out k3 (fun q hq e => by have := (O.out.lt q hq).1; omega)))
  have BX3 := Lib.hid ((BX.out.kept K2.out (by omega)).kept k3 (by omega))
  have K3 := Lib.hid (((KeptOut.of_below (S := fun b => b = r) B1.out).trans K2.out).trans k3)
  have H3 := Lib.hid h3
  obtain ⟨bb, ob, rfl, hcb⟩ := HL3.out.2.resolve_left (fun e => by rw [e] at hkl; simp at hkl)
  obtain ⟨c0, c1, c2, c3, c4⟩ := cellsSpace (Below.refl _ _) hcb k hkl
  obtain ⟨⟨y0, f0⟩, ⟨y1, f1⟩, ⟨y2, f2⟩, ⟨y3, f3⟩, y4, f4⟩ := show _ ∧ _ ∧ _ ∧ _ ∧ _ from ⟨BX3.out 0 _ rfl, BX3.out 1 _ rfl, BX3.out 2 _ rfl, BX3.out 3 _ rfl, BX3.out 4 _ rfl⟩
  have hx := HE.out _ (List.getElem_mem hkl)
  obtain ⟨X, hX⟩ : ∃ X, L[k] = X := ⟨_, rfl⟩
  rw [hX] at c0 c1 c2 c3 c4 hx
  have hki : (k : Int) < (L.length : Int) := by omega
  have hk0 : (0 : Int) ≤ (k : Int) := by omega
  clear h3 k3 k0 k1 hX
  go_wp2
  have KT : KeptOut (fun b => b = w.heap.size) w3 (((((w3.setCell ⟨w.heap.size, 0, none⟩ (.string X.1)).setCell ⟨w.heap.size, 1, none⟩ (.string X.2.1)).setCell ⟨w.heap.size, 2, none⟩ (.int .i64 X.2.2.1)).setCell ⟨w.heap.size, 3, none⟩ (.bool X.2.2.2.1)).setCell ⟨w.heap.size, 4, none⟩ (.int .i64 X.2.2.2.2)) := by
    repeat (first | with_reducible exact KeptOut.refl _ _ | refine KeptOut.setCell ?_ (by exact rfl) _)
  exact bodyPost_ret (v := agD X) (by simp [results, Tryd.results11, go_sem, agD, y0, y1, y2, y3, y4]) rfl ⟨X, p2 + 1, rfl, hx.1, hx.2, H3.out.kept2 KT (by omega) (fun hl x hx e => by have := HAR.out hl x hx; omega), by omega, K3.out.step KT (fun b hb => .inl (by omega))⟩

def SpwDraw (w : World) (e : Ending) (w' : World) : Prop := ∃ x : SpaceD, e = .returned (agD x) ∧ x.1.size ≤ 3000 ∧ x.2.1.size ≤ 3000 ∧ Below w.heap.size w w'
set_option maxRecDepth 100000 in
set_option maxHeartbeats 4000000 in
theorem drawSpW_any (a : Option Addr) (c : Nat) (l : List UInt8) (w : World) (hl : l.length ≤ c) (hc : c ≤ maxLen) (h : BytesS w a l) :
    Calls Tryd.prog 8 #[.slice a l.length c] w (SpwDraw w) := by
  obtain ⟨w1, hA⟩ : ∃ wA, w.alloc (.cells #[.string ⟨#[]⟩, .string ⟨#[]⟩, .int .i64 0, .bool false, .int .i64 0] 26) = wA := ⟨_, rfl⟩
  have BX := Lib.hid (show Box w1 w.heap.size [.string ⟨#[]⟩, .string ⟨#[]⟩, .int .i64 0, .bool false, .int .i64 0] by rw [← hA]; exact Box.alloc w _ _)
  have B1 := Lib.hid (show Below w.heap.size w w1 by rw [← hA]; exact below_alloc _ _)
  have z1 : w1.heap.size = w.heap.size + 1 := by rw [← hA, World.size_alloc]
  have HZ1 := Lib.hid z1
  have HA := Lib.hid hA
  clear hA z1
  go_enter Tryd.func8, Tryd.ntmps8
  go_wp2_with fail
  rw [HA.out]
  refine (open_any a c l _ hl hc (bytes_below B1.out h)).mono ?_
  rintro e w2 ⟨c1, l1, rfl, h1, b1⟩
  have z2 : w1.heap.size < w2.heap.size := h1.lt
  have H1 := Lib.hid h1
  have BX2 := Lib.hid (BX.out.below b1)
  have B2 := Lib.hid (B1.out.trans (b1.mono B1.out.size))
  clear h1 b1
  go_wp2_with fail
  refine (l13Space_any _ w1.heap.size a c1 l1 0 (by omega) H1.out).mono ?_
  rintro e w3 ⟨x, p3, rfl, hx0, hx1, h3, hp3, k3⟩
  have z3 := k3.size
  have BX3 := Lib.hid (BX2.out.kept k3 (by have := HZ1.out; omega))
  have B3 := Lib.hid (k3.below B2.out B2.out.size (fun b hb => by have := HZ1.out; omega))
  have H3 := Lib.hid h3
  clear h3 k3
  unfold agD
  dsimp only
  go_wp2_with fail
  obtain ⟨w4, hw4⟩ : ∃ W, w3.alloc (.cells #[.string x.1, .string x.2.1, .int .i64 x.2.2.1, .bool x.2.2.2.1, .int .i64 x.2.2.2.2] 26) = W := ⟨_, rfl⟩
  have B34 := Lib.hid (show Below w3.heap.size w3 w4 by rw [← hw4]; exact below_alloc _ _)
  have BS4 := Lib.hid (show Box w4 w3.heap.size [.string x.1, .string x.2.1, .int .i64 x.2.2.1, .bool x.2.2.2.1, .int .i64 x.2.2.2.2] by rw [← hw4]; exact Box.alloc w3 _ _)
  have hz4 : w3.heap.size < w4.heap.size := by rw [← hw4, World.size_alloc]; omega
  rw [hw4]
  clear hw4
  refine (pick_any 6 _ w1.heap.size a c1 l1 p3 (by omega) (by omega) (by omega) (H3.out.below B34.out)).mono ?_
  rintro e w5 ⟨n, rfl, n0, n1, h5, k5⟩
  have z5 := k5.size
  have BS5 := Lib.hid (BS4.out.kept k5 (by omega))
  have BX5 := Lib.hid ((BX3.out.below B34.out).kept k5 (by have := HZ1.out; omega))
  have B5 := Lib.hid (k5.below (B3.out.trans (B34.out.mono B3.out.size)) (B3.out.trans (B34.out.mono B3.out.size)).size (fun b hb => by have := HZ1.out; omega))
  have H5 := Lib.hid h5
  obtain ⟨n, rfl⟩ := Int.eq_ofNat_of_zero_le n0
  clear h5 k5 n0 n1
  obtain ⟨⟨x0, g0⟩, ⟨x1, g1⟩, ⟨x2, g2⟩, ⟨x3, g3⟩, x4, g4⟩ := show _ ∧ _ ∧ _ ∧ _ ∧ _ from ⟨BS5.out 0 _ rfl, BS5.out 1 _ rfl, BS5.out 2 _ rfl, BS5.out 3 _ rfl, BS5.out 4 _ rfl⟩
  obtain ⟨⟨y0, f0⟩, ⟨y1, f1⟩, ⟨y2, f2⟩, ⟨y3, f3⟩, y4, f4⟩ := show _ ∧ _ ∧ _ ∧ _ ∧ _ from ⟨BX5.out 0 _ rfl, BX5.out 1 _ rfl, BX5.out 2 _ rfl, BX5.out 3 _ rfl, BX5.out 4 _ rfl⟩
  by_cases hn : n = 0
  rotate_left
  · have hni : ((n : Int) == 0) = false := by rw [beq_eq_false_iff_ne]; omega
    have hnn : (n == 0) = false := by rw [beq_eq_false_iff_ne]; exact hn
    have hn2 : ¬ (n : Int) = 0 := by omega
    go_wp2
    exact bodyPost_ret (v := agD x) (by simp [results, Tryd.results8, go_sem, agD, y0, y1, y2, y3, y4]) rfl ⟨x, rfl, hx0, hx1, (((((B5.out.setCell (Nat.le_refl _) _).setCell (Nat.le_refl _) _).setCell (Nat.le_refl _) _).setCell (Nat.le_refl _) _).setCell (Nat.le_refl _) _)⟩
  subst hn
  go_wp2_with fail
  obtain ⟨w6, hw6⟩ : ∃ W, w5.alloc (.cells #[.int .i64 (-2), .int .i64 99999] 3) = W := ⟨_, rfl⟩
  have B56 := Lib.hid (show Below w5.heap.size w5 w6 by rw [← hw6]; exact below_alloc _ _)
  have BI6 := Lib.hid (show Box w6 w5.heap.size [.int .i64 (-2), .int .i64 99999] by rw [← hw6]; exact Box.alloc w5 _ _)
  have hz6 : w5.heap.size < w6.heap.size := by rw [← hw6, World.size_alloc]; omega
  rw [hw6]
  clear hw6 x0 x1 x2 x3 x4 g0 g1 g2 g3 g4 y0 y1 y2 y3 y4 f0 f1 f2 f3 f4
  refine (pick_any 2 _ w1.heap.size a c1 l1 (p3 + 1) (by omega) (by omega) (by omega) (H5.out.below B56.out)).mono ?_
  rintro e w7 ⟨m, rfl, m0, m1, h7, k7⟩
  have m2 := m1 (by omega)
  have z7 := k7.size
  have z01 : w.heap.size < w1.heap.size := by have := HZ1.out; omega
  have BS7 := (BS5.out.below B56.out).kept k7 (by omega)
  have BX7 := (BX5.out.below B56.out).kept k7 (by omega)
  have BI7 := BI6.out.kept k7 (by omega)
  have B6 := B5.out.trans (B56.out.mono B5.out.size)
  have B7 := Lib.hid (k7.below B6 B6.size (fun b hb => by omega))
  obtain ⟨m, rfl⟩ := Int.eq_ofNat_of_zero_le m0
  have i0 := (BI7 0 _ rfl).1
  have i1 := (BI7 1 _ rfl).1
  clear h7 k7 m0 m1 BI7 B6
  obtain ⟨⟨x0, g0⟩, ⟨x1, g1⟩, ⟨x2, g2⟩, ⟨x3, g3⟩, x4, g4⟩ := show _ ∧ _ ∧ _ ∧ _ ∧ _ from ⟨BS7 0 _ rfl, BS7 1 _ rfl, BS7 2 _ rfl, BS7 3 _ rfl, BS7 4 _ rfl⟩
  obtain ⟨⟨y0, f0⟩, ⟨y1, f1⟩, ⟨y2, f2⟩, ⟨y3, f3⟩, y4, f4⟩ := show _ ∧ _ ∧ _ ∧ _ ∧ _ from ⟨BX7 0 _ rfl, BX7 1 _ rfl, BX7 2 _ rfl, BX7 3 _ rfl, BX7 4 _ rfl⟩
  have hne : w3.heap.size ≠ w.heap.size := by omega
  have hne2 : w.heap.size ≠ w3.heap.size := by omega
  rcases (show m = 0 ∨ m = 1 by omega) with rfl | rfl
  · go_wp2
    exact bodyPost_ret (v := agD (x.1, x.2.1, -2, x.2.2.2.1, x.2.2.2.2)) (by simp [results, Tryd.results8, go_sem, agD, y0, y1, y2, y3, y4]) rfl ⟨_, rfl, hx0, hx1, ((((((B7.out.setCell (p := ⟨w3.heap.size, 2, none⟩) (show w.heap.size ≤ w3.heap.size by omega) _).setCell (Nat.le_refl _) _).setCell (Nat.le_refl _) _).setCell (Nat.le_refl _) _).setCell (Nat.le_refl _) _).setCell (Nat.le_refl _) _)⟩
  · go_wp2
    exact bodyPost_ret (v := agD (x.1, x.2.1, 99999, x.2.2.2.1, x.2.2.2.2)) (by simp [results, Tryd.results8, go_sem, agD, y0, y1, y2, y3, y4]) rfl ⟨_, rfl, hx0, hx1, ((((((B7.out.setCell (p := ⟨w3.heap.size, 2, none⟩) (show w.heap.size ≤ w3.heap.size by omega) _).setCell (Nat.le_refl _) _).setCell (Nat.le_refl _) _).setCell (Nat.le_refl _) _).setCell (Nat.le_refl _) _).setCell (Nat.le_refl _) _)⟩
end Go.Proofs.YthbhgeifknkolaaDoor
