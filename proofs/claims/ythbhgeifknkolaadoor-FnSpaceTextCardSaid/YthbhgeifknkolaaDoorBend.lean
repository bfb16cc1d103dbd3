import Derived.Test.YthbhgeifknkolaaDoorPick
import Derived.Test.YthbhgeifknkolaaDoorKept
import Derived.Test.YthbhgeifknkolaaDoorSlotsW
/- A text bent at one place, or not: l12Bend at any list of short words. -/
namespace Go.Proofs.YthbhgeifknkolaaDoor
open Go Go.RowKit

/-- text bent at one place, or not -/
def BendP (w : World) (r m : Nat) (a : Option Addr) (c : Nat) (l : List UInt8) (p : Nat) (e : Ending) (w' : World) : Prop := ∃ (s : ByteArray) (p' : Nat), e = .returned (.string s) ∧ s.size ≤ m ∧ Rd w' r a c l p' ∧ p' ≤ p + 30 ∧ KeptOut (fun b => b = r) w w'
def GBend (nl : Nat) (r : Nat) (s : ByteArray) (k : Nat) (bl : Nat) : Nat → Value → World → Prop
  | 0, v, _ | 7, v, _ => v = .string s
  | 1, v, _ | 8, v, _ => v = .int .i64 (k : Int)
  | 2, v, _ => v = .string (s.extract 0 k)
  | 3, v, _ => v = .pointer (some ⟨r, 0, none⟩)
  | 4, v, _ => v = .slice (some ⟨bl, 0, none⟩) nl nl
  | 5, v, _ => ∃ x : ByteArray, x.size ≤ 1 ∧ v = .string x
  | 6, v, _ => ∃ x : ByteArray, x.size ≤ s.size + 1 ∧ v = .string x
  | 9, v, _ => v = .string (s.extract k s.size)
  | 10, v, _ => ∃ x : ByteArray, x.size ≤ 2 * s.size + 1 ∧ v = .string x
  | 11, v, _ => ∃ x : ByteArray, x.size ≤ 2 * s.size + 1 ∧ v = .string x
  | _, _, _ => True
def SBend (LT : List ByteArray) (w0 : World) (r : Nat) (a : Option Addr) (c : Nat) (l : List UInt8) (p bl : Nat) (k : Nat) (w : World) : Prop := KeptOut (fun b => b = r) w0 w ∧ (∀ j (h : j < LT.length), w.cell? ⟨bl, 0 + j, none⟩ = some (.string LT[j])) ∧ ∃ p', p' + k ≤ p ∧ Rd w r a c l p'
set_option maxRecDepth 100000 in
set_option maxHeartbeats 2000000 in
theorem bend_any (LT : List ByteArray) (nl : Nat) (cs : Int) (hnl : LT.length = nl) (hnl0 : 0 < nl) (hnl1 : nl ≤ 100) (hLT : ∀ s ∈ LT, s.size ≤ 1) (hcs0 : 0 < cs) (hcs1 : cs ≤ 100) (w : World) (r : Nat) (a : Option Addr) (c : Nat) (l : List UInt8) (p : Nat) (hp : p ≤ 1000000) (h : Rd w r a c l p) (s : ByteArray) (hs : s.size ≤ 100000) (bl : Nat) (hbl : bl ≠ r) (hcl : ∀ j (h : j < LT.length), w.cell? ⟨bl, 0 + j, none⟩ = some (.string LT[j])) :
    Calls Tryd.prog 12 #[.pointer (some ⟨r, 0, none⟩), .string s, .slice (some ⟨bl, 0, none⟩) nl nl, .int .i64 cs] w (BendP w r (2 * s.size + 1) a c l p) := by
  have hr : r < w.heap.size := h.lt
  have HNL := Lib.hid hnl
  have HR := Lib.hid h
  have HC := Lib.hid hcl
  have hblw : bl < w.heap.size := by have := World.block_lt_of_cell? w _ (hcl 0 (by omega)); simpa using this
  clear h hcl hnl
  go_enter Tryd.func12, Tryd.ntmps12
  go_wp2_with fail
  refine (pick_any cs _ r a c l p (by omega) (by omega) (by omega) HR.out).mono ?_
  rintro e w1 ⟨q, rfl, q0, q1, h1, k1⟩
  have z1 := k1.size
  obtain ⟨n, rfl⟩ := Int.eq_ofNat_of_zero_le q0
  have H1 := Lib.hid h1
  have K1 := Lib.hid k1
  have HC1 := Lib.hid (show ∀ j (h : j < LT.length), w1.cell? ⟨bl, 0 + j, none⟩ = some (.string LT[j]) from fun j hj => (k1.cell (p := ⟨bl, 0 + j, none⟩) hblw hbl).trans (HC.out j hj))
  clear h1 k1 q0 q1 HR HC
  by_cases hn : 0 < n
  · have hni : (0 : Int) < (n : Int) := by omega
    go_wp2
    go_ret
    exact ⟨s, p + 1, rfl, by omega, H1.out, by omega, K1.out⟩
  · have hn0 : n = 0 := by omega
    subst hn0
    go_wp2_with fail
    rw [show ((s.size : Int) + 1) = ((s.size + 1 : Nat) : Int) by omega]
    refine (pick_any (s.size + 1 : Nat) _ r a c l (p + 1) (by omega) (by omega) (by omega) H1.out).mono ?_
    rintro e w2 ⟨k, rfl, k0, k1, h2, k2⟩
    have k3 := k1 (by omega)
    have z2 := k2.size
    obtain ⟨k, rfl⟩ := Int.eq_ofNat_of_zero_le k0
    have hks : k ≤ s.size := by omega
    have H2 := Lib.hid h2
    have K2 := Lib.hid (K1.out.trans k2)
    have HC2 := Lib.hid (show ∀ j (h : j < LT.length), w2.cell? ⟨bl, 0 + j, none⟩ = some (.string LT[j]) from fun j hj => (k2.cell (p := ⟨bl, 0 + j, none⟩) (by show bl < w1.heap.size; omega) hbl).trans (HC1.out j hj))
    clear h2 k2 k0 k1 H1 HC1
    go_wp2_with fail
    refine wp_region_slotsW (G := GBend nl r s k bl) (S := SBend LT w2 r a c l (p + 20) bl) (by kernel_rfl) 12 31 rfl (by kernel_rfl) (fun W W' => KeptOut (fun b => b = r) W W') (fun i v W W' h _ => by unfold GBend at h ⊢; split at h <;> exact h) ⟨(KeptOut.refl _ _).drew, HC2.out, p + 1 + 1, by simp, H2.out⟩ ?step ?done ?last
    case step =>
      intro i o A W kk K him ho hs0 hd hS hK
      obtain ⟨hkw, hcw, p3, hp3, hrd⟩ := hS
      have hr2 : r < W.heap.size := hrd.lt
      have hszW := hkw.size
      match i, him, ho, hd, hK with
      | 0, _, ho, hd, hK =>
        obtain rfl := Option.some.inj ho
        have e : A.tmps.getD 1 undef = .string s := hs0.keep (by kernel_rfl)
        go_simp
        exact hK _ _ (KeptOut.refl _ _) rfl ⟨hkw, hcw, p3, by omega, hrd⟩
      | 1, _, ho, hd, hK =>
        obtain rfl := Option.some.inj ho
        have e : A.tmps.getD 9 undef = .int .i64 (k : Int) := hs0.keep (by kernel_rfl)
        go_simp
        exact hK _ _ (KeptOut.refl _ _) rfl ⟨hkw, hcw, p3, by omega, hrd⟩
      | 2, _, ho, hd, hK =>
        obtain rfl := Option.some.inj ho
        have e0 : A.tmps.getD 20 undef = .string s := hd ⟨0, .data⟩ (by simp) rfl
        have e1 : A.tmps.getD 21 undef = .int .i64 (k : Int) := hd ⟨1, .data⟩ (by simp) rfl
        have k0 : (0 : Int) ≤ (k : Int) := by omega
        have k1 : (k : Int) ≤ (s.size : Int) := by omega
        go_simp
        exact hK _ _ (KeptOut.refl _ _) (by first | rfl | simp) ⟨hkw, hcw, p3, by omega, hrd⟩
      | 3, _, ho, hd, hK =>
        obtain rfl := Option.some.inj ho
        have e : A.tmps.getD 0 undef = .pointer (some ⟨r, 0, none⟩) := hs0.keep (by kernel_rfl)
        go_simp
        exact hK _ _ (KeptOut.refl _ _) rfl ⟨hkw, hcw, p3, by omega, hrd⟩
      | 4, _, ho, hd, hK =>
        obtain rfl := Option.some.inj ho
        have e : A.tmps.getD 2 undef = .slice (some ⟨bl, 0, none⟩) nl nl := hs0.keep (by kernel_rfl)
        go_simp
        exact hK _ _ (KeptOut.refl _ _) rfl ⟨hkw, hcw, p3, by omega, hrd⟩
      | 5, _, ho, hd, hK =>
        obtain rfl := Option.some.inj ho
        have e0 : A.tmps.getD 23 undef = .pointer (some ⟨r, 0, none⟩) := hd ⟨3, .data⟩ (by simp) rfl
        have e1 : A.tmps.getD 24 undef = .slice (some ⟨bl, 0, none⟩) nl nl := hd ⟨4, .data⟩ (by simp) rfl
        go_simp
        have hof := of_any W r a c l p3 (by omega) hrd bl 0 nl LT (by have := HNL.out; omega) (by have := HNL.out; omega) hbl hcw
        rw [HNL.out] at hof
        refine hof.mono ?_
        rintro e w' ⟨x, hx, rfl, h1, k1⟩
        exact hK _ _ k1 ⟨x, hLT x hx, rfl⟩ ⟨hkw.trans k1, fun j hj => (k1.cell (p := ⟨bl, 0 + j, none⟩) (by show bl < W.heap.size; omega) hbl).trans (hcw j hj), p3 + 1, by omega, h1⟩
      | 6, _, ho, hd, hK =>
        obtain rfl := Option.some.inj ho
        have e0 : A.tmps.getD 22 undef = .string (s.extract 0 k) := hd ⟨2, .data⟩ (by simp) rfl
        have e0' := (Array.getD_eq_getD_getElem? ..).symm.trans e0
        obtain ⟨x, hx, e1⟩ := (show ∃ x : ByteArray, x.size ≤ 1 ∧ (A.tmps.getD 25 undef) = .string x from hd ⟨5, .data⟩ (by simp) rfl)
        have e1' := (Array.getD_eq_getD_getElem? ..).symm.trans e1
        have hcat : ¬ 9223372036854775807 < k + x.size := by omega
        go_simp
        exact hK _ _ (KeptOut.refl _ _) ⟨s.extract 0 k ++ x, by rw [ByteArray.size_append, ByteArray.size_extract]; omega, rfl⟩ ⟨hkw, hcw, p3, by omega, hrd⟩
      | 7, _, ho, hd, hK =>
        obtain rfl := Option.some.inj ho
        have e : A.tmps.getD 1 undef = .string s := hs0.keep (by kernel_rfl)
        go_simp
        exact hK _ _ (KeptOut.refl _ _) rfl ⟨hkw, hcw, p3, by omega, hrd⟩
      | 8, _, ho, hd, hK =>
        obtain rfl := Option.some.inj ho
        have e : A.tmps.getD 9 undef = .int .i64 (k : Int) := hs0.keep (by kernel_rfl)
        go_simp
        exact hK _ _ (KeptOut.refl _ _) rfl ⟨hkw, hcw, p3, by omega, hrd⟩
      | 9, _, ho, hd, hK =>
        obtain rfl := Option.some.inj ho
        have e0 : A.tmps.getD 27 undef = .string s := hd ⟨7, .data⟩ (by simp) rfl
        have e1 : A.tmps.getD 28 undef = .int .i64 (k : Int) := hd ⟨8, .data⟩ (by simp) rfl
        have k0 : (0 : Int) ≤ (k : Int) := by omega
        have k1 : (k : Int) ≤ (s.size : Int) := by omega
        go_simp
        exact hK _ _ (KeptOut.refl _ _) (by first | rfl | simp) ⟨hkw, hcw, p3, by omega, hrd⟩
      | 10, _, ho, hd, hK =>
        obtain rfl := Option.some.inj ho
        obtain ⟨x, hx, e0⟩ := (show ∃ x : ByteArray, x.size ≤ s.size + 1 ∧ (A.tmps.getD 26 undef) = .string x from hd ⟨6, .data⟩ (by simp) rfl)
        have e0' := (Array.getD_eq_getD_getElem? ..).symm.trans e0
        have e1 : A.tmps.getD 29 undef = .string (s.extract k s.size) := hd ⟨9, .data⟩ (by simp) rfl
        have e1' := (Array.getD_eq_getD_getElem? ..).symm.trans e1
        have hcat : ¬ 9223372036854775807 < x.size + (s.size - k) := by omega
        go_simp
        exact hK _ _ (KeptOut.refl _ _) ⟨x ++ s.extract k s.size, by rw [ByteArray.size_append, ByteArray.size_extract]; omega, rfl⟩ ⟨hkw, hcw, p3, by omega, hrd⟩
      | 11, _, ho, hd, hK =>
        obtain rfl := Option.some.inj ho
        obtain ⟨x, hx, e0⟩ := (show ∃ x : ByteArray, x.size ≤ 2 * s.size + 1 ∧ (A.tmps.getD 30 undef) = .string x from hd ⟨10, .data⟩ (by simp) rfl)
        have e0' := (Array.getD_eq_getD_getElem? ..).symm.trans e0
        go_simp
        exact hK _ _ (KeptOut.refl _ _) ⟨x, hx, rfl⟩ ⟨hkw, hcw, p3, by omega, hrd⟩
      | n + 12, him, ho, hd, hK => omega
    case done =>
      intro A W _ hs0 hG hS
      obtain ⟨hkw, hcw, p3, hp3, hrd⟩ := hS
      obtain ⟨x, hx, k8⟩ := (show ∃ x : ByteArray, x.size ≤ 2 * s.size + 1 ∧ at_ A 8 = .string x from hG 11 (by decide))
      have HB := Lib.hid (K2.out.trans hkw)
      have HRD3 := Lib.hid hrd
      clear hrd
      rw [act_lit (n := 31) hs0.size hs0.defers]
      change Exit.then _ _ _ { tmps := #[at_ A 0, at_ A 1, at_ A 2, at_ A 3, at_ A 4, at_ A 5, at_ A 6, at_ A 7, at_ A 8, at_ A 9, at_ A 10, at_ A 11, at_ A 12, at_ A 13, at_ A 14, at_ A 15, at_ A 16, at_ A 17, at_ A 18, at_ A 19, at_ A 20, at_ A 21, at_ A 22, at_ A 23, at_ A 24, at_ A 25, at_ A 26, at_ A 27, at_ A 28, at_ A 29, at_ A 30], defers := [] } _
      (try dsimp only)
      rw [k8]
      generalize at_ A 0 = y0
      generalize at_ A 1 = y1
      generalize at_ A 2 = y2
      generalize at_ A 3 = y3
      generalize at_ A 4 = y4
      generalize at_ A 5 = y5
      generalize at_ A 6 = y6
      generalize at_ A 7 = y7
      generalize at_ A 9 = y9
      generalize at_ A 10 = y10
      generalize at_ A 11 = y11
      generalize at_ A 12 = y12
      generalize at_ A 13 = y13
      generalize at_ A 14 = y14
      generalize at_ A 15 = y15
      generalize at_ A 16 = y16
      generalize at_ A 17 = y17
      generalize at_ A 18 = y18
      generalize at_ A 19 = y19
      generalize at_ A 20 = y20
      generalize at_ A 21 = y21
      generalize at_ A 22 = y22
      generalize at_ A 23 = y23
      generalize at_ A 24 = y24
      generalize at_ A 25 = y25
      generalize at_ A 26 = y26
      generalize at_ A 27 = y27
      generalize at_ A 28 = y28
      generalize at_ A 29 = y29
      generalize at_ A 30 = y30
      clear hG hs0 k8
      go_wp2
      go_ret
      exact ⟨x, p3, rfl, hx, HRD3.out, by omega, HB.out⟩
    case last =>
      intro o A W K ho
      exact absurd ho (by simp)
end Go.Proofs.YthbhgeifknkolaaDoor
