import Derived.Test.YtakcmjnfkcoilaaDoorSlotsW
import Derived.Test.YtakcmjnfkcoilaaDoorPick
import Derived.Test.YtakcmjnfkcoilaaDoorKept
import Derived.Test.YtakcmjnfkcoilaaDoorMany
import Derived.Test.YtakcmjnfkcoilaaDoorShape
import Derived.Test.YtakcmjnfkcoilaaDoorWirePutS
import Derived.Test.YtakcmjnfkcoilaaDoorBytesOpen
import Derived.Deep.RegionHeld3
/- Drawn words, written. -/
namespace Go.Proofs.YtakcmjnfkcoilaaDoor
open Go Go.RowKit

def litW5 : List ByteArray := [⟨#[]⟩, ⟨#[97]⟩, ⟨#[49, 58, 120, 44]⟩, ⟨#[116, 119, 111, 32, 119, 111, 114, 100, 115]⟩, ⟨#[44]⟩]
theorem litW5_size : ∀ s ∈ litW5, s.size ≤ 24 := by
  intro s hs
  simp only [litW5, List.mem_cons, List.not_mem_nil, or_false] at hs
  rcases hs with rfl | rfl | rfl | rfl | rfl <;> decide
theorem infoStrW : (Tryd.prog.info? 9).map (fun i => (i.zero, i.size, i.bytes)) = some (some (.string ⟨#[]⟩), 1, 16) := by kernel_rfl
theorem cellsNewW (w : World) (cs : List Value) (e : TypeId) : ∀ j u, cs[j]? = some u → (w.alloc (.cells cs.toArray e)).cell? ((⟨w.heap.size, 0, none⟩ : Addr).add j) = some u := by
  intro j u h
  rw [addr_add, Nat.zero_add]
  exact (Box.alloc w cs.toArray e j u (by simpa using h)).1
def WordsP (w : World) (e : Ending) (w' : World) : Prop := ∃ v D, e = .returned v ∧ w'.ownsRow w.heap.size 9 1 v (List.length D) (D.map .string) ∧ (∀ s ∈ D, ByteArray.size s ≤ 2000) ∧ D.length ≤ 6 ∧ Below w.heap.size w w'
def wordsInv (w w1 : World) (a : Option Addr) (c1 : Nat) (l1 : List UInt8) (v4 v5 : Value) (wr : World) : Prop :=
  ∃ (k : Nat) (D : List ByteArray) (p : Nat), v5 = .int .i64 k ∧ D.length + k ≤ 5 ∧ wr.ownsRow w1.heap.size 9 1 v4 D.length (D.map .string) ∧ (∀ s ∈ D, s.size ≤ 2000) ∧ Rd wr w.heap.size a c1 l1 p ∧ p + k ≤ 100 ∧ KeptOut (fun b => b = w.heap.size) w1 wr
theorem map_snocS (D : List ByteArray) (s : ByteArray) : (D ++ [s]).map Value.string = D.map Value.string ++ [.string s] := by simp
set_option maxRecDepth 100000 in
set_option maxHeartbeats 2000000 in
theorem drawWirePut_any (a : Option Addr) (c : Nat) (l : List UInt8) (w : World) (hl : l.length ≤ c) (hc : c ≤ maxLen) (h : BytesS w a l) :
    Calls Tryd.prog 18 #[.slice a l.length c] w (WordsP w) := by
  obtain ⟨i0, hi, hz0, hz1, hz2⟩ := info_parts infoStrW
  go_enter Tryd.func18, Tryd.ntmps18
  go_wp2_with fail
  refine (open_any a c l _ hl hc h).mono ?_
  rintro e w1 ⟨c1, l1, rfl, h1, b1⟩
  have z1 : w.heap.size < w1.heap.size := h1.lt
  have HAR := Lib.hid (rd_har h1)
  have H1 := Lib.hid h1
  have B1 := Lib.hid b1
  clear h1 b1
  go_wp2_with fail
  have O1 := World.ownsRow_lit (base := w1.heap.size) (e := 9) (size := 1) w1 #[] 0 (Nat.le_refl _) (Nat.zero_le _) rfl
  refine (pick_any 6 _ w.heap.size a c1 l1 0 (by omega) (by omega) (by omega) (H1.out.below (below_alloc w1 _))).mono ?_
  rintro e w2 ⟨q, rfl, q0, q1, h2, k2⟩
  have q2 := q1 (by omega)
  obtain ⟨k0, rfl⟩ := Int.eq_ofNat_of_zero_le q0
  have HI := Lib.hid (show wordsInv w w1 a c1 l1 (.slice (some ⟨w1.heap.size, 0, none⟩) 0 0) (.int .i64 (k0 : Int)) w2 from
    ⟨k0, [], 0 + 1, rfl, by simp; omega, own_kept O1 k2 (fun b hb e => by have h9 := (O1.lt b hb).1; omega), by simp, h2, by omega, (KeptOut.of_below (S := fun b => b = w.heap.size) (below_alloc w1 _)).trans k2⟩)
  clear O1 h2 k2 q1 q0 H1
  go_wp2_with fail
  go_loopw [4, 5] (fun v4 v5 wr => wordsInv w w1 a c1 l1 v4 v5 wr) (fun _ v5 _ => (intOf v5).toNat)
  case atStart => exact HI.out
  case round =>
    obtain ⟨k, D, p, rfl, hn, hO, hD, hrd, hp, hK⟩ := hrel
    obtain ⟨av, cv, rfl⟩ := own_shape hO
    have zr := hK.size
    have HO := Lib.hid hO
    have HD := Lib.hid hD
    have HRD := Lib.hid hrd
    have HK := Lib.hid hK
    clear hO hD hrd hK HI
    by_cases hk0 : 0 < k
    · have hk0i : (0 : Int) < (k : Int) := by omega
      go_wp2_with (first
        | (at_builtin; refine wpList_append_own _ rfl _ _ 25 rfl w1.heap.size 9 i0 (.string ⟨#[]⟩) 1 16 Tryd.underlying25 hi hz0 hz1 hz2 rfl (by decide) _ _ _ rfl (HO4.out.alloc _) ⟨w4.heap.size, 0, none⟩ 1 1 [.string s] rfl rfl (cellsNewW w4 _ _) (by simp [Value.oneCell']) (by unfold maxLen; omega) (by omega) (by simp; omega) ?_; intro v5 w5 o5 g5 _)
        | (go_at_call 24; refine (of_any _ w.heap.size a c1 l1 p (by omega) (HRD.out.below (below_alloc wr _)) wr.heap.size 0 5 litW5 (by decide) (by decide) (by omega) (lit_cells wr litW5 _)).mono ?_; rintro e w4 ⟨s, hs, rfl, h4, k4⟩; have hs24 := litW5_size s hs; have z4 := k4.size; rw [World.size_alloc] at z4; have K4 := Lib.hid ((KeptOut.of_below (S := fun b => b = w.heap.size) (below_alloc wr (.cells (litW5.map Value.string).toArray 9))).trans k4); have H4 := Lib.hid h4; have HO4 := Lib.hid (own_kept HO.out K4.out (fun b hb e => by have := (HO.out.lt b hb).1; omega))))
      have HO5 := Lib.hid (show w5.ownsRow w1.heap.size 9 1 v5 (D ++ [s]).length ((D ++ [s]).map .string) by rw [map_snocS, List.length_append]; exact o5)
      have HK5 := Lib.hid (show KeptOut (fun b => b = w.heap.size) w1 w5 from ((HK.out.trans K4.out).trans (KeptOut.of_below (below_alloc _ _))).step (kept_of_grown g5) (fun b hb => .inl (HO4.out.lt b hb).1))
      have H5 := Lib.hid ((H4.out.below (below_alloc _ _)).kept2 (kept_of_grown g5) (fun e => by have := (HO4.out.lt _ e).1; omega) (fun hn x hx e => by have h8 := (HO4.out.lt _ e).1; have h9 := HAR.out hn x hx; omega))
      have HD5 := Lib.hid (show ∀ x ∈ D ++ [s], x.size ≤ 2000 from fun x hx => (List.mem_append.1 hx).elim (HD.out x) (fun h => by rw [List.mem_singleton.1 h]; omega))
      clear o5 g5
      go_roundw
      case rel => exact ⟨k - 1, D ++ [s], p + 1, by go_num, by rw [List.length_append]; simp only [List.length_cons, List.length_nil]; omega, HO5.out, HD5.out, H5.out, by omega, HK5.out⟩
      case measure => simp [intOf]; omega
    · have hk : k = 0 := by omega
      subst hk
      go_wp2_with fail
      refine (pick_any 24 _ w.heap.size a c1 l1 p (by omega) (by omega) (by omega) HRD.out).mono ?_
      rintro e w3 ⟨q, rfl, q0, q1, h3, k3⟩
      have z3 := k3.size
      obtain ⟨n, rfl⟩ := Int.eq_ofNat_of_zero_le q0
      have H3 := Lib.hid h3
      have HK3 := Lib.hid (HK.out.trans k3)
      have HO3 := Lib.hid (own_kept HO.out k3 (fun b hb e => by have := (HO.out.lt b hb).1; omega))
      clear h3 k3 q0 q1 HK HO HRD
      by_cases hq : n = 0
      · subst hq
        go_wp2_with fail
        refine (pick_any 9 _ w.heap.size a c1 l1 (p + 1) (by omega) (by omega) (by omega) H3.out).mono ?_
        rintro e w4 ⟨m, rfl, m0, m1, h4, k4⟩
        have m2 := m1 (by omega)
        have z4 := k4.size
        obtain ⟨m, rfl⟩ := Int.eq_ofNat_of_zero_le m0
        have HK4 := Lib.hid (HK3.out.trans k4)
        have HO4 := Lib.hid (own_kept HO3.out k4 (fun b hb e => by have := (HO3.out.lt b hb).1; omega))
        clear h4 k4 m0 m1 HK3 HO3 H3
        go_wp2_with fail
        rw [show (2000 - (m : Int)) = ((2000 - m : Nat) : Int) by omega]
        refine (many_any ⟨#[116]⟩ (2000 - m) _ (by decide) (by omega)).mono ?_
        rintro e w5 ⟨⟨s, hs, rfl⟩, rfl⟩
        have hs2 : s.size ≤ 2000 := by rw [hs]; show 1 * (2000 - m) ≤ 2000; omega
        clear hs
        go_wp2_with (at_builtin; refine wpList_append_own _ rfl _ _ 25 rfl w1.heap.size 9 i0 (.string ⟨#[]⟩) 1 16 Tryd.underlying25 hi hz0 hz1 hz2 rfl (by decide) _ _ _ rfl (HO4.out.alloc _) ⟨w4.heap.size, 0, none⟩ 1 1 [.string s] rfl rfl (cellsNewW w4 _ _) (by simp [Value.oneCell']) (by unfold maxLen; omega) (by omega) (by simp; omega) ?_; intro v5 w5 o5 g5 _)
        have HB := ((HK4.out.trans (KeptOut.of_below (below_alloc w4 (.cells #[.string s] 9)))).step (kept_of_grown g5) (fun b hb => .inl (HO4.out.lt b hb).1)).below B1.out B1.out.size (fun q hq => by omega)
        go_ret
        exact ⟨v5, D ++ [s], rfl, by rw [map_snocS, List.length_append]; exact own_mono (by omega) o5, fun x hx => (List.mem_append.1 hx).elim (HD.out x) (fun h => by rw [List.mem_singleton.1 h]; omega), by rw [List.length_append]; simp only [List.length_cons, List.length_nil]; omega, HB⟩
      · have e1 : ¬ (n : Int) = 0 := by omega
        have e2 : ((n : Int) == 0) = false := by rw [beq_eq_false_iff_ne]; omega
        have e3 : (n == 0) = false := by rw [beq_eq_false_iff_ne]; omega
        go_wp2
        go_ret
        exact ⟨_, D, rfl, own_mono (by omega) HO3.out, HD.out, by omega, HK3.out.below B1.out B1.out.size (fun q hq => by omega)⟩
/-- text bent at one place, or not -/
def BendP (w : World) (r m : Nat) (e : Ending) (w' : World) : Prop := ∃ s : ByteArray, e = .returned (.string s) ∧ s.size ≤ m ∧ KeptOut (fun b => b = r) w w'
def GBend (r : Nat) (s : ByteArray) (k : Nat) (bl : Nat) : Nat → Value → World → Prop
  | 0, v, _ | 7, v, _ => v = .string s
  | 1, v, _ | 8, v, _ => v = .int .i64 (k : Int)
  | 2, v, _ => v = .string (s.extract 0 k)
  | 3, v, _ => v = .pointer (some ⟨r, 0, none⟩)
  | 4, v, _ => v = .slice (some ⟨bl, 0, none⟩) 4 4
  | 5, v, _ => ∃ x : ByteArray, x.size ≤ 1 ∧ v = .string x
  | 6, v, _ => ∃ x : ByteArray, x.size ≤ s.size + 1 ∧ v = .string x
  | 9, v, _ => v = .string (s.extract k s.size)
  | 10, v, _ => ∃ x : ByteArray, x.size ≤ 2 * s.size + 1 ∧ v = .string x
  | 11, v, _ => ∃ x : ByteArray, x.size ≤ 2 * s.size + 1 ∧ v = .string x
  | _, _, _ => True
def litB4w : List ByteArray := [⟨#[58]⟩, ⟨#[44]⟩, ⟨#[49]⟩, ⟨#[48]⟩]
theorem litB4w_size : ∀ s ∈ litB4w, s.size ≤ 1 := by
  intro s hs
  simp only [litB4w, List.mem_cons, List.not_mem_nil, or_false] at hs
  rcases hs with rfl | rfl | rfl | rfl <;> decide
def SBend (w0 : World) (r : Nat) (a : Option Addr) (c : Nat) (l : List UInt8) (p bl : Nat) (k : Nat) (w : World) : Prop := KeptOut (fun b => b = r) w0 w ∧ (∀ j (h : j < litB4w.length), w.cell? ⟨bl, 0 + j, none⟩ = some (.string litB4w[j])) ∧ ∃ p', p' + k ≤ p ∧ Rd w r a c l p'
set_option maxRecDepth 100000 in
set_option maxHeartbeats 2000000 in
theorem l12Bend_any (w : World) (r : Nat) (a : Option Addr) (c : Nat) (l : List UInt8) (p : Nat) (hp : p ≤ 1000000) (h : Rd w r a c l p) (s : ByteArray) (hs : s.size ≤ 100000) (bl : Nat) (hbl : bl ≠ r) (hcl : ∀ j (h : j < litB4w.length), w.cell? ⟨bl, 0 + j, none⟩ = some (.string litB4w[j])) :
    Calls Tryd.prog 35 #[.pointer (some ⟨r, 0, none⟩), .string s, .slice (some ⟨bl, 0, none⟩) 4 4, .int .i64 4] w (BendP w r (2 * s.size + 1)) := by
  have hr : r < w.heap.size := h.lt
  have HR := Lib.hid h
  have HC := Lib.hid hcl
  have hblw : bl < w.heap.size := by have := World.block_lt_of_cell? w _ (hcl 0 (by decide)); simpa using this
  clear h hcl
  go_enter Tryd.func35, Tryd.ntmps35
  go_wp2_with fail
  refine (pick_any 4 _ r a c l p (by omega) (by omega) (by omega) HR.out).mono ?_
  rintro e w1 ⟨q, rfl, q0, q1, h1, k1⟩
  have z1 := k1.size
  obtain ⟨n, rfl⟩ := Int.eq_ofNat_of_zero_le q0
  have H1 := Lib.hid h1
  have K1 := Lib.hid k1
  have HC1 := Lib.hid (show ∀ j (h : j < litB4w.length), w1.cell? ⟨bl, 0 + j, none⟩ = some (.string litB4w[j]) from fun j hj => (k1.cell (p := ⟨bl, 0 + j, none⟩) hblw hbl).trans (HC.out j hj))
  clear h1 k1 q0 q1 HR HC
  by_cases hn : 0 < n
  · have hni : (0 : Int) < (n : Int) := by omega
    go_wp2
    go_ret
    exact ⟨s, rfl, by omega, K1.out⟩
  · have hn0 : n = 0 := by omega
    subst hn0
    go_wp2_with fail
    rw [show ((s.size : Int) + 1) = ((s.size + 1 : Nat) : Int) by omega]
    refine (pick_any (s.size + 1 : Nat) _ r a c l (p + 1) (by omega) (by omega) (by omega) H1.out).mono ?_
    rintro e w2 ⟨k, rfl, k0, k1, h2, k2⟩
    have k3 := k1 (by omega)
    have z2 := k2.size
    obtain ⟨k, rfl⟩ := Int.eq_ofNat_of_zero_le k0
    have hks : k ≤ s.size := by omega
    have H2 := Lib.hid h2
    have K2 := Lib.hid (K1.out.trans k2)
    have HC2 := Lib.hid (show ∀ j (h : j < litB4w.length), w2.cell? ⟨bl, 0 + j, none⟩ = some (.string litB4w[j]) from fun j hj => (k2.cell (p := ⟨bl, 0 + j, none⟩) (by show bl < w1.heap.size; omega) hbl).trans (HC1.out j hj))
    clear h2 k2 k0 k1 H1 HC1
    go_wp2_with fail
    refine wp_region_slotsW (G := GBend r s k bl) (S := SBend w2 r a c l (p + 20) bl) (by kernel_rfl) 12 31 rfl (by kernel_rfl) (fun W W' => KeptOut (fun b => b = r) W W') (fun i v W W' h _ => by unfold GBend at h ⊢; split at h <;> exact h) ⟨(KeptOut.refl _ _).drew, HC2.out, p + 1 + 1, by simp, H2.out⟩ ?step ?done ?last
    case step =>
      intro i o A W kk K him ho hs0 hd hS hK
      obtain ⟨hkw, hcw, p3, hp3, hrd⟩ := hS
      have hr2 : r < W.heap.size := hrd.lt
      have hszW := hkw.size
      match i, him, ho, hd, hK with
      | 0, _, ho, hd, hK =>
        obtain rfl := Option.some.inj ho
        have e : A.tmps.getD 1 undef = .string s := hs0.keep (by kernel_rfl)
        go_simp
        exact hK _ _ (KeptOut.refl _ _) rfl ⟨hkw, hcw, p3, by omega, hrd⟩
      | 1, _, ho, hd, hK =>
        obtain rfl := Option.some.inj ho
        have e : A.tmps.getD 9 undef = .int .i64 (k : Int) := hs0.keep (by kernel_rfl)
        go_simp
        exact hK _ _ (KeptOut.refl _ _) rfl ⟨hkw, hcw, p3, by omega, hrd⟩
      | 2, _, ho, hd, hK =>
        obtain rfl := Option.some.inj ho
        have e0 : A.tmps.getD 20 undef = .string s := hd ⟨0, .data⟩ (by simp) rfl
        have e1 : A.tmps.getD 21 undef = .int .i64 (k : Int) := hd ⟨1, .data⟩ (by simp) rfl
        have k0 : (0 : Int) ≤ (k : Int) := by omega
        have k1 : (k : Int) ≤ (s.size : Int) := by omega
        go_simp
        exact hK _ _ (KeptOut.refl _ _) (by first | rfl | simp) ⟨hkw, hcw, p3, by omega, hrd⟩
      | 3, _, ho, hd, hK =>
        obtain rfl := Option.some.inj ho
        have e : A.tmps.getD 0 undef = .pointer (some ⟨r, 0, none⟩) := hs0.keep (by kernel_rfl)
        go_simp
        exact hK _ _ (KeptOut.refl _ _) rfl ⟨hkw, hcw, p3, by omega, hrd⟩
      | 4, _, ho, hd, hK =>
        obtain rfl := Option.some.inj ho
        have e : A.tmps.getD 2 undef = .slice (some ⟨bl, 0, none⟩) 4 4 := hs0.keep (by kernel_rfl)
        go_simp
        exact hK _ _ (KeptOut.refl _ _) rfl ⟨hkw, hcw, p3, by omega, hrd⟩
      | 5, _, ho, hd, hK =>
        obtain rfl := Option.some.inj ho
        have e0 : A.tmps.getD 23 undef = .pointer (some ⟨r, 0, none⟩) := hd ⟨3, .data⟩ (by simp) rfl
        have e1 : A.tmps.getD 24 undef = .slice (some ⟨bl, 0, none⟩) 4 4 := hd ⟨4, .data⟩ (by simp) rfl
        go_simp
        refine (of_any _ r a c l p3 (by omega) hrd bl 0 4 litB4w (by decide) (by decide) hbl hcw).mono ?_
        rintro e w' ⟨x, hx, rfl, h1, k1⟩
        exact hK _ _ k1 ⟨x, litB4w_size x hx, rfl⟩ ⟨hkw.trans k1, fun j hj => (k1.cell (p := ⟨bl, 0 + j, none⟩) (by show bl < W.heap.size; omega) hbl).trans (hcw j hj), p3 + 1, by omega, h1⟩
      | 6, _, ho, hd, hK =>
        obtain rfl := Option.some.inj ho
        have e0 : A.tmps.getD 22 undef = .string (s.extract 0 k) := hd ⟨2, .data⟩ (by simp) rfl
        have e0' := (Array.getD_eq_getD_getElem? ..).symm.trans e0
        obtain ⟨x, hx, e1⟩ := (show ∃ x : ByteArray, x.size ≤ 1 ∧ (A.tmps.getD 25 undef) = .string x from hd ⟨5, .data⟩ (by simp) rfl)
        have e1' := (Array.getD_eq_getD_getElem? ..).symm.trans e1
        have hcat : ¬ 9223372036854775807 < k + x.size := by omega
        go_simp
        exact hK _ _ (KeptOut.refl _ _) ⟨s.extract 0 k ++ x, by rw [ByteArray.size_append, ByteArray.size_extract]; omega, rfl⟩ ⟨hkw, hcw, p3, by omega, hrd⟩
      | 7, _, ho, hd, hK =>
        obtain rfl := Option.some.inj ho
        have e : A.tmps.getD 1 undef = .string s := hs0.keep (by kernel_rfl)
        go_simp
        exact hK _ _ (KeptOut.refl _ _) rfl ⟨hkw, hcw, p3, by omega, hrd⟩
      | 8, _, ho, hd, hK =>
        obtain rfl := Option.some.inj ho
        have e : A.tmps.getD 9 undef = .int .i64 (k : Int) := hs0.keep (by kernel_rfl)
        go_simp
        exact hK _ _ (KeptOut.refl _ _) rfl ⟨hkw, hcw, p3, by omega, hrd⟩
      | 9, _, ho, hd, hK =>
        obtain rfl := Option.some.inj ho
        have e0 : A.tmps.getD 27 undef = .string s := hd ⟨7, .data⟩ (by simp) rfl
        have e1 : A.tmps.getD 28 undef = .int .i64 (k : Int) := hd ⟨8, .data⟩ (by simp) rfl
        have k0 : (0 : Int) ≤ (k : Int) := by omega
        have k1 : (k : Int) ≤ (s.size : Int) := by omega
        go_simp
        exact hK _ _ (KeptOut.refl _ _) (by first | rfl | simp) ⟨hkw, hcw, p3, by omega, hrd⟩
      | 10, _, ho, hd, hK =>
        obtain rfl := Option.some.inj ho
        obtain ⟨x, hx, e0⟩ := (show ∃ x : ByteArray, x.size ≤ s.size + 1 ∧ (A.tmps.getD 26 undef) = .string x from hd ⟨6, .data⟩ (by simp) rfl)
        have e0' := (Array.getD_eq_getD_getElem? ..).symm.trans e0
        have e1 : A.tmps.getD 29 undef = .string (s.extract k s.size) := hd ⟨9, .data⟩ (by simp) rfl
        have e1' := (Array.getD_eq_getD_getElem? ..).symm.trans e1
        have hcat : ¬ 9223372036854775807 < x.size + (s.size - k) := by omega
        go_simp
        exact hK _ _ (KeptOut.refl _ _) ⟨x ++ s.extract k s.size, by rw [ByteArray.size_append, ByteArray.size_extract]; omega, rfl⟩ ⟨hkw, hcw, p3, by omega, hrd⟩
      | 11, _, ho, hd, hK =>
        obtain rfl := Option.some.inj ho
        obtain ⟨x, hx, e0⟩ := (show ∃ x : ByteArray, x.size ≤ 2 * s.size + 1 ∧ (A.tmps.getD 30 undef) = .string x from hd ⟨10, .data⟩ (by simp) rfl)
        have e0' := (Array.getD_eq_getD_getElem? ..).symm.trans e0
        go_simp
        exact hK _ _ (KeptOut.refl _ _) ⟨x, hx, rfl⟩ ⟨hkw, hcw, p3, by omega, hrd⟩
      | n + 12, him, ho, hd, hK => omega
    case done =>
      intro A W _ hs0 hG hS
      obtain ⟨hkw, hcw, p3, hp3, hrd⟩ := hS
      obtain ⟨x, hx, k8⟩ := (show ∃ x : ByteArray, x.size ≤ 2 * s.size + 1 ∧ at_ A 8 = .string x from hG 11 (by decide))
      have HB := Lib.hid (K2.out.trans hkw)
      rw [act_lit (n := 31) hs0.size hs0.defers]
      change Exit.then _ _ _ { tmps := #[at_ A 0, at_ A 1, at_ A 2, at_ A 3, at_ A 4, at_ A 5, at_ A 6, at_ A 7, at_ A 8, at_ A 9, at_ A 10, at_ A 11, at_ A 12, at_ A 13, at_ A 14, at_ A 15, at_ A 16, at_ A 17, at_ A 18, at_ A 19, at_ A 20, at_ A 21, at_ A 22, at_ A 23, at_ A 24, at_ A 25, at_ A 26, at_ A 27, at_ A 28, at_ A 29, at_ A 30], defers := [] } _
      (try dsimp only)
      rw [k8]
      generalize at_ A 0 = y0
      generalize at_ A 1 = y1
      generalize at_ A 2 = y2
      generalize at_ A 3 = y3
      generalize at_ A 4 = y4
      generalize at_ A 5 = y5
      generalize at_ A 6 = y6
      generalize at_ A 7 = y7
      generalize at_ A 9 = y9
      generalize at_ A 10 = y10
      generalize at_ A 11 = y11
      generalize at_ A 12 = y12
      generalize at_ A 13 = y13
      generalize at_ A 14 = y14
      generalize at_ A 15 = y15
      generalize at_ A 16 = y16
      generalize at_ A 17 = y17
      generalize at_ A 18 = y18
      generalize at_ A 19 = y19
      generalize at_ A 20 = y20
      generalize at_ A 21 = y21
      generalize at_ A 22 = y22
      generalize at_ A 23 = y23
      generalize at_ A 24 = y24
      generalize at_ A 25 = y25
      generalize at_ A 26 = y26
      generalize at_ A 27 = y27
      generalize at_ A 28 = y28
      generalize at_ A 29 = y29
      generalize at_ A 30 = y30
      clear hG hs0 k8
      go_wp2
      go_ret
      exact ⟨x, rfl, hx, HB.out⟩
    case last =>
      intro o A W K ho
      exact absurd ho (by simp)
def litG9 : List ByteArray := [⟨#[]⟩, ⟨#[48, 58, 44]⟩, ⟨#[49, 58, 97]⟩, ⟨#[48, 49, 58, 97, 44]⟩, ⟨#[50, 58, 97, 44]⟩, ⟨#[120]⟩, ⟨#[49, 58, 97, 44, 120]⟩, ⟨#[45, 49, 58, 44]⟩, ⟨#[58, 44]⟩]
theorem litG9_size : ∀ s ∈ litG9, s.size ≤ 24 := by
  intro s hs
  simp only [litG9, List.mem_cons, List.not_mem_nil, or_false] at hs
  rcases hs with rfl | rfl | rfl | rfl | rfl | rfl | rfl | rfl | rfl <;> decide
theorem sumSize_maxW : ∀ (ms : List ByteArray), (∀ s ∈ ms, s.size ≤ 2000) → sumSize ms ≤ ms.length * 2000
  | [], _ => by simp [sumSize]
  | x :: ms, h => by
    have h1 := sumSize_maxW ms (fun y hy => h y (List.mem_cons_of_mem _ hy))
    have h2 := h x List.mem_cons_self
    have e : sumSize (x :: ms) = x.size + sumSize ms := by simp [sumSize]
    rw [e, List.length_cons, Nat.add_mul]
    omega
def TextW (w : World) (e : Ending) (w' : World) : Prop := ∃ s : ByteArray, e = .returned (.string s) ∧ s.size ≤ 100000 ∧ Below w.heap.size w w'
set_option maxRecDepth 100000 in
set_option maxHeartbeats 2000000 in
theorem drawWireGet_any (a : Option Addr) (c : Nat) (l : List UInt8) (w : World) (hl : l.length ≤ c) (hc : c ≤ maxLen) (h : BytesS w a l) :
    Calls Tryd.prog 14 #[.slice a l.length c] w (TextW w) := by
  have HY := Lib.hid h
  go_enter Tryd.func14, Tryd.ntmps14
  go_wp2_with fail
  refine (open_any a c l _ hl hc h).mono ?_
  rintro e w1 ⟨c1, l1, rfl, h1, b1⟩
  have z1 : w.heap.size < w1.heap.size := h1.lt
  have H1 := Lib.hid h1
  have B1 := Lib.hid b1
  have HY1 := Lib.hid (bytes_below b1 HY.out)
  clear h1 b1 h
  go_wp2_with fail
  refine (pick_any 6 _ w.heap.size a c1 l1 0 (by omega) (by omega) (by omega) H1.out).mono ?_
  rintro e w2 ⟨q, rfl, q0, q1, h2, k2⟩
  have z2 := k2.size
  obtain ⟨n, rfl⟩ := Int.eq_ofNat_of_zero_le q0
  have H2 := Lib.hid h2
  have K2 := Lib.hid k2
  have HB2 := Lib.hid (show Below w.heap.size w w2 from k2.below B1.out B1.out.size (fun q hq => by omega))
  clear h2 k2 q0 q1 H1
  by_cases hn : n = 0
  · subst hn
    go_wp2_with fail
    refine (of_any _ w.heap.size a c1 l1 (0 + 1) (by omega) (H2.out.below (below_alloc w2 _)) w2.heap.size 0 9 litG9 (by decide) (by decide) (by omega) (lit_cells w2 litG9 _)).mono ?_
    rintro e w3 ⟨s, hs, rfl, h3, k3⟩
    have hs24 := litG9_size s hs
    have HB := Lib.hid (show Below w.heap.size w w3 from ((K2.out.trans (KeptOut.of_below (S := fun b => b = w.heap.size) (below_alloc w2 (.cells (litG9.map Value.string).toArray 9)))).trans k3).below B1.out B1.out.size (fun q hq => by omega))
    clear h3 k3 hs
    go_wp2
    go_ret
    exact ⟨s, rfl, by omega, HB.out⟩
  · have e1 : ¬ (n : Int) = 0 := by omega
    have e2 : ((n : Int) == 0) = false := by rw [beq_eq_false_iff_ne]; omega
    have e3 : (n == 0) = false := by rw [beq_eq_false_iff_ne]; omega
    have HY2 := Lib.hid (bytes_below HB2.out HY.out)
    go_wp2_with fail
    refine (drawWirePut_any a c l _ hl hc HY2.out).mono ?_
    rintro e w3 ⟨v3, D, rfl, o3, hD, hDn, b3⟩
    obtain ⟨a3, c3, rfl⟩ := own_shape o3
    have z3 := b3.size
    have hDok : ∀ s ∈ D, s.size ≤ maxLen := fun s hs => by have := hD s hs; unfold maxLen; omega
    have S3 := Lib.hid (own_str (by unfold maxLen; omega) hDok o3)
    have H3 := Lib.hid (H2.out.below b3)
    have K3 := Lib.hid (K2.out.trans (KeptOut.of_below (S := fun b => b = w.heap.size) b3))
    have hsum := sumSize_maxW D hD
    have hsz := wireTo_size D D.length (Nat.le_refl _)
    rw [List.take_length] at hsz
    have h6 : D.length * 2000 ≤ 12000 := by omega
    have hw : (wireTo D D.length).size ≤ 30000 := by omega
    clear o3 b3 hD hDok hsz
    go_wp2_with fail
    refine (l3Wire_any a3 c3 D _ (by omega) (by omega) S3.out).mono ?_
    rintro e w4 ⟨rfl, b4⟩
    have z4 := b4.size
    have H4 := Lib.hid (H3.out.below b4)
    have K4 := Lib.hid (K3.out.trans (KeptOut.of_below (S := fun b => b = w.heap.size) b4))
    clear b4
    obtain ⟨t, ht⟩ : ∃ t, wireTo D D.length = t := ⟨_, rfl⟩
    rw [ht] at hw ⊢
    clear ht
    go_wp2_with fail
    refine (l12Bend_any _ w.heap.size a c1 l1 (0 + 1) (by omega) (H4.out.below (below_alloc w4 _)) t (by omega) w4.heap.size (by omega) (lit_cells w4 litB4w _)).mono ?_
    rintro e w5 ⟨s, rfl, hs, k5⟩
    have HB := Lib.hid (show Below w.heap.size w w5 from ((K4.out.trans (KeptOut.of_below (S := fun b => b = w.heap.size) (below_alloc w4 (.cells (litB4w.map Value.string).toArray 9)))).trans k5).below B1.out B1.out.size (fun q hq => by omega))
    clear k5
    go_wp2
    go_ret
    exact ⟨s, rfl, by omega, HB.out⟩
end Go.Proofs.YtakcmjnfkcoilaaDoor
