import Derived.Test.YtlaehhdbagiciaaSlotsW
import Derived.Test.YtlaehhdbagiciaaPick
import Derived.Test.YtlaehhdbagiciaaThingKey
import Derived.Deep.RegionHeld3
/- Two drawn texts. -/
namespace Go.Proofs.Ytlaehhdbagiciaa
open Go Go.RowKit

def litTA : List ByteArray := [⟨#[97]⟩, ⟨#[97, 108, 108]⟩, ⟨#[98]⟩, ⟨#[]⟩, ⟨#[65]⟩]
def litTB : List ByteArray := [⟨#[120]⟩, ⟨#[121]⟩, ⟨#[97, 98]⟩, ⟨#[]⟩, ⟨#[116, 111, 111, 108, 111, 110, 103]⟩]
theorem litTA_size : ∀ s ∈ litTA, s.size ≤ 24 := by
  intro s hs
  simp only [litTA, List.mem_cons, List.not_mem_nil, or_false] at hs
  rcases hs with rfl | rfl | rfl | rfl | rfl <;> simp [ByteArray.size]
theorem litTB_size : ∀ s ∈ litTB, s.size ≤ 24 := by
  intro s hs
  simp only [litTB, List.mem_cons, List.not_mem_nil, or_false] at hs
  rcases hs with rfl | rfl | rfl | rfl | rfl <;> simp [ByteArray.size]
def DrawKeyP (w : World) (e : Ending) (w' : World) : Prop := ∃ x y : ByteArray, x.size ≤ 24 ∧ y.size ≤ 24 ∧ e = .returned (.tuple #[.string x, .string y]) ∧ Below w.heap.size w w'
def KLit (r : Nat) (lit : List ByteArray) (v : Value) (w : World) : Prop := ∃ b, v = .slice (some ⟨b, 0, none⟩) lit.length lit.length ∧ b ≠ r ∧ ∀ j (h : j < lit.length), w.cell? ⟨b, 0 + j, none⟩ = some (.string lit[j])
def KAt (r : Nat) (v : Value) (w : World) : Prop := ∃ b o, ∃ s : ByteArray, s.size ≤ 24 ∧ v = .pointer (some ⟨b, o, none⟩) ∧ b ≠ r ∧ w.cell? ⟨b, o, none⟩ = some (.string s)
def KNat (n : Nat) (v : Value) : Prop := ∃ q : Nat, q < n ∧ v = .int .i64 (q : Int)
def KStr (v : Value) : Prop := ∃ s : ByteArray, s.size ≤ 24 ∧ v = .string s
theorem KLit.kept {r : Nat} {lit : List ByteArray} {v : Value} {w w' : World} (h : KLit r lit v w) (hk : KeptOut (fun b => b = r) w w') : KLit r lit v w' := by
  obtain ⟨b, e, hb, hc⟩ := h
  exact ⟨b, e, hb, fun j hj => by have := hc j hj; rw [hk.cell (p := ⟨b, 0 + j, none⟩) (by have := World.block_lt_of_cell? w _ this; simpa using this) hb]; exact this⟩
theorem KAt.kept {r : Nat} {v : Value} {w w' : World} (h : KAt r v w) (hk : KeptOut (fun b => b = r) w w') : KAt r v w' := by
  obtain ⟨b, o, s, hs, e, hb, hc⟩ := h
  exact ⟨b, o, s, hs, e, hb, by rw [hk.cell (p := ⟨b, o, none⟩) (by have := World.block_lt_of_cell? w _ hc; simpa using this) hb]; exact hc⟩
def GKey (r : Nat) : Nat → Value → World → Prop
  | 0, v, w => KLit r litTA v w
  | 7, v, w => KLit r litTB v w
  | 1, v, _ | 8, v, _ => v = .pointer (some ⟨r, 0, none⟩)
  | 2, v, _ | 9, v, _ => KNat 11 v
  | 3, v, _ | 10, v, _ => ∃ q : Nat, q < 11 ∧ v = .int .i64 ((q : Int) * 5)
  | 4, v, _ | 11, v, _ => KNat 5 v
  | 5, v, w | 12, v, w => KAt r v w
  | 6, v, _ | 13, v, _ | 14, v, _ | 15, v, _ => KStr v
  | _, _, _ => True
theorem gkey_kept {r : Nat} (i : Nat) (v : Value) (w w' : World) (h : GKey r i v w) (hk : KeptOut (fun b => b = r) w w') : GKey r i v w' := by
  unfold GKey at h ⊢
  split at h <;> first | exact h | exact KLit.kept h hk | exact KAt.kept h hk
def SKey (w0 : World) (r : Nat) (a : Option Addr) (c : Nat) (l : List UInt8) (p : Nat) (k : Nat) (w : World) : Prop := KeptOut (fun b => b = r) w0 w ∧ ∃ p', p' + k ≤ p ∧ Rd w r a c l p'
set_option maxRecDepth 100000 in
set_option maxHeartbeats 4000000 in
theorem drawThingKey_any (a : Option Addr) (c : Nat) (l : List UInt8) (w : World) (hl : l.length ≤ c) (hc : c ≤ maxLen) (h : BytesS w a l) :
    Calls Try.prog 23 #[.slice a l.length c] w (DrawKeyP w) := by
  go_enter Try.func23, Try.ntmps23
  go_wp2_with fail
  refine (open_any a c l _ hl hc h).mono ?_
  rintro e w2 ⟨c1, l1, rfl, h1, b1⟩
  have z1 : w.heap.size < w2.heap.size := h1.lt
  have H2 := Lib.hid h1
  clear h1
  go_wp2_with fail
  refine wp_region_slotsW (G := GKey w.heap.size) (S := SKey w2 w.heap.size a c1 l1 16) (by kernel_rfl) 16 21 rfl (by kernel_rfl) (fun W W' => KeptOut (fun b => b = w.heap.size) W W') gkey_kept ⟨(KeptOut.refl _ _).drew, 0, Nat.le_refl _, H2.out⟩ ?step ?done ?last
  case step =>
    intro i o A W kk K him ho hs hd hS hK
    obtain ⟨hkw, p3, hp3, hrd⟩ := hS
    have hr2 : w.heap.size < W.heap.size := hrd.lt
    have hszW := hkw.size
    match i, him, ho, hd, hK with
    | 0, _, ho, hd, hK =>
      obtain rfl := Option.some.inj ho
      go_simp
      exact hK _ _ (.of_below (below_alloc _ _)) ⟨W.heap.size, rfl, by omega, lit_cells W litTA _⟩ ⟨hkw.trans (.of_below (below_alloc _ _)), p3, by omega, hrd.below (below_alloc _ _)⟩
    | 1, _, ho, hd, hK =>
      obtain rfl := Option.some.inj ho
      have e : A.tmps.getD 4 undef = .pointer (some ⟨w.heap.size, 0, none⟩) := hs.keep (by kernel_rfl)
      go_simp
      exact hK _ _ (KeptOut.refl _ _) rfl ⟨hkw, p3, by omega, hrd⟩
    | 2, _, ho, hd, hK =>
      obtain rfl := Option.some.inj ho
      have e0 : A.tmps.getD 8 undef = .pointer (some ⟨w.heap.size, 0, none⟩) := hd ⟨1, .data⟩ (by simp) rfl
      go_simp
      refine (pick_any 11 _ w.heap.size a c1 l1 p3 (by omega) (by omega) (by omega) hrd).mono ?_
      rintro e w' ⟨q, rfl, q0, q1, h1, k1⟩
      obtain ⟨q, rfl⟩ := Int.eq_ofNat_of_zero_le q0
      have q2 := q1 (by omega)
      exact hK _ _ k1 ⟨q, by omega, rfl⟩ ⟨hkw.trans k1, p3 + 1, by omega, h1⟩
    | 3, _, ho, hd, hK =>
      obtain rfl := Option.some.inj ho
      obtain ⟨q, hq, e0⟩ := (show KNat 11 (A.tmps.getD 9 undef) from hd ⟨2, .data⟩ (by simp) rfl)
      have e0' := (Array.getD_eq_getD_getElem? ..).symm.trans e0
      have hw : IntKind.i64.wrap ((q : Int) * 5) = (q : Int) * 5 := wrap_small _ (by omega) (by omega)
      go_simp
      exact hK _ _ (KeptOut.refl _ _) ⟨q, hq, rfl⟩ ⟨hkw, p3, by omega, hrd⟩
    | 4, _, ho, hd, hK =>
      obtain rfl := Option.some.inj ho
      obtain ⟨q, hq, e0⟩ := (show ∃ q : Nat, q < 11 ∧ (A.tmps.getD 10 undef) = .int .i64 ((q : Int) * 5) from hd ⟨3, .data⟩ (by simp) rfl)
      have e0' := (Array.getD_eq_getD_getElem? ..).symm.trans e0
      obtain ⟨n5, hn5⟩ : ∃ n5, n5 = q * 5 / 11 := ⟨_, rfl⟩
      have hdiv : ((q : Int) * 5).tdiv 11 = (n5 : Int) := by rw [Int.tdiv_eq_ediv_of_nonneg (by omega)]; omega
      have hw5 : IntKind.i64.wrap (n5 : Int) = (n5 : Int) := wrap_small _ (by omega) (by omega)
      go_simp
      exact hK _ _ (KeptOut.refl _ _) ⟨n5, by omega, by first | rfl | rw [show ((q : Int) * 5 / 11) = (n5 : Int) from by omega, hw5]⟩ ⟨hkw, p3, by omega, hrd⟩
    | 5, _, ho, hd, hK =>
      obtain rfl := Option.some.inj ho
      obtain ⟨b9, e0, hb, hc⟩ := (show KLit w.heap.size litTA (A.tmps.getD 7 undef) W from hd ⟨0, .data⟩ (by simp) rfl)
      obtain ⟨q, hq, e1⟩ := (show KNat 5 (A.tmps.getD 11 undef) from hd ⟨4, .data⟩ (by simp) rfl)
      have hqL : q < litTA.length := hq
      have hz := hc q hq
      have hsz := litTA_size _ (List.getElem_mem hq)
      have q0 : (0 : Int) ≤ (q : Int) := by omega
      have q1 : (q : Int) < 5 := by omega
      have e0 : A.tmps.getD 7 undef = .slice (some ⟨b9, 0, none⟩) 5 5 := e0
      rw [Nat.zero_add] at hz
      generalize litTA[q] = s9 at hz hsz
      go_simp
      exact hK _ _ (KeptOut.refl _ _) ⟨b9, _, s9, hsz, rfl, hb, hz⟩ ⟨hkw, p3, by omega, hrd⟩
    | 6, _, ho, hd, hK =>
      obtain rfl := Option.some.inj ho
      obtain ⟨b9, o9, s9, hs9, e0, hb, hz⟩ := (show KAt w.heap.size (A.tmps.getD 12 undef) W from hd ⟨5, .data⟩ (by simp) rfl)
      go_simp
      exact hK _ _ (KeptOut.refl _ _) ⟨s9, hs9, rfl⟩ ⟨hkw, p3, by omega, hrd⟩
    | 7, _, ho, hd, hK =>
      obtain rfl := Option.some.inj ho
      go_simp
      exact hK _ _ (.of_below (below_alloc _ _)) ⟨W.heap.size, rfl, by omega, lit_cells W litTB _⟩ ⟨hkw.trans (.of_below (below_alloc _ _)), p3, by omega, hrd.below (below_alloc _ _)⟩
    | 8, _, ho, hd, hK =>
      obtain rfl := Option.some.inj ho
      have e : A.tmps.getD 4 undef = .pointer (some ⟨w.heap.size, 0, none⟩) := hs.keep (by kernel_rfl)
      go_simp
      exact hK _ _ (KeptOut.refl _ _) rfl ⟨hkw, p3, by omega, hrd⟩
    | 9, _, ho, hd, hK =>
      obtain rfl := Option.some.inj ho
      have e0 : A.tmps.getD 15 undef = .pointer (some ⟨w.heap.size, 0, none⟩) := hd ⟨8, .data⟩ (by simp) rfl
      go_simp
      refine (pick_any 11 _ w.heap.size a c1 l1 p3 (by omega) (by omega) (by omega) hrd).mono ?_
      rintro e w' ⟨q, rfl, q0, q1, h1, k1⟩
      obtain ⟨q, rfl⟩ := Int.eq_ofNat_of_zero_le q0
      have q2 := q1 (by omega)
      exact hK _ _ k1 ⟨q, by omega, rfl⟩ ⟨hkw.trans k1, p3 + 1, by omega, h1⟩
    | 10, _, ho, hd, hK =>
      obtain rfl := Option.some.inj ho
      obtain ⟨q, hq, e0⟩ := (show KNat 11 (A.tmps.getD 16 undef) from hd ⟨9, .data⟩ (by simp) rfl)
      have e0' := (Array.getD_eq_getD_getElem? ..).symm.trans e0
      have hw : IntKind.i64.wrap ((q : Int) * 5) = (q : Int) * 5 := wrap_small _ (by omega) (by omega)
      go_simp
      exact hK _ _ (KeptOut.refl _ _) ⟨q, hq, rfl⟩ ⟨hkw, p3, by omega, hrd⟩
    | 11, _, ho, hd, hK =>
      obtain rfl := Option.some.inj ho
      obtain ⟨q, hq, e0⟩ := (show ∃ q : Nat, q < 11 ∧ (A.tmps.getD 17 undef) = .int .i64 ((q : Int) * 5) from hd ⟨10, .data⟩ (by simp) rfl)
      have e0' := (Array.getD_eq_getD_getElem? ..).symm.trans e0
      obtain ⟨n5, hn5⟩ : ∃ n5, n5 = q * 5 / 11 := ⟨_, rfl⟩
      have hdiv : ((q : Int) * 5).tdiv 11 = (n5 : Int) := by rw [Int.tdiv_eq_ediv_of_nonneg (by omega)]; omega
      have hw5 : IntKind.i64.wrap (n5 : Int) = (n5 : Int) := wrap_small _ (by omega) (by omega)
      go_simp
      exact hK _ _ (KeptOut.refl _ _) ⟨n5, by omega, by first | rfl | rw [show ((q : Int) * 5 / 11) = (n5 : Int) from by omega, hw5]⟩ ⟨hkw, p3, by omega, hrd⟩
    | 12, _, ho, hd, hK =>
      obtain rfl := Option.some.inj ho
      obtain ⟨b9, e0, hb, hc⟩ := (show KLit w.heap.size litTB (A.tmps.getD 14 undef) W from hd ⟨7, .data⟩ (by simp) rfl)
      obtain ⟨q, hq, e1⟩ := (show KNat 5 (A.tmps.getD 18 undef) from hd ⟨11, .data⟩ (by simp) rfl)
      have hqL : q < litTB.length := hq
      have hz := hc q hq
      have hsz := litTB_size _ (List.getElem_mem hq)
      have q0 : (0 : Int) ≤ (q : Int) := by omega
      have q1 : (q : Int) < 5 := by omega
      have e0 : A.tmps.getD 14 undef = .slice (some ⟨b9, 0, none⟩) 5 5 := e0
      rw [Nat.zero_add] at hz
      generalize litTB[q] = s9 at hz hsz
      go_simp
      exact hK _ _ (KeptOut.refl _ _) ⟨b9, _, s9, hsz, rfl, hb, hz⟩ ⟨hkw, p3, by omega, hrd⟩
    | 13, _, ho, hd, hK =>
      obtain rfl := Option.some.inj ho
      obtain ⟨b9, o9, s9, hs9, e0, hb, hz⟩ := (show KAt w.heap.size (A.tmps.getD 19 undef) W from hd ⟨12, .data⟩ (by simp) rfl)
      go_simp
      exact hK _ _ (KeptOut.refl _ _) ⟨s9, hs9, rfl⟩ ⟨hkw, p3, by omega, hrd⟩
    | 14, _, ho, hd, hK =>
      obtain rfl := Option.some.inj ho
      obtain ⟨s9, hs9, e0⟩ := (show KStr (A.tmps.getD 13 undef) from hd ⟨6, .data⟩ (by simp) rfl)
      have e0' := (Array.getD_eq_getD_getElem? ..).symm.trans e0
      go_simp
      exact hK _ _ (KeptOut.refl _ _) ⟨s9, hs9, rfl⟩ ⟨hkw, p3, by omega, hrd⟩
    | 15, _, ho, hd, hK =>
      obtain rfl := Option.some.inj ho
      obtain ⟨s9, hs9, e0⟩ := (show KStr (A.tmps.getD 20 undef) from hd ⟨13, .data⟩ (by simp) rfl)
      have e0' := (Array.getD_eq_getD_getElem? ..).symm.trans e0
      go_simp
      exact hK _ _ (KeptOut.refl _ _) ⟨s9, hs9, rfl⟩ ⟨hkw, p3, by omega, hrd⟩
    | n + 16, him, ho, hd, hK => omega
  case done =>
    intro A W _ hs hG hS
    obtain ⟨hkw, p3, hp3, hrd⟩ := hS
    obtain ⟨s8, hs8, k2⟩ := (show KStr (at_ A 2) from hG 14 (by decide))
    obtain ⟨s9, hs9, k3⟩ := (show KStr (at_ A 3) from hG 15 (by decide))
    rw [act_lit (n := 21) hs.size hs.defers]
    change Exit.then _ _ _ { tmps := #[at_ A 0, at_ A 1, at_ A 2, at_ A 3, at_ A 4, at_ A 5, at_ A 6, at_ A 7, at_ A 8, at_ A 9, at_ A 10, at_ A 11, at_ A 12, at_ A 13, at_ A 14, at_ A 15, at_ A 16, at_ A 17, at_ A 18, at_ A 19, at_ A 20], defers := [] } _
    (try dsimp only)
    rw [k2, k3]
    generalize at_ A 0 = y0
    generalize at_ A 1 = y1
    generalize at_ A 4 = y4
    generalize at_ A 5 = y5
    generalize at_ A 6 = y6
    generalize at_ A 7 = y7
    generalize at_ A 8 = y8
    generalize at_ A 9 = y9
    generalize at_ A 10 = y10
    generalize at_ A 11 = y11
    generalize at_ A 12 = y12
    generalize at_ A 13 = y13
    generalize at_ A 14 = y14
    generalize at_ A 15 = y15
    generalize at_ A 16 = y16
    generalize at_ A 17 = y17
    generalize at_ A 18 = y18
    generalize at_ A 19 = y19
    generalize at_ A 20 = y20
    clear hG hs k2 k3
    go_wp2
    go_returns
    exact ⟨s8, s9, hs8, hs9, rfl, hkw.below b1 b1.size (fun q hq => by omega)⟩
  case last =>
    intro o A W K ho
    exact absurd ho (by simp)
end Go.Proofs.Ytlaehhdbagiciaa
