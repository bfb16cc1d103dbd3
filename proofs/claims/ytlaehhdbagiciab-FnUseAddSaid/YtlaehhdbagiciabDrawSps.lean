import Derived.Test.YtlaehhdbagiciabSpoilSp
/- Drawn spaces with a name. -/
namespace Go.Proofs.Ytlaehhdbagiciab
open Go Go.RowKit

set_option maxRecDepth 100000 in
set_option maxHeartbeats 1600000 in
theorem anySp_any (w : World) (r : Nat) (a : Option Addr) (c : Nat) (l : List UInt8) (p : Nat) (hp : p ≤ 10000000) (h : Rd w r a c l p) :
    Calls Try.prog 74 #[.pointer (some ⟨r, 0, none⟩)] w (DrawSpP w r a c l p 170 7) := by
  have hr : r < w.heap.size := h.lt
  have HR := Lib.hid h
  clear h
  go_enter Try.func74, Try.ntmps74
  go_wp2_with fail
  refine (l13Spaces_any _ r a c l p (by omega) HR.out).mono ?_
  rintro e w1 ⟨v1, L, p1, rfl, o1, hE, hn1, hn, h1, hp1, k1⟩
  obtain ⟨b, cb, rfl⟩ := own_shape o1
  have z1 := k1.size
  have O1 := Lib.hid o1
  have HE := Lib.hid hE
  have H1 := Lib.hid h1
  have K1 := Lib.hid k1
  clear o1 hE h1 k1
  go_wp2_with fail
  refine (pick_any 12 _ r a c l p1 (by omega) (by omega) (by omega) H1.out).mono ?_
  rintro e w2 ⟨q, rfl, q0, q1, h2, k2⟩
  have z2 := k2.size
  have H2 := Lib.hid h2
  have O2 := Lib.hid (own_kept O1.out k2 (fun k hk e => by have := (O1.out.lt k hk).1; omega))
  have K2 := Lib.hid (K1.out.trans k2)
  clear h2 k2 q1 O1 K1 H1
  by_cases hq : q = 0
  · subst hq
    go_wp2_with fail
    refine (spoilSp_any _ r a c l (p1 + 1) (by omega) H2.out b cb L (own_el encSpace_len (by unfold maxLen; omega) O2.out) HE.out hn1 hn).mono ?_
    rintro e w3 ⟨v3, L3, p3, rfl, o3, hE3, hn3, h3, hp3, k3⟩
    have O3 := Lib.hid o3
    have HE3 := Lib.hid hE3
    have H3 := Lib.hid h3
    have K3 := Lib.hid k3
    clear o3 hE3 h3 k3
    go_wp2
    go_ret
    exact ⟨v3, L3, p3, rfl, own_mono (by omega) O3.out, HE3.out, hn3, H3.out, by omega, K2.out.trans K3.out⟩
  · have hq' : (q == 0) = false := by simp [hq]
    clear hq
    go_wp2
    go_ret
    exact ⟨_, L, p1 + 1, rfl, O2.out, HE.out, by omega, H2.out, by omega, K2.out⟩

def InPost (w : World) (r : Nat) (a : Option Addr) (c : Nat) (l : List UInt8) (p : Nat) (e : Ending) (w' : World) : Prop :=
  ∃ (s : ByteArray) (p' : Nat), e = .returned (.string s) ∧ s.size ≤ 3000 ∧ Rd w' r a c l p' ∧ p' ≤ p + 3 ∧ KeptOut (fun b => b = r) w w'
def litI6 : List ByteArray := [⟨#[97, 108, 108]⟩, ⟨#[97]⟩, ⟨#[98]⟩, ⟨#[99]⟩, ⟨#[100]⟩, ⟨#[120]⟩]
theorem litI6_size : ∀ s ∈ litI6, s.size ≤ 24 := by
  intro s hs
  simp only [litI6, List.mem_cons, List.not_mem_nil, or_false] at hs
  rcases hs with rfl | rfl | rfl | rfl | rfl | rfl <;> simp [ByteArray.size]
set_option maxRecDepth 100000 in
set_option maxHeartbeats 1600000 in
theorem in13_any (w : World) (r : Nat) (a : Option Addr) (c : Nat) (l : List UInt8) (p : Nat) (hp : p ≤ 10000000) (h : Rd w r a c l p) (b : Option Addr) (cb : Nat) (L : List SpaceD) (hE : AnySp L) (hn : L.length ≤ 7) (hL : ElS 5 encSpace w b L) (hb : ∀ k, b.map Addr.block = some k → k ≠ r) :
    Calls Try.prog 75 #[.pointer (some ⟨r, 0, none⟩), .slice b L.length cb] w (InPost w r a c l p) := by
  have hr : r < w.heap.size := h.lt
  have HR := Lib.hid h
  have HL := Lib.hid hL
  have HE := Lib.hid hE
  have HB := Lib.hid hb
  clear h hL hE hb
  by_cases h0 : 0 < L.length
  · go_enter Try.func75, Try.ntmps75
    go_wp2_with fail
    refine (pick_any 5 _ r a c l p (by omega) (by omega) (by omega) HR.out).mono ?_
    rintro e w1 ⟨q, rfl, q0, q1, h1, k1⟩
    have H1 := Lib.hid h1
    have K1 := Lib.hid k1
    have HL1 := Lib.hid (HL.out.kept k1 (fun k hk e => HB.out k hk e))
    clear h1 q1 k1
    by_cases hq : 0 < q
    · go_wp2_with fail
      refine (pick_any _ _ r a c l (p + 1) (by omega) (by omega) (by omega) H1.out).mono ?_
      rintro e w2 ⟨q2, rfl, q20, q21, h2, k2⟩
      have q22 := q21 (by omega)
      obtain ⟨n2, rfl⟩ := Int.eq_ofNat_of_zero_le q20
      have hn2 : n2 < L.length := by omega
      have HL2 := HL1.out.kept k2 (fun k hk e => HB.out k hk e)
      obtain ⟨-, hc⟩ := HL2
      obtain ⟨b2, o2, rfl, hcc⟩ := hc.resolve_left (fun e => by rw [e] at hn2; simp at hn2)
      have c0 := (cellsSpace (Below.refl _ _) hcc n2 hn2).1
      have K2 := Lib.hid (K1.out.trans k2)
      have H2 := Lib.hid h2
      have hx := (HE.out _ (List.getElem_mem hn2)).1
      clear hcc hc h2 k2 q21
      go_wp2
      go_ret
      exact ⟨_, p + 1 + 1, rfl, hx, H2.out, by omega, K2.out⟩
    · go_wp2_with fail
      refine (of_any _ r a c l (p + 1) (by omega) (H1.out.below (below_alloc w1 _)) w1.heap.size 0 6 litI6 (by decide) (by decide) (by have := K1.out.size; omega) (lit_cells w1 litI6 _)).mono ?_
      rintro e w2 ⟨s, hs, rfl, h2, k2⟩
      have K2 := Lib.hid ((K1.out.trans (KeptOut.of_below (S := fun b => b = r) (below_alloc w1 _))).trans k2)
      have H2 := Lib.hid h2
      clear h2 k2
      go_wp2
      go_ret
      exact ⟨s, p + 1 + 1, rfl, by have := litI6_size s hs; omega, H2.out, by omega, K2.out⟩
  · have h0i : (L.length : Int) ≤ 0 := by omega
    go_enter Try.func75, Try.ntmps75
    go_wp2_with fail
    refine (of_any _ r a c l p (by omega) (HR.out.below (below_alloc w _)) w.heap.size 0 6 litI6 (by decide) (by decide) (by omega) (lit_cells w litI6 _)).mono ?_
    rintro e w2 ⟨s, hs, rfl, h2, k2⟩
    have K2 := Lib.hid ((KeptOut.of_below (S := fun b => b = r) (below_alloc w _)).trans k2)
    have H2 := Lib.hid h2
    clear h2 k2
    go_wp2
    go_ret
    exact ⟨s, p + 1, rfl, by have := litI6_size s hs; omega, H2.out, by omega, K2.out⟩

def UpDraw (w : World) (e : Ending) (w' : World) : Prop :=
  ∃ (v : Value) (L : List SpaceD) (s : ByteArray), e = .returned (.tuple #[v, .string s]) ∧ OwSpaceS w' w.heap.size w'.heap.size v L ∧ AnySp L ∧ L.length ≤ 7 ∧ s.size ≤ 3000 ∧ Below w.heap.size w w'
def InDraw (w : World) (e : Ending) (w' : World) : Prop :=
  ∃ (v : Value) (L : List SpaceD) (s t : ByteArray), e = .returned (.tuple #[v, .string s, .string t]) ∧ OwSpaceS w' w.heap.size w'.heap.size v L ∧ AnySp L ∧ L.length ≤ 7 ∧ s.size ≤ 3000 ∧ t.size ≤ 3000 ∧ Below w.heap.size w w'
theorem drawn_own {w w' : World} {base : Nat} {v : Value} {L : List SpaceD} (h : w'.ownsRow base 52 5 v L.length (L.flatMap encSpace)) (hb : w.heap.size ≤ base) (hn : L.length ≤ 7) (hE : AnySp L) : OwSpaceS w' w.heap.size w'.heap.size v L :=
  owSpaceS_of (own_mono hb h) (by unfold maxLen; omega) hE.ok
set_option maxRecDepth 100000 in
set_option maxHeartbeats 1600000 in
theorem drawUp_any (a : Option Addr) (c : Nat) (l : List UInt8) (w : World) (hl : l.length ≤ c) (hc : c ≤ maxLen) (h : BytesS w a l) :
    Calls Try.prog 30 #[.slice a l.length c] w (UpDraw w) := by
  go_enter Try.func30, Try.ntmps30
  go_wp2_with fail
  refine (open_any a c l _ hl hc h).mono ?_
  rintro e w1 ⟨c1, l1, rfl, h1, b1⟩
  have z1 : w.heap.size < w1.heap.size := h1.lt
  have H1 := Lib.hid h1
  clear h1
  go_wp2_with fail
  refine (anySp_any _ w.heap.size a c1 l1 0 (by omega) H1.out).mono ?_
  rintro e w2 ⟨v2, L, p2, rfl, o2, hE, hn, h2, hp2, k2⟩
  obtain ⟨b, cb, rfl⟩ := own_shape o2
  have z2 := k2.size
  have O2 := Lib.hid o2
  have HE := Lib.hid hE
  have H2 := Lib.hid h2
  have K2 := Lib.hid k2
  clear o2 hE h2 k2 H1
  go_wp2_with fail
  refine (in13_any _ w.heap.size a c1 l1 p2 (by omega) H2.out b cb L HE.out hn (own_el encSpace_len (by unfold maxLen; omega) O2.out) (fun k hk e => by have := (O2.out.lt k (blk_map hk)).1; omega)).mono ?_
  rintro e w3 ⟨s, p3, rfl, hs, h3, hp3, k3⟩
  have O3 := Lib.hid (own_kept O2.out k3 (fun k hk e => by have := (O2.out.lt k hk).1; omega))
  have K3 := Lib.hid (K2.out.trans k3)
  clear h3 k3
  go_wp2
  go_returns
  exact ⟨_, L, s, rfl, drawn_own O3.out (by omega) hn HE.out, HE.out, hn, hs, K3.out.below b1 b1.size (fun k hk => by omega)⟩
set_option maxRecDepth 100000 in
set_option maxHeartbeats 1600000 in
theorem drawIn_any (a : Option Addr) (c : Nat) (l : List UInt8) (w : World) (hl : l.length ≤ c) (hc : c ≤ maxLen) (h : BytesS w a l) :
    Calls Try.prog 38 #[.slice a l.length c] w (InDraw w) := by
  go_enter Try.func38, Try.ntmps38
  go_wp2_with fail
  refine (open_any a c l _ hl hc h).mono ?_
  rintro e w1 ⟨c1, l1, rfl, h1, b1⟩
  have z1 : w.heap.size < w1.heap.size := h1.lt
  have H1 := Lib.hid h1
  clear h1
  go_wp2_with fail
  refine (anySp_any _ w.heap.size a c1 l1 0 (by omega) H1.out).mono ?_
  rintro e w2 ⟨v2, L, p2, rfl, o2, hE, hn, h2, hp2, k2⟩
  obtain ⟨b, cb, rfl⟩ := own_shape o2
  have z2 := k2.size
  have O2 := Lib.hid o2
  have HE := Lib.hid hE
  have H2 := Lib.hid h2
  have K2 := Lib.hid k2
  clear o2 hE h2 k2 H1
  go_wp2_with fail
  refine (in13_any _ w.heap.size a c1 l1 p2 (by omega) H2.out b cb L HE.out hn (own_el encSpace_len (by unfold maxLen; omega) O2.out) (fun k hk e => by have := (O2.out.lt k (blk_map hk)).1; omega)).mono ?_
  rintro e w3 ⟨s, p3, rfl, hs, h3, hp3, k3⟩
  have z3 := k3.size
  have O3 := Lib.hid (own_kept O2.out k3 (fun k hk e => by have := (O2.out.lt k hk).1; omega))
  have H3 := Lib.hid h3
  have K3 := Lib.hid (K2.out.trans k3)
  clear h3 k3 H2
  go_wp2_with fail
  refine (in13_any _ w.heap.size a c1 l1 p3 (by omega) H3.out b cb L HE.out hn (own_el encSpace_len (by unfold maxLen; omega) O3.out) (fun k hk e => by have := (O3.out.lt k (blk_map hk)).1; omega)).mono ?_
  rintro e w4 ⟨t, p4, rfl, ht, h4, hp4, k4⟩
  have O4 := Lib.hid (own_kept O3.out k4 (fun k hk e => by have := (O3.out.lt k hk).1; omega))
  have K4 := Lib.hid (K3.out.trans k4)
  clear h4 k4
  go_wp2
  go_returns
  exact ⟨_, L, s, t, rfl, drawn_own O4.out (by omega) hn HE.out, HE.out, hn, hs, ht, K4.out.below b1 b1.size (fun k hk => by omega)⟩
end Go.Proofs.Ytlaehhdbagiciab
