import Derived.Test.YtbdicaanniffpabSpoilSp
/- Drawn spaces with a name. -/
namespace Go.Proofs.Ytbdicaanniffpab
open Go Go.RowKit

set_option maxRecDepth 100000 in
set_option maxHeartbeats 1600000 in
theorem anySp_any (w : World) (r : Nat) (a : Option Addr) (c : Nat) (l : List UInt8) (p : Nat) (hp : p ≤ 10000000) (h : Rd w r a c l p) :
    Calls Try.prog 40 #[.pointer (some ⟨r, 0, none⟩)] w (DrawSpP w r a c l p 170 7) := by
  have hr : r < w.heap.size := h.lt
  have HR := Lib.hid h
  clear h
  go_enter Try.func40, Try.ntmps40
  go_wp2_with fail
  refine (l13Spaces_any _ r a c l p (by omega) HR.out).mono ?_
  rintro e w1 ⟨v1, L, p1, rfl, o1, hE, hn1, hn, h1, hp1, k1⟩
  obtain ⟨b, cb, rfl⟩ := own_shape o1
  have z1 := k1.size
  have O1 := Lib.hid o1
  have HE := Lib.hid hE
  have H1 := Lib.hid h1
  have K1 := Lib.hid k1
  clear o1 hE h1 k1
  go_wp2_with fail
  refine (pick_any 12 _ r a c l p1 (by omega) (by omega) (by omega) H1.out).mono ?_
  rintro e w2 ⟨q, rfl, q0, q1, h2, k2⟩
  have z2 := k2.size
  have H2 := Lib.hid h2
  have O2 := Lib.hid (own_kept O1.out k2 (fun k hk e => by have := (O1.out.lt k hk).1; omega))
  have K2 := Lib.hid (K1.out.trans k2)
  clear h2 k2 q1 O1 K1 H1
  by_cases hq : q = 0
  · subst hq
    go_wp2_with fail
    refine (spoilSp_any _ r a c l (p1 + 1) (by omega) H2.out b cb L (own_el encSpace_len (by unfold maxLen; omega) O2.out) HE.out hn1 hn).mono ?_
    rintro e w3 ⟨v3, L3, p3, rfl, o3, hE3, hn3, h3, hp3, k3⟩
    have O3 := Lib.hid o3
    have HE3 := Lib.hid hE3
    have H3 := Lib.hid h3
    have K3 := Lib.hid k3
    clear o3 hE3 h3 k3
    go_wp2
    go_ret
    exact ⟨v3, L3, p3, rfl, own_mono (by omega) O3.out, HE3.out, hn3, H3.out, by omega, K2.out.trans K3.out⟩
  · have hq' : (q == 0) = false := by simp [hq]
    clear hq
    go_wp2
    go_ret
    exact ⟨_, L, p1 + 1, rfl, O2.out, HE.out, by omega, H2.out, by omega, K2.out⟩

def InPost (w : World) (r : Nat) (a : Option Addr) (c : Nat) (l : List UInt8) (p : Nat) (e : Ending) (w' : World) : Prop :=
  ∃ (s : ByteArray) (p' : Nat), e = .returned (.string s) ∧ s.size ≤ 3000 ∧ Rd w' r a c l p' ∧ p' ≤ p + 3 ∧ KeptOut (fun b => b = r) w w'
def litI6 : List ByteArray := [⟨#[97, 108, 108]⟩, ⟨#[97]⟩, ⟨#[98]⟩, ⟨#[99]⟩, ⟨#[100]⟩, ⟨#[120]⟩]
theorem litI6_size : ∀ s ∈ litI6, s.size ≤ 24 := by
  intro s hs
  simp only [litI6, List.mem_cons, List.not_mem_nil, or_false] at hs
  rcases hs with rfl | rfl | rfl | rfl | rfl | rfl <;> simp [ByteArray.size]

def UpDraw (w : World) (e : Ending) (w' : World) : Prop :=
  ∃ (v : Value) (L : List SpaceD) (s : ByteArray), e = .returned (.tuple #[v, .string s]) ∧ OwSpaceS w' w.heap.size w'.heap.size v L ∧ AnySp L ∧ L.length ≤ 7 ∧ s.size ≤ 3000 ∧ Below w.heap.size w w'
def InDraw (w : World) (e : Ending) (w' : World) : Prop :=
  ∃ (v : Value) (L : List SpaceD) (s t : ByteArray), e = .returned (.tuple #[v, .string s, .string t]) ∧ OwSpaceS w' w.heap.size w'.heap.size v L ∧ AnySp L ∧ L.length ≤ 7 ∧ s.size ≤ 3000 ∧ t.size ≤ 3000 ∧ Below w.heap.size w w'
theorem drawn_own {w w' : World} {base : Nat} {v : Value} {L : List SpaceD} (h : w'.ownsRow base 38 5 v L.length (L.flatMap encSpace)) (hb : w.heap.size ≤ base) (hn : L.length ≤ 7) (hE : AnySp L) : OwSpaceS w' w.heap.size w'.heap.size v L :=
  owSpaceS_of (own_mono hb h) (by unfold maxLen; omega) hE.ok
end Go.Proofs.Ytbdicaanniffpab
