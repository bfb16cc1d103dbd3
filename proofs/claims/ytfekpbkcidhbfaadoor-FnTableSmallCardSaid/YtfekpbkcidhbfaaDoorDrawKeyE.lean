import Derived.Test.YtfekpbkcidhbfaaDoorKept
import Derived.Test.YtfekpbkcidhbfaaDoorEntry
/- Drawn keys and entries. -/
namespace Go.Proofs.YtfekpbkcidhbfaaDoor
open Go Go.RowKit

def litK : List ByteArray := [⟨#[116, 46, 97, 46, 120]⟩, ⟨#[116, 46, 97, 46, 121]⟩, ⟨#[116, 46, 97, 98, 46, 120]⟩, ⟨#[115, 46, 97]⟩, ⟨#[117, 46, 97]⟩, ⟨#[109]⟩, ⟨#[112, 46, 48, 48, 48, 48, 48, 48, 48, 49]⟩, ⟨#[116, 46, 97, 46, 120, 120]⟩]
def litV : List ByteArray := [⟨#[]⟩, ⟨#[111, 110, 101]⟩, ⟨#[116, 119, 111, 32, 119, 111, 114, 100, 115]⟩, ⟨#[32, 120, 32]⟩]
def litP : List ByteArray := [⟨#[]⟩, ⟨#[116, 46]⟩, ⟨#[116, 46, 97]⟩, ⟨#[116, 46, 97, 46]⟩, ⟨#[115]⟩, ⟨#[122, 122]⟩]
theorem litK_size : ∀ s ∈ litK, s.size ≤ 24 := by
  intro s hs
  simp only [litK, List.mem_cons, List.not_mem_nil, or_false] at hs
  rcases hs with rfl | rfl | rfl | rfl | rfl | rfl | rfl | rfl <;> simp [ByteArray.size]
theorem litV_size : ∀ s ∈ litV, s.size ≤ 24 := by
  intro s hs
  simp only [litV, List.mem_cons, List.not_mem_nil, or_false] at hs
  rcases hs with rfl | rfl | rfl | rfl <;> simp [ByteArray.size]
theorem litP_size : ∀ s ∈ litP, s.size ≤ 24 := by
  intro s hs
  simp only [litP, List.mem_cons, List.not_mem_nil, or_false] at hs
  rcases hs with rfl | rfl | rfl | rfl | rfl | rfl <;> simp [ByteArray.size]

def KeyPost (w : World) (r : Nat) (a : Option Addr) (c : Nat) (l : List UInt8) (p : Nat) (e : Ending) (w' : World) : Prop :=
  ∃ s : ByteArray, e = .returned (.string s) ∧ s.size ≤ 24 ∧ Rd w' r a c l (p + 1) ∧ KeptOut (fun b => b = r) w w'
def EntPost (w : World) (r : Nat) (a : Option Addr) (c : Nat) (l : List UInt8) (p : Nat) (e : Ending) (w' : World) : Prop :=
  ∃ (x0 : ByteArray) (x1 : Int) (x2 : Bool) (x3 : ByteArray), e = .returned (.agg #[.string x0, .int .i64 x1, .bool x2, .string x3]) ∧ x0.size ≤ 24 ∧ 1 ≤ x1 ∧ x1 ≤ 9 ∧ x3.size ≤ 24 ∧ Rd w' r a c l (p + 4) ∧ KeptOut (fun b => b = r) w w'

set_option maxRecDepth 100000 in
set_option maxHeartbeats 800000 in
theorem l12Key_any (w : World) (r : Nat) (a : Option Addr) (c : Nat) (l : List UInt8) (p : Nat) (hp : p ≤ 1000000000) (h : Rd w r a c l p) :
    Calls Tryd.prog 75 #[.pointer (some ⟨r, 0, none⟩)] w (KeyPost w r a c l p) := by
  have hr : r < w.heap.size := h.lt
  go_enter Tryd.func75, Tryd.ntmps75
  go_wp2_with (go_at_call 57; refine (of_any _ r a c l p (by omega) (h.below (below_alloc w _)) w.heap.size 0 8 litK (by decide) (by decide) (by omega) (lit_cells w litK _)).mono ?_; rintro e w1 ⟨s, hs, rfl, h1, k1⟩; have H1 := Lib.hid h1; have K1 := Lib.hid k1; clear h1 k1)
  go_ret
  exact ⟨s, rfl, litK_size s hs, H1.out, (KeptOut.of_below (below_alloc w _)).trans K1.out⟩

set_option maxRecDepth 100000 in
set_option maxHeartbeats 800000 in
theorem l12Entry_any (w : World) (r : Nat) (a : Option Addr) (c : Nat) (l : List UInt8) (p : Nat) (hp : p ≤ 1000000000) (h : Rd w r a c l p) :
    Calls Tryd.prog 53 #[.pointer (some ⟨r, 0, none⟩)] w (EntPost w r a c l p) := by
  have hr : r < w.heap.size := h.lt
  have HAR := Lib.hid (rd_har h)
  have HR := Lib.hid h
  clear h
  go_enter Tryd.func53, Tryd.ntmps53
  go_wp2_with (first
    | (go_at_call 75; refine (l12Key_any _ r a c l p (by omega) (HR.out.below (below_alloc w _))).mono ?_; rintro e w1 ⟨x0, rfl, z0, h1, k1⟩; have bz := (Box.alloc w #[.string ⟨#[]⟩, .int .i64 0, .bool false, .string ⟨#[]⟩] 32).kept k1 (by omega); have K1 := (KeptOut.of_below (S := fun b => b = r) (below_alloc w (.cells #[.string ⟨#[]⟩, .int .i64 0, .bool false, .string ⟨#[]⟩] 32))).trans k1; have H1 := Lib.hid h1; have s1 := k1.size; simp only [World.size_alloc] at s1; have BZ := Lib.hid bz; clear h1 k1 bz HR)
    | (go_at_call 37; refine (pick_any 9 _ r a c l (p + 1) (by omega) (by omega) (by omega) H1.out).mono ?_; rintro e w2 ⟨q, rfl, q0, q1, h2, k2⟩; have q1' := q1 (by omega); have H2 := Lib.hid h2; have K2 := K1.trans k2; have s2 := k2.size; have BZ2 := Lib.hid (BZ.out.kept k2 (by omega)); clear h2 k2 q1 H1)
    | (go_at_call 57; refine (of_any _ r a c l (p + 1 + 1) (by omega) (H2.out.below (below_alloc w2 _)) w2.heap.size 0 4 litV (by decide) (by decide) (by omega) (lit_cells w2 litV _)).mono ?_; rintro e w3 ⟨x3, hx3, rfl, h3, k3⟩; have K3 := (K2.trans (KeptOut.of_below (S := fun b => b = r) (below_alloc w2 (.cells (litV.map Value.string).toArray 9)))).trans k3; have H3 := Lib.hid h3; have s3 := k3.size; simp only [World.size_alloc] at s3; have BZ3 := Lib.hid (((BZ2.out.below (below_alloc w2 (.cells (litV.map Value.string).toArray 9)))).kept k3 (by omega)); clear h3 k3 H2)
    | (go_at_call 37; refine (pick_any 4 _ r a c l (p + 1 + 1 + 1) (by omega) (by omega) (by omega) (H3.out.below (below_alloc w3 _))).mono ?_; rintro e w4 ⟨q4, rfl, q40, q41, h4, k4⟩; have K4 := (K3.trans (KeptOut.of_below (S := fun b => b = r) (below_alloc w3 (.cells #[.string x0, .int .i64 (1 + q), .bool false, .string x3] 32)))).trans k4; have H4 := Lib.hid h4; have s4 := k4.size; simp only [World.size_alloc] at s4; have bz4 := ((BZ3.out.below (below_alloc w3 (.cells #[.string x0, .int .i64 (1 + q), .bool false, .string x3] 32)))).kept k4 (by omega); have bx4 := (Box.alloc w3 #[.string x0, .int .i64 (1 + q), .bool false, .string x3] 32).kept k4 (by omega); clear h4 k4 q41; obtain ⟨⟨u0, v0⟩, ⟨u1, v1⟩, ⟨u2, v2⟩, u3, v3⟩ := show _ ∧ _ ∧ _ ∧ _ from ⟨bz4 0 _ rfl, bz4 1 _ rfl, bz4 2 _ rfl, bz4 3 _ rfl⟩; obtain ⟨⟨y0, f0⟩, ⟨y1, f1⟩, ⟨y2, f2⟩, y3, f3⟩ := show _ ∧ _ ∧ _ ∧ _ from ⟨bx4 0 _ rfl, bx4 1 _ rfl, bx4 2 _ rfl, bx4 3 _ rfl⟩))
  · exact bodyPost_ret (v := .agg #[.string x0, .int .i64 (1 + q), .bool true, .string ⟨#[]⟩]) (by simp [results, Tryd.results53, go_sem, u0, u1, u2, u3]) rfl ⟨x0, 1 + q, true, ⟨#[]⟩, rfl, z0, by omega, by omega, by decide,
      H4.out.kept2 (S := fun b => w.heap.size ≤ b) (by repeat (first | refine KeptOut.setCell ?_ (by first | exact Nat.le_refl _ | (simp; done) | (simp; omega)) _ | exact KeptOut.refl _ _)) (by omega) (fun hn x hx => by have := HAR.out hn x hx; omega), K4.step (by repeat (first | refine KeptOut.setCell ?_ (by first | exact Nat.le_refl _ | (simp; done) | (simp; omega)) _ | exact KeptOut.refl _ _)) (fun b hb => .inl hb)⟩
  · exact bodyPost_ret (v := .agg #[.string x0, .int .i64 (1 + q), .bool false, .string x3]) (by simp [results, Tryd.results53, go_sem, u0, u1, u2, u3]) rfl ⟨x0, 1 + q, false, x3, rfl, z0, by omega, by omega, litV_size x3 hx3,
      H4.out.kept2 (S := fun b => w.heap.size ≤ b) (by repeat (first | refine KeptOut.setCell ?_ (by first | exact Nat.le_refl _ | (simp; done) | (simp; omega)) _ | exact KeptOut.refl _ _)) (by omega) (fun hn x hx => by have := HAR.out hn x hx; omega), K4.step (by repeat (first | refine KeptOut.setCell ?_ (by first | exact Nat.le_refl _ | (simp; done) | (simp; omega)) _ | exact KeptOut.refl _ _)) (fun b hb => .inl hb)⟩
end Go.Proofs.YtfekpbkcidhbfaaDoor
