import Derived.Test.YteejabpohnfoaaaDoorDrawList
import Derived.Test.YteejabpohnfoaaaDoorDrawKeyF
/- Drawn entries and one more. -/
namespace Go.Proofs.YteejabpohnfoaaaDoor
open Go Go.RowKit

theorem Box.setI4 {w : World} {b : Nat} {cs : List Value} (h : Box w b cs) (i : Nat) (v : Value) : Box (w.setCell ⟨b, i, none⟩ v) b (cs.set i v) := by
  intro j u hj
  by_cases e : i = j
  · subst e
    by_cases hi : i < cs.length
    · rw [List.getElem?_set_self hi] at hj
      cases hj
      obtain ⟨c0, f0⟩ := h i _ (List.getElem?_eq_getElem hi)
      exact ⟨by simp [go_sem, c0], by simpa [go_sem] using f0⟩
    · rw [List.getElem?_eq_none (by rw [List.length_set]; omega)] at hj
      cases hj
  · rw [List.getElem?_set_ne e] at hj
    obtain ⟨c0, f0⟩ := h j u hj
    exact ⟨by simpa [go_sem, e] using c0, by simpa [go_sem] using f0⟩
def PutPost (w : World) (e : Ending) (w' : World) : Prop :=
  ∃ (b : Option Addr) (cb : Nat) (L : List EntryD) (x : EntryD), e = .returned (.tuple #[.slice b L.length cb, .agg #[.string x.1, .int .i64 x.2.1, .bool x.2.2.1, .string x.2.2.2]]) ∧ ElS 4 encEntry w' b L ∧ L.length ≤ cb ∧ AnyE L ∧ L.length ≤ 241 ∧ x.1 ≠ ⟨#[122, 122]⟩ ∧ x.1.size ≤ 3000 ∧ x.2.2.2.size ≤ 3000 ∧ 0 ≤ x.2.1 ∧ x.2.1 ≤ 1000 ∧ Below w.heap.size w w'
set_option maxRecDepth 100000 in
set_option maxHeartbeats 4000000 in
theorem drawPut_any (a : Option Addr) (c : Nat) (l : List UInt8) (w : World) (hl : l.length ≤ c) (hc : c ≤ maxLen) (h : BytesS w a l) :
    Calls Tryd.prog 19 #[.slice a l.length c] w (PutPost w) := by
  obtain ⟨w0, hw0⟩ : ∃ W, w.alloc (.cells #[.string ⟨#[]⟩, .int .i64 0, .bool false, .string ⟨#[]⟩] 31) = W := ⟨_, rfl⟩
  have B0 := Lib.hid (show Below w.heap.size w w0 by rw [← hw0]; exact below_alloc _ _)
  have X0 := Lib.hid (show Box w0 w.heap.size [.string ⟨#[]⟩, .int .i64 0, .bool false, .string ⟨#[]⟩] by rw [← hw0]; exact Box.alloc w _ _)
  have HBY := Lib.hid (bytes_below B0.out h)
  have z0 : w.heap.size < w0.heap.size := X0.out.lt
  clear h
  go_enter Tryd.func19, Tryd.ntmps19
  go_wp2_with fail
  clear hw0
  refine (open_any a c l w0 hl hc HBY.out).mono ?_
  rintro e w1 ⟨c1, l1, rfl, h1, b1⟩
  have z1 : w0.heap.size < w1.heap.size := h1.lt
  have HAR := Lib.hid (rd_har h1)
  have H1 := Lib.hid h1
  have X1 := Lib.hid (X0.out.below b1)
  have B1 := Lib.hid b1
  clear h1 b1
  go_wp2_with fail
  refine (l12EntryF_any _ w0.heap.size a c1 l1 0 (by omega) H1.out).mono ?_
  rintro e w2 ⟨x0, x1, x2, x3, rfl, ⟨s0, hzz⟩, q1, q2, s3, h2, k2⟩
  have H2 := Lib.hid h2
  have z2 := k2.size
  have X2 := Lib.hid (X1.out.kept k2 (by omega))
  have K2 := Lib.hid k2
  clear h2 k2 H1 X1
  obtain ⟨w3, hw3⟩ : ∃ W, w2.alloc (.cells #[.string x0, .int .i64 x1, .bool x2, .string x3] 31) = W := ⟨_, rfl⟩
  have b23 : Below w2.heap.size w2 w3 := by rw [← hw3]; exact below_alloc _ _
  have Y3 := Lib.hid (show Box w3 w2.heap.size [.string x0, .int .i64 x1, .bool x2, .string x3] by rw [← hw3]; exact Box.alloc w2 _ _)
  have z3 : w2.heap.size < w3.heap.size := Y3.out.lt
  have X3 := Lib.hid (X2.out.below b23)
  have H3 := Lib.hid (H2.out.below b23)
  have K3 := Lib.hid (K2.out.trans (KeptOut.of_below (S := fun b => b = w0.heap.size) b23))
  clear X2 H2 K2 b23
  go_wp2_with fail
  clear hw3
  refine (pick_any 12 w3 w0.heap.size a c1 l1 4 (by omega) (by omega) (by omega) H3.out).mono ?_
  rintro e w4 ⟨q, rfl, q0, q11, h4, k4⟩
  have z4 := k4.size
  have H4 := Lib.hid h4
  have X4 := Lib.hid (X3.out.kept k4 (by omega))
  have Y4 := Lib.hid (Y3.out.kept k4 (by omega))
  have K4 := Lib.hid (K3.out.trans k4)
  clear h4 k4 H3 X3 Y3 K3 q11
  by_cases hq : q = 0
  · subst hq
    obtain ⟨y1, yf⟩ := Y4.out 1 _ rfl
    obtain ⟨w5, hw5⟩ : ∃ W, w4.setCell ⟨w2.heap.size, 1, none⟩ (.int .i64 0) = W := ⟨_, rfl⟩
    have Y5 := Lib.hid (show Box w5 w2.heap.size [.string x0, .int .i64 0, .bool x2, .string x3] by rw [← hw5]; exact Box.setI4 Y4.out 1 (.int .i64 0))
    have X5 := Lib.hid (show Box w5 w.heap.size [.string ⟨#[]⟩, .int .i64 0, .bool false, .string ⟨#[]⟩] by rw [← hw5]; exact X4.out.kept ((KeptOut.refl (fun b => b = w2.heap.size) w4).setCell (p := ⟨w2.heap.size, 1, none⟩) rfl _) (by omega))
    have H5 := Lib.hid (show Rd w5 w0.heap.size a c1 l1 (4 + 1) by rw [← hw5]; exact H4.out.kept2 ((KeptOut.refl (fun b => b = w2.heap.size) w4).setCell (p := ⟨w2.heap.size, 1, none⟩) rfl _) (by omega) (fun hn x hx => by have := HAR.out hn x hx; omega))
    have K5 := Lib.hid (show KeptOut (fun b => w0.heap.size ≤ b) w1 w5 by rw [← hw5]; exact ((K4.out.mono (fun b _ h => Nat.le_of_eq h.symm)).setCell (p := ⟨w2.heap.size, 1, none⟩) (by show w0.heap.size ≤ w2.heap.size; omega) _))
    go_wp2_with fail
    obtain ⟨⟨d0, -⟩, ⟨d1, -⟩, ⟨d2, -⟩, d3, -⟩ := show _ ∧ _ ∧ _ ∧ _ from ⟨Y5.out 0 _ rfl, Y5.out 1 _ rfl, Y5.out 2 _ rfl, Y5.out 3 _ rfl⟩
    go_region_law ((go_simp; go_at_call 40; refine (anyE_any _ w0.heap.size a c1 l1 (4 + 1) (by omega) (show Rd w5.drew w0.heap.size a c1 l1 (4 + 1) from H5.out)).mono ?_; rintro e w6 ⟨b, cb, L, p6, rfl, e6, hcb, hb, hE, hn, h6, hp6, k6⟩; have E6 := Lib.hid e6; have HE := Lib.hid hE; have K6 := Lib.hid (K5.out.trans (show KeptOut (fun b => w0.heap.size ≤ b) w5 w6 from (show KeptOut (fun b => w0.heap.size ≤ b) w5 w5.drew from ⟨rfl, rfl, rfl, Nat.le_refl _, fun _ _ _ => rfl⟩).trans (k6.mono (fun b _ h => Nat.le_of_eq h.symm)))); have Y6 := (show Box w5.drew w2.heap.size [.string x0, .int .i64 0, .bool x2, .string x3] from Y5.out).kept k6 (by omega); have X6 := (show Box w5.drew w.heap.size [.string ⟨#[]⟩, .int .i64 0, .bool false, .string ⟨#[]⟩] from X5.out).kept k6 (by omega); obtain ⟨⟨g0, -⟩, ⟨g1, -⟩, ⟨g2, -⟩, g3, -⟩ := show _ ∧ _ ∧ _ ∧ _ from ⟨Y6 0 _ rfl, Y6 1 _ rfl, Y6 2 _ rfl, Y6 3 _ rfl⟩; obtain ⟨⟨u0, v0⟩, ⟨u1, v1⟩, ⟨u2, v2⟩, u3, v3⟩ := show _ ∧ _ ∧ _ ∧ _ from ⟨X6 0 _ rfl, X6 1 _ rfl, X6 2 _ rfl, X6 3 _ rfl⟩; clear e6 hE h6 k6 Y6 X6))
    all_goals (go_wp2; exact bodyPost_ret (v := .tuple #[.slice b L.length cb, .agg #[.string x0, .int .i64 0, .bool x2, .string x3]]) (by simp [results, Tryd.results19, go_sem, u0, u1, u2, u3]) rfl ⟨b, cb, L, (x0, 0, x2, x3), rfl, E6.out.kept (S := fun b => b = w.heap.size) (by repeat (first | with_reducible exact KeptOut.refl _ _ | refine KeptOut.setCell ?_ (by exact rfl) _)) (fun k hk e => by have := hb k hk; have z5 : w1.heap.size ≤ w5.heap.size := K5.out.size; have z6 : w5.heap.size ≤ k := this; omega), hcb, HE.out, hn, hzz, by show x0.size ≤ 3000; omega, by show x3.size ≤ 3000; omega, by show (0 : Int) ≤ 0; omega, by show 0 ≤ (1000 : Int); omega, by have b6 := K6.out.below (B0.out.trans (B1.out.mono B0.out.size)) (by omega) (fun k hk => by have h : w0.heap.size ≤ k := hk; omega); repeat (first | with_reducible exact b6 | refine Below.setCell ?_ (by exact Nat.le_refl _) _)⟩)
  · obtain ⟨w5, rfl⟩ : ∃ W, W = w4 := ⟨_, rfl⟩
    have Y5 := Y4
    have X5 := X4
    have H5 := H4
    have K5 := Lib.hid (show KeptOut (fun b => w0.heap.size ≤ b) w1 w5 from K4.out.mono (fun b _ h => Nat.le_of_eq h.symm))
    clear Y4 X4 H4 K4
    go_wp2_with fail
    obtain ⟨⟨d0, -⟩, ⟨d1, -⟩, ⟨d2, -⟩, d3, -⟩ := show _ ∧ _ ∧ _ ∧ _ from ⟨Y5.out 0 _ rfl, Y5.out 1 _ rfl, Y5.out 2 _ rfl, Y5.out 3 _ rfl⟩
    go_region_law ((go_simp; go_at_call 40; refine (anyE_any _ w0.heap.size a c1 l1 (4 + 1) (by omega) (show Rd w5.drew w0.heap.size a c1 l1 (4 + 1) from H5.out)).mono ?_; rintro e w6 ⟨b, cb, L, p6, rfl, e6, hcb, hb, hE, hn, h6, hp6, k6⟩; have E6 := Lib.hid e6; have HE := Lib.hid hE; have K6 := Lib.hid (K5.out.trans (show KeptOut (fun b => w0.heap.size ≤ b) w5 w6 from (show KeptOut (fun b => w0.heap.size ≤ b) w5 w5.drew from ⟨rfl, rfl, rfl, Nat.le_refl _, fun _ _ _ => rfl⟩).trans (k6.mono (fun b _ h => Nat.le_of_eq h.symm)))); have Y6 := (show Box w5.drew w2.heap.size [.string x0, .int .i64 x1, .bool x2, .string x3] from Y5.out).kept k6 (by omega); have X6 := (show Box w5.drew w.heap.size [.string ⟨#[]⟩, .int .i64 0, .bool false, .string ⟨#[]⟩] from X5.out).kept k6 (by omega); obtain ⟨⟨g0, -⟩, ⟨g1, -⟩, ⟨g2, -⟩, g3, -⟩ := show _ ∧ _ ∧ _ ∧ _ from ⟨Y6 0 _ rfl, Y6 1 _ rfl, Y6 2 _ rfl, Y6 3 _ rfl⟩; obtain ⟨⟨u0, v0⟩, ⟨u1, v1⟩, ⟨u2, v2⟩, u3, v3⟩ := show _ ∧ _ ∧ _ ∧ _ from ⟨X6 0 _ rfl, X6 1 _ rfl, X6 2 _ rfl, X6 3 _ rfl⟩; clear e6 hE h6 k6 Y6 X6))
    all_goals (go_wp2; exact bodyPost_ret (v := .tuple #[.slice b L.length cb, .agg #[.string x0, .int .i64 x1, .bool x2, .string x3]]) (by simp [results, Tryd.results19, go_sem, u0, u1, u2, u3]) rfl ⟨b, cb, L, (x0, x1, x2, x3), rfl, E6.out.kept (S := fun b => b = w.heap.size) (by repeat (first | with_reducible exact KeptOut.refl _ _ | refine KeptOut.setCell ?_ (by exact rfl) _)) (fun k hk e => by have := hb k hk; have z5 : w1.heap.size ≤ w5.heap.size := K5.out.size; have z6 : w5.heap.size ≤ k := this; omega), hcb, HE.out, hn, hzz, by show x0.size ≤ 3000; omega, by show x3.size ≤ 3000; omega, by show (0 : Int) ≤ x1; omega, by show x1 ≤ (1000 : Int); omega, by have b6 := K6.out.below (B0.out.trans (B1.out.mono B0.out.size)) (by omega) (fun k hk => by have h : w0.heap.size ≤ k := hk; omega); repeat (first | with_reducible exact b6 | refine Below.setCell ?_ (by exact Nat.le_refl _) _)⟩)
end Go.Proofs.YteejabpohnfoaaaDoor
