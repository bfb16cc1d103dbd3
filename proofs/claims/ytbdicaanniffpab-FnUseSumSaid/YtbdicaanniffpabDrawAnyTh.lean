import Derived.Test.YtbdicaanniffpabDrawTh
import Derived.Test.YtbdicaanniffpabMany
/- Drawn things, some spoilt. -/
namespace Go.Proofs.Ytbdicaanniffpab
open Go Go.RowKit

theorem MkS.keptX {S : Nat → Prop} {B n c : Nat} {a : Option Addr} {R : List ByteArray} {w w' : World} (h : MkS w B (.slice a n c) R) (hS : ∀ g, a = some ⟨g, 0, none⟩ → ¬ S g) (hk : KeptOut S w w') : MkS w' B (.slice a n c) R := by
  obtain ⟨a1, c1, e, hc, he, hn⟩ := h
  cases e
  refine ⟨a, c, rfl, hc, he.kept hk (fun k hk => ?_), hn⟩
  rcases hn with ⟨rfl, _⟩ | ⟨_, g, rfl, hg⟩
  · simp at hk
  · simp at hk; subst hk; exact hS _ rfl
theorem MkS.bnd {B n c : Nat} {a : Option Addr} {R : List ByteArray} {w : World} (h : MkS w B (.slice a n c) R) : ∀ g, a = some ⟨g, 0, none⟩ → B ≤ g ∧ g < w.heap.size := by
  obtain ⟨a1, c1, e, hc, he, hn⟩ := h
  cases e
  rintro g rfl
  rcases hn with ⟨h1, _⟩ | ⟨h1, g', e, hg⟩
  · cases h1
  · cases e
    refine ⟨hg, ?_⟩
    obtain ⟨b, o, e, hcell⟩ := he.2.resolve_left h1
    cases e
    have h0 := hcell 0 (List.length_pos_iff.2 h1) 0 _ rfl
    have := World.block_lt_of_cell? w _ h0
    simpa using this
theorem mk_lit {B : Nat} {W : World} {g : Nat} (R : List ByteArray) (hR : R ≠ []) (hl : R.length ≤ maxLen) (hg : B ≤ g) (hc : ∀ j (h : j < R.length), W.cell? ⟨g, 0 + j, none⟩ = some (.string R[j])) : MkS W B (.slice (some ⟨g, 0, none⟩) R.length R.length) R :=
  ⟨_, _, rfl, Nat.le_refl _, ⟨by omega, .inr ⟨g, 0, rfl, fun j hj i v hv => by
    have := hc j hj
    match i, hv with
    | 0, hv => cases hv; simpa using this
    | n + 1, hv => simp [encS1] at hv⟩⟩, .inr ⟨hR, g, rfl, hg⟩⟩
theorem anyTh_of {w w8 W : World} {r c p p' T R n : Nat} {a : Option Addr} {l : List UInt8} {am : Option Addr} {cm : Nat} (t : ThingD) (KS : KeptOut (fun b => b = T ∨ b = R) w8 W) (hT : w.heap.size ≤ T) (hR : w.heap.size ≤ R) (hr : r < w.heap.size) (har : l ≠ [] → ∀ x, a = some x → x.block < w.heap.size)
    (hm : MkS w8 w.heap.size (.slice am t.marks.length cm) t.marks) (hg : ∀ g, am = some ⟨g, 0, none⟩ → g ≠ T ∧ g ≠ R) (ht : AnyTh t) (hrd : Rd w8 r a c l p') (hp : p' ≤ p + n) (hk : KeptOut (fun b => b = r) w w8) : DrawThP w r a c l p n (.returned (thingV am cm t)) W :=
  ⟨am, cm, t, p', rfl, hm.keptX (fun g e h => h.elim (hg g e).1 (hg g e).2) KS, ht, hrd.kept2 KS (by omega) (fun hn x hx => by have := har hn x hx; omega), hp, hk.step KS (fun b hb => .inl (by omega))⟩

theorem two_intsT (x y : Int) (n : Nat) (h : n < 2) : ∃ z : Int, ([Value.int .i64 x, Value.int .i64 y] : List Value)[n]? = some (.int .i64 z) := by
  rcases (show n = 0 ∨ n = 1 by omega) with rfl | rfl
  · exact ⟨_, rfl⟩
  · exact ⟨_, rfl⟩
theorem two_strs {x y : ByteArray} (hx : x.size ≤ 64) (hy : y.size ≤ 64) (n : Nat) (h : n < 2) : ∃ z : ByteArray, z.size ≤ 64 ∧ ([Value.string x, Value.string y] : List Value)[n]? = some (.string z) := by
  rcases (show n = 0 ∨ n = 1 by omega) with rfl | rfl
  · exact ⟨_, hx, rfl⟩
  · exact ⟨_, hy, rfl⟩
set_option maxRecDepth 100000 in
set_option maxHeartbeats 4000000 in
theorem l13AnyThing_any (w : World) (r : Nat) (a : Option Addr) (c : Nat) (l : List UInt8) (p : Nat) (hp : p ≤ 1000000) (h : Rd w r a c l p) :
    Calls Try.prog 27 #[.pointer (some ⟨r, 0, none⟩)] w (DrawThP w r a c l p 34) := by
  have hr : r < w.heap.size := h.lt
  have HAR := Lib.hid (rd_har h)
  have HR := Lib.hid h
  clear h
  go_enter Try.func27, Try.ntmps27
  go_wp2_with fail
  obtain ⟨wA, hA⟩ : ∃ wA, w.alloc (Obj.cells #[.string ⟨#[]⟩, .string ⟨#[]⟩, .int .i64 0, .int .i64 0, .bool false, .slice none 0 0, .string ⟨#[]⟩] 25) = wA := ⟨_, rfl⟩
  have zA : wA.heap.size = w.heap.size + 1 := by rw [← hA, World.size_alloc]
  have BX := Lib.hid (show Box wA w.heap.size [.string ⟨#[]⟩, .string ⟨#[]⟩, .int .i64 0, .int .i64 0, .bool false, .slice none 0 0, .string ⟨#[]⟩] by rw [← hA]; exact Box.alloc w _ _)
  have BA := Lib.hid (show Below w.heap.size w wA by rw [← hA]; exact below_alloc _ _)
  rw [hA]
  clear hA
  refine (l13Thing_any wA r a c l p (by omega) (HR.out.below BA.out)).mono ?_
  rintro e w1 ⟨am, cm, t, p1, rfl, m1, ht, h1, hp1, k1⟩
  obtain ⟨sp, nm, uid, rev, gone, ms, bo⟩ := t
  obtain ⟨t1, t2, t3, t4, t5⟩ := ht
  simp only at t1 t2 t3 t4 t5 m1
  have hgm := m1.bnd
  have z1 := k1.size
  have M1 := Lib.hid (m1.mono (show w.heap.size ≤ wA.heap.size by omega))
  have K1 := Lib.hid ((KeptOut.of_below (S := fun b => b = r) BA.out).trans k1)
  have BX1 := Lib.hid (BX.out.kept k1 (by omega))
  have H1 := Lib.hid h1
  have T4 := Lib.hid t4
  clear m1 h1 k1 t4 BX BA HR
  unfold thingV
  dsimp only
  go_wp2_with fail
  obtain ⟨wB, hB⟩ : ∃ wB, w1.alloc (Obj.cells #[.string sp, .string nm, .int .i64 uid, .int .i64 rev, .bool gone, .slice am ms.length cm, .string bo] 25) = wB := ⟨_, rfl⟩
  have zB : wB.heap.size = w1.heap.size + 1 := by rw [← hB, World.size_alloc]
  have BY := Lib.hid (show Box wB w1.heap.size [.string sp, .string nm, .int .i64 uid, .int .i64 rev, .bool gone, .slice am ms.length cm, .string bo] by rw [← hB]; exact Box.alloc w1 _ _)
  have BB := Lib.hid (show Below w1.heap.size w1 wB by rw [← hB]; exact below_alloc _ _)
  rw [hB]
  clear hB
  refine (pick_any 20 _ r a c l p1 (by omega) (by omega) (by omega) (H1.out.below BB.out)).mono ?_
  rintro e w2 ⟨q, rfl, q0, q1, h2, k2⟩
  have q2 := q1 (by omega)
  obtain ⟨k, rfl⟩ := Int.eq_ofNat_of_zero_le q0
  have z2 := k2.size
  have K2 := Lib.hid ((K1.out.trans (KeptOut.of_below (S := fun b => b = r) BB.out)).trans k2)
  have M2 := Lib.hid ((M1.out.keptX (S := fun _ => False) (fun _ _ h => h) (KeptOut.of_below BB.out)).kept hr k2)
  have BX2 := Lib.hid ((BX1.out.below BB.out).kept k2 (by omega))
  have BY2 := Lib.hid (BY.out.kept k2 (by omega))
  have H2 := Lib.hid h2
  have HG := Lib.hid (show ∀ g, am = some ⟨g, 0, none⟩ → g ≠ w1.heap.size ∧ g ≠ w.heap.size from fun g e => by have := hgm g e; omega)
  have hTR : w1.heap.size ≠ w.heap.size := by omega
  have hRT : w.heap.size ≠ w1.heap.size := by omega
  clear h2 k2 q1 q0 hgm K1 M1 BX1 BY BB H1
  rcases (show k = 0 ∨ k = 1 ∨ k = 2 ∨ k = 3 ∨ k = 4 ∨ k = 5 ∨ k = 6 ∨ 7 ≤ k by omega) with rfl | rfl | rfl | rfl | rfl | rfl | rfl | h7
  · go_wp2_with fail
    refine (pick_any 2 _ r a c l (p1 + 1) (by omega) (by omega) (by omega) (H2.out.below (below_alloc w2 _))).mono ?_
    rintro e w3 ⟨q3, rfl, q30, q31, h3, k3⟩
    have z3 := k3.size
    simp only [World.size_alloc] at z3
    have K3 := Lib.hid ((K2.out.trans (KeptOut.of_below (S := fun b => b = r) (below_alloc w2 _))).trans k3)
    have M3 := Lib.hid ((M2.out.keptX (S := fun _ => False) (fun _ _ h => h) (KeptOut.of_below (below_alloc w2 _))).kept hr k3)
    have BX3 := Lib.hid ((BX2.out.below (below_alloc w2 _)).kept k3 (by omega))
    have BY3 := Lib.hid ((BY2.out.below (below_alloc w2 _)).kept k3 (by omega))
    have H3 := Lib.hid h3
    have q31' := q31 (by omega)
    obtain ⟨n3, rfl⟩ := Int.eq_ofNat_of_zero_le q30
    have hn3 : (n3 : Int) < 2 := q31'
    obtain ⟨z, hz⟩ := two_intsT 0 100000 n3 (by omega)
    have cz : w3.cell? ⟨w2.heap.size, n3, none⟩ = some (.int .i64 z) := ((Box.alloc w2 #[.int .i64 0, .int .i64 100000] 3).kept k3 (by omega) n3 _ hz).1
    clear h3 k3 q31 hz H2 K2 M2 BX2 BY2
    obtain ⟨⟨y0, v0⟩, ⟨y1, v1⟩, ⟨y2, v2⟩, ⟨y3, v3⟩, ⟨y4, v4⟩, ⟨y5, v5⟩, y6, v6⟩ := show _ ∧ _ ∧ _ ∧ _ ∧ _ ∧ _ ∧ _ from ⟨BY3.out 0 _ rfl, BY3.out 1 _ rfl, BY3.out 2 _ rfl, BY3.out 3 _ rfl, BY3.out 4 _ rfl, BY3.out 5 _ rfl, BY3.out 6 _ rfl⟩
    obtain ⟨⟨x0, u0⟩, ⟨x1, u1⟩, ⟨x2, u2⟩, ⟨x3, u3⟩, ⟨x4, u4⟩, ⟨x5, u5⟩, x6, u6⟩ := show _ ∧ _ ∧ _ ∧ _ ∧ _ ∧ _ ∧ _ from ⟨BX3.out 0 _ rfl, BX3.out 1 _ rfl, BX3.out 2 _ rfl, BX3.out 3 _ rfl, BX3.out 4 _ rfl, BX3.out 5 _ rfl, BX3.out 6 _ rfl⟩
    go_wp2
    refine bodyPost_ret (v := thingV am cm ⟨sp, nm, z, rev, gone, ms, bo⟩) (by simp [results, Try.results27, go_sem, thingV, x0, x1, x2, x3, x4, x5, x6]) rfl (anyTh_of (T := w1.heap.size) (R := w.heap.size) ⟨sp, nm, z, rev, gone, ms, bo⟩ ?_ (by omega) (Nat.le_refl _) hr HAR.out M3.out HG.out ⟨t1, t2, t3, T4.out, t5⟩ H3.out (by omega) K3.out)
    repeat (first | with_reducible exact KeptOut.refl _ _ | refine KeptOut.setCell ?_ (by first | exact .inl rfl | exact .inr rfl) _)
  · go_wp2_with fail
    refine (of_any _ r a c l (p1 + 1) (by omega) (H2.out.below (below_alloc w2 _)) w2.heap.size 0 3 [⟨#[]⟩, ⟨#[65]⟩, ⟨#[116, 111, 111, 108, 111, 110, 103]⟩] (by simp) (by simp) (by omega) (lit_cells w2 [⟨#[]⟩, ⟨#[65]⟩, ⟨#[116, 111, 111, 108, 111, 110, 103]⟩] _)).mono ?_
    rintro e w3 ⟨y, hy, rfl, h3, k3⟩
    have z3 := k3.size
    simp only [World.size_alloc] at z3
    have K3 := Lib.hid ((K2.out.trans (KeptOut.of_below (S := fun b => b = r) (below_alloc w2 _))).trans k3)
    have M3 := Lib.hid ((M2.out.keptX (S := fun _ => False) (fun _ _ h => h) (KeptOut.of_below (below_alloc w2 _))).kept hr k3)
    have BX3 := Lib.hid ((BX2.out.below (below_alloc w2 _)).kept k3 (by omega))
    have BY3 := Lib.hid ((BY2.out.below (below_alloc w2 _)).kept k3 (by omega))
    have H3 := Lib.hid h3
    have hys : y.size ≤ 24 := by
      simp only [List.mem_cons, List.not_mem_nil, or_false] at hy
      rcases hy with rfl | rfl | rfl <;> decide
    clear h3 k3 hy H2 K2 M2 BX2 BY2
    obtain ⟨⟨y0, v0⟩, ⟨y1, v1⟩, ⟨y2, v2⟩, ⟨y3, v3⟩, ⟨y4, v4⟩, ⟨y5, v5⟩, y6, v6⟩ := show _ ∧ _ ∧ _ ∧ _ ∧ _ ∧ _ ∧ _ from ⟨BY3.out 0 _ rfl, BY3.out 1 _ rfl, BY3.out 2 _ rfl, BY3.out 3 _ rfl, BY3.out 4 _ rfl, BY3.out 5 _ rfl, BY3.out 6 _ rfl⟩
    obtain ⟨⟨x0, u0⟩, ⟨x1, u1⟩, ⟨x2, u2⟩, ⟨x3, u3⟩, ⟨x4, u4⟩, ⟨x5, u5⟩, x6, u6⟩ := show _ ∧ _ ∧ _ ∧ _ ∧ _ ∧ _ ∧ _ from ⟨BX3.out 0 _ rfl, BX3.out 1 _ rfl, BX3.out 2 _ rfl, BX3.out 3 _ rfl, BX3.out 4 _ rfl, BX3.out 5 _ rfl, BX3.out 6 _ rfl⟩
    go_wp2
    refine bodyPost_ret (v := thingV am cm ⟨sp, y, uid, rev, gone, ms, bo⟩) (by simp [results, Try.results27, go_sem, thingV, x0, x1, x2, x3, x4, x5, x6]) rfl (anyTh_of (T := w1.heap.size) (R := w.heap.size) ⟨sp, y, uid, rev, gone, ms, bo⟩ ?_ (by omega) (Nat.le_refl _) hr HAR.out M3.out HG.out ⟨t1, hys, t3, T4.out, t5⟩ H3.out (by omega) K3.out)
    repeat (first | with_reducible exact KeptOut.refl _ _ | refine KeptOut.setCell ?_ (by first | exact .inl rfl | exact .inr rfl) _)
  · have BN : Below w2.heap.size w2 (w2.alloc (Obj.cells #[.string ⟨#[109]⟩, .string ⟨#[107]⟩] 9)) := below_alloc w2 _
    have MN := Lib.hid (mk_lit (B := w.heap.size) (W := w2.alloc (Obj.cells #[.string ⟨#[109]⟩, .string ⟨#[107]⟩] 9)) (g := w2.heap.size) [⟨#[109]⟩, ⟨#[107]⟩] (by simp) (by unfold maxLen; simp) (by omega) (lit_cells w2 [⟨#[109]⟩, ⟨#[107]⟩] _))
    have K3 := Lib.hid (K2.out.trans (KeptOut.of_below (S := fun b => b = r) BN))
    have BX3 := Lib.hid (BX2.out.below BN)
    have BY3 := Lib.hid (BY2.out.below BN)
    have H3 := Lib.hid (H2.out.below BN)
    have HN := Lib.hid (show ∀ g, (some ⟨w2.heap.size, 0, none⟩ : Option Addr) = some ⟨g, 0, none⟩ → g ≠ w1.heap.size ∧ g ≠ w.heap.size from fun g e => by cases e; omega)
    clear BN H2 K2 M2 BX2 BY2
    obtain ⟨⟨y0, v0⟩, ⟨y1, v1⟩, ⟨y2, v2⟩, ⟨y3, v3⟩, ⟨y4, v4⟩, ⟨y5, v5⟩, y6, v6⟩ := show _ ∧ _ ∧ _ ∧ _ ∧ _ ∧ _ ∧ _ from ⟨BY3.out 0 _ rfl, BY3.out 1 _ rfl, BY3.out 2 _ rfl, BY3.out 3 _ rfl, BY3.out 4 _ rfl, BY3.out 5 _ rfl, BY3.out 6 _ rfl⟩
    obtain ⟨⟨x0, u0⟩, ⟨x1, u1⟩, ⟨x2, u2⟩, ⟨x3, u3⟩, ⟨x4, u4⟩, ⟨x5, u5⟩, x6, u6⟩ := show _ ∧ _ ∧ _ ∧ _ ∧ _ ∧ _ ∧ _ from ⟨BX3.out 0 _ rfl, BX3.out 1 _ rfl, BX3.out 2 _ rfl, BX3.out 3 _ rfl, BX3.out 4 _ rfl, BX3.out 5 _ rfl, BX3.out 6 _ rfl⟩
    go_wp2
    refine bodyPost_ret (v := thingV (some ⟨w2.heap.size, 0, none⟩) 2 ⟨sp, nm, uid, rev, gone, [⟨#[109]⟩, ⟨#[107]⟩], bo⟩) (by simp [results, Try.results27, go_sem, thingV, x0, x1, x2, x3, x4, x5, x6]) rfl (anyTh_of (T := w1.heap.size) (R := w.heap.size) ⟨sp, nm, uid, rev, gone, [⟨#[109]⟩, ⟨#[107]⟩], bo⟩ ?_ (by omega) (Nat.le_refl _) hr HAR.out MN.out HN.out ⟨t1, t2, t3, by intro s hs; simp only [List.mem_cons, List.not_mem_nil, or_false] at hs; rcases hs with rfl | rfl <;> decide, by simp⟩ H3.out (by omega) K3.out)
    repeat (first | with_reducible exact KeptOut.refl _ _ | refine KeptOut.setCell ?_ (by first | exact .inl rfl | exact .inr rfl) _)
  · go_wp2_with fail
    refine (many_any ⟨#[98]⟩ 41 _ (by decide) (by decide)).mono ?_
    rintro e wm ⟨⟨tx, htx, rfl⟩, rfl⟩
    have htx' : tx.size ≤ 64 := by rw [htx]; decide
    have HTX := Lib.hid htx
    clear htx
    go_wp2_with fail
    refine (pick_any 2 _ r a c l (p1 + 1) (by omega) (by omega) (by omega) (H2.out.below (below_alloc w2 _))).mono ?_
    rintro e w3 ⟨q3, rfl, q30, q31, h3, k3⟩
    have z3 := k3.size
    simp only [World.size_alloc] at z3
    have K3 := Lib.hid ((K2.out.trans (KeptOut.of_below (S := fun b => b = r) (below_alloc w2 _))).trans k3)
    have M3 := Lib.hid ((M2.out.keptX (S := fun _ => False) (fun _ _ h => h) (KeptOut.of_below (below_alloc w2 _))).kept hr k3)
    have BX3 := Lib.hid ((BX2.out.below (below_alloc w2 _)).kept k3 (by omega))
    have BY3 := Lib.hid ((BY2.out.below (below_alloc w2 _)).kept k3 (by omega))
    have H3 := Lib.hid h3
    have q31' := q31 (by omega)
    obtain ⟨n3, rfl⟩ := Int.eq_ofNat_of_zero_le q30
    have hn3 : (n3 : Int) < 2 := q31'
    obtain ⟨z, hzs, hz⟩ := two_strs (x := ⟨#[10]⟩) (y := tx) (by decide) htx' n3 (by omega)
    have cz : w3.cell? ⟨w2.heap.size, n3, none⟩ = some (.string z) := ((Box.alloc w2 #[.string ⟨#[10]⟩, .string tx] 9).kept k3 (by omega) n3 _ hz).1
    clear h3 k3 q31 hz H2 K2 M2 BX2 BY2
    obtain ⟨⟨y0, v0⟩, ⟨y1, v1⟩, ⟨y2, v2⟩, ⟨y3, v3⟩, ⟨y4, v4⟩, ⟨y5, v5⟩, y6, v6⟩ := show _ ∧ _ ∧ _ ∧ _ ∧ _ ∧ _ ∧ _ from ⟨BY3.out 0 _ rfl, BY3.out 1 _ rfl, BY3.out 2 _ rfl, BY3.out 3 _ rfl, BY3.out 4 _ rfl, BY3.out 5 _ rfl, BY3.out 6 _ rfl⟩
    obtain ⟨⟨x0, u0⟩, ⟨x1, u1⟩, ⟨x2, u2⟩, ⟨x3, u3⟩, ⟨x4, u4⟩, ⟨x5, u5⟩, x6, u6⟩ := show _ ∧ _ ∧ _ ∧ _ ∧ _ ∧ _ ∧ _ from ⟨BX3.out 0 _ rfl, BX3.out 1 _ rfl, BX3.out 2 _ rfl, BX3.out 3 _ rfl, BX3.out 4 _ rfl, BX3.out 5 _ rfl, BX3.out 6 _ rfl⟩
    go_wp2
    refine bodyPost_ret (v := thingV am cm ⟨sp, nm, uid, rev, gone, ms, z⟩) (by simp [results, Try.results27, go_sem, thingV, x0, x1, x2, x3, x4, x5, x6]) rfl (anyTh_of (T := w1.heap.size) (R := w.heap.size) ⟨sp, nm, uid, rev, gone, ms, z⟩ ?_ (by omega) (Nat.le_refl _) hr HAR.out M3.out HG.out ⟨t1, t2, hzs, T4.out, t5⟩ H3.out (by omega) K3.out)
    repeat (first | with_reducible exact KeptOut.refl _ _ | refine KeptOut.setCell ?_ (by first | exact .inl rfl | exact .inr rfl) _)
  · obtain ⟨⟨y0, v0⟩, ⟨y1, v1⟩, ⟨y2, v2⟩, ⟨y3, v3⟩, ⟨y4, v4⟩, ⟨y5, v5⟩, y6, v6⟩ := show _ ∧ _ ∧ _ ∧ _ ∧ _ ∧ _ ∧ _ from ⟨BY2.out 0 _ rfl, BY2.out 1 _ rfl, BY2.out 2 _ rfl, BY2.out 3 _ rfl, BY2.out 4 _ rfl, BY2.out 5 _ rfl, BY2.out 6 _ rfl⟩
    obtain ⟨⟨x0, u0⟩, ⟨x1, u1⟩, ⟨x2, u2⟩, ⟨x3, u3⟩, ⟨x4, u4⟩, ⟨x5, u5⟩, x6, u6⟩ := show _ ∧ _ ∧ _ ∧ _ ∧ _ ∧ _ ∧ _ from ⟨BX2.out 0 _ rfl, BX2.out 1 _ rfl, BX2.out 2 _ rfl, BX2.out 3 _ rfl, BX2.out 4 _ rfl, BX2.out 5 _ rfl, BX2.out 6 _ rfl⟩
    go_wp2
    refine bodyPost_ret (v := thingV none 0 ⟨sp, nm, uid, rev, true, [], bo⟩) (by simp [results, Try.results27, go_sem, thingV, x0, x1, x2, x3, x4, x5, x6]) rfl (anyTh_of (T := w1.heap.size) (R := w.heap.size) ⟨sp, nm, uid, rev, true, [], bo⟩ ?_ (by omega) (Nat.le_refl _) hr HAR.out ⟨none, 0, rfl, Nat.zero_le _, ⟨by simp, .inl rfl⟩, .inl ⟨rfl, rfl, rfl⟩⟩ (fun g e => by cases e) ⟨t1, t2, t3, by simp, by simp⟩ H2.out (by omega) K2.out)
    repeat (first | with_reducible exact KeptOut.refl _ _ | refine KeptOut.setCell ?_ (by first | exact .inl rfl | exact .inr rfl) _)
  · have BN : Below w2.heap.size w2 (w2.alloc (Obj.cells #[.string ⟨#[107]⟩, .string ⟨#[108]⟩, .string ⟨#[109]⟩] 9)) := below_alloc w2 _
    have MN := Lib.hid (mk_lit (B := w.heap.size) (W := w2.alloc (Obj.cells #[.string ⟨#[107]⟩, .string ⟨#[108]⟩, .string ⟨#[109]⟩] 9)) (g := w2.heap.size) [⟨#[107]⟩, ⟨#[108]⟩, ⟨#[109]⟩] (by simp) (by unfold maxLen; simp) (by omega) (lit_cells w2 [⟨#[107]⟩, ⟨#[108]⟩, ⟨#[109]⟩] _))
    have K3 := Lib.hid (K2.out.trans (KeptOut.of_below (S := fun b => b = r) BN))
    have BX3 := Lib.hid (BX2.out.below BN)
    have BY3 := Lib.hid (BY2.out.below BN)
    have H3 := Lib.hid (H2.out.below BN)
    have HN := Lib.hid (show ∀ g, (some ⟨w2.heap.size, 0, none⟩ : Option Addr) = some ⟨g, 0, none⟩ → g ≠ w1.heap.size ∧ g ≠ w.heap.size from fun g e => by cases e; omega)
    clear BN H2 K2 M2 BX2 BY2
    obtain ⟨⟨y0, v0⟩, ⟨y1, v1⟩, ⟨y2, v2⟩, ⟨y3, v3⟩, ⟨y4, v4⟩, ⟨y5, v5⟩, y6, v6⟩ := show _ ∧ _ ∧ _ ∧ _ ∧ _ ∧ _ ∧ _ from ⟨BY3.out 0 _ rfl, BY3.out 1 _ rfl, BY3.out 2 _ rfl, BY3.out 3 _ rfl, BY3.out 4 _ rfl, BY3.out 5 _ rfl, BY3.out 6 _ rfl⟩
    obtain ⟨⟨x0, u0⟩, ⟨x1, u1⟩, ⟨x2, u2⟩, ⟨x3, u3⟩, ⟨x4, u4⟩, ⟨x5, u5⟩, x6, u6⟩ := show _ ∧ _ ∧ _ ∧ _ ∧ _ ∧ _ ∧ _ from ⟨BX3.out 0 _ rfl, BX3.out 1 _ rfl, BX3.out 2 _ rfl, BX3.out 3 _ rfl, BX3.out 4 _ rfl, BX3.out 5 _ rfl, BX3.out 6 _ rfl⟩
    go_wp2
    refine bodyPost_ret (v := thingV (some ⟨w2.heap.size, 0, none⟩) 3 ⟨sp, nm, uid, rev, gone, [⟨#[107]⟩, ⟨#[108]⟩, ⟨#[109]⟩], bo⟩) (by simp [results, Try.results27, go_sem, thingV, x0, x1, x2, x3, x4, x5, x6]) rfl (anyTh_of (T := w1.heap.size) (R := w.heap.size) ⟨sp, nm, uid, rev, gone, [⟨#[107]⟩, ⟨#[108]⟩, ⟨#[109]⟩], bo⟩ ?_ (by omega) (Nat.le_refl _) hr HAR.out MN.out HN.out ⟨t1, t2, t3, by intro s hs; simp only [List.mem_cons, List.not_mem_nil, or_false] at hs; rcases hs with rfl | rfl | rfl <;> decide, by simp⟩ H3.out (by omega) K3.out)
    repeat (first | with_reducible exact KeptOut.refl _ _ | refine KeptOut.setCell ?_ (by first | exact .inl rfl | exact .inr rfl) _)
  · obtain ⟨⟨y0, v0⟩, ⟨y1, v1⟩, ⟨y2, v2⟩, ⟨y3, v3⟩, ⟨y4, v4⟩, ⟨y5, v5⟩, y6, v6⟩ := show _ ∧ _ ∧ _ ∧ _ ∧ _ ∧ _ ∧ _ from ⟨BY2.out 0 _ rfl, BY2.out 1 _ rfl, BY2.out 2 _ rfl, BY2.out 3 _ rfl, BY2.out 4 _ rfl, BY2.out 5 _ rfl, BY2.out 6 _ rfl⟩
    obtain ⟨⟨x0, u0⟩, ⟨x1, u1⟩, ⟨x2, u2⟩, ⟨x3, u3⟩, ⟨x4, u4⟩, ⟨x5, u5⟩, x6, u6⟩ := show _ ∧ _ ∧ _ ∧ _ ∧ _ ∧ _ ∧ _ from ⟨BX2.out 0 _ rfl, BX2.out 1 _ rfl, BX2.out 2 _ rfl, BX2.out 3 _ rfl, BX2.out 4 _ rfl, BX2.out 5 _ rfl, BX2.out 6 _ rfl⟩
    go_wp2
    refine bodyPost_ret (v := thingV am cm ⟨sp, nm, uid, 0, gone, ms, bo⟩) (by simp [results, Try.results27, go_sem, thingV, x0, x1, x2, x3, x4, x5, x6]) rfl (anyTh_of (T := w1.heap.size) (R := w.heap.size) ⟨sp, nm, uid, 0, gone, ms, bo⟩ ?_ (by omega) (Nat.le_refl _) hr HAR.out M2.out HG.out ⟨t1, t2, t3, T4.out, t5⟩ H2.out (by omega) K2.out)
    repeat (first | with_reducible exact KeptOut.refl _ _ | refine KeptOut.setCell ?_ (by first | exact .inl rfl | exact .inr rfl) _)
  · have e0 : ((k : Int) == 0) = false := by rw [beq_eq_false_iff_ne]; omega
    have f0 : ¬ (k : Int) = 0 := by omega
    have g0 : (k == 0) = false := by rw [beq_eq_false_iff_ne]; omega
    have h0' : ¬ k = 0 := by omega
    have e1 : ((k : Int) == 1) = false := by rw [beq_eq_false_iff_ne]; omega
    have f1 : ¬ (k : Int) = 1 := by omega
    have g1 : (k == 1) = false := by rw [beq_eq_false_iff_ne]; omega
    have h1' : ¬ k = 1 := by omega
    have e2 : ((k : Int) == 2) = false := by rw [beq_eq_false_iff_ne]; omega
    have f2 : ¬ (k : Int) = 2 := by omega
    have g2 : (k == 2) = false := by rw [beq_eq_false_iff_ne]; omega
    have h2' : ¬ k = 2 := by omega
    have e3 : ((k : Int) == 3) = false := by rw [beq_eq_false_iff_ne]; omega
    have f3 : ¬ (k : Int) = 3 := by omega
    have g3 : (k == 3) = false := by rw [beq_eq_false_iff_ne]; omega
    have h3' : ¬ k = 3 := by omega
    have e4 : ((k : Int) == 4) = false := by rw [beq_eq_false_iff_ne]; omega
    have f4 : ¬ (k : Int) = 4 := by omega
    have g4 : (k == 4) = false := by rw [beq_eq_false_iff_ne]; omega
    have h4' : ¬ k = 4 := by omega
    have e5 : ((k : Int) == 5) = false := by rw [beq_eq_false_iff_ne]; omega
    have f5 : ¬ (k : Int) = 5 := by omega
    have g5 : (k == 5) = false := by rw [beq_eq_false_iff_ne]; omega
    have h5' : ¬ k = 5 := by omega
    have e6 : ((k : Int) == 6) = false := by rw [beq_eq_false_iff_ne]; omega
    have f6 : ¬ (k : Int) = 6 := by omega
    have g6 : (k == 6) = false := by rw [beq_eq_false_iff_ne]; omega
    have h6' : ¬ k = 6 := by omega
    obtain ⟨⟨y0, v0⟩, ⟨y1, v1⟩, ⟨y2, v2⟩, ⟨y3, v3⟩, ⟨y4, v4⟩, ⟨y5, v5⟩, y6, v6⟩ := show _ ∧ _ ∧ _ ∧ _ ∧ _ ∧ _ ∧ _ from ⟨BY2.out 0 _ rfl, BY2.out 1 _ rfl, BY2.out 2 _ rfl, BY2.out 3 _ rfl, BY2.out 4 _ rfl, BY2.out 5 _ rfl, BY2.out 6 _ rfl⟩
    obtain ⟨⟨x0, u0⟩, ⟨x1, u1⟩, ⟨x2, u2⟩, ⟨x3, u3⟩, ⟨x4, u4⟩, ⟨x5, u5⟩, x6, u6⟩ := show _ ∧ _ ∧ _ ∧ _ ∧ _ ∧ _ ∧ _ from ⟨BX2.out 0 _ rfl, BX2.out 1 _ rfl, BX2.out 2 _ rfl, BX2.out 3 _ rfl, BX2.out 4 _ rfl, BX2.out 5 _ rfl, BX2.out 6 _ rfl⟩
    go_wp2
    refine bodyPost_ret (v := thingV am cm ⟨sp, nm, uid, rev, gone, ms, bo⟩) (by simp [results, Try.results27, go_sem, thingV, x0, x1, x2, x3, x4, x5, x6]) rfl (anyTh_of (T := w1.heap.size) (R := w.heap.size) ⟨sp, nm, uid, rev, gone, ms, bo⟩ ?_ (by omega) (Nat.le_refl _) hr HAR.out M2.out HG.out ⟨t1, t2, t3, T4.out, t5⟩ H2.out (by omega) K2.out)
    repeat (first | with_reducible exact KeptOut.refl _ _ | refine KeptOut.setCell ?_ (by first | exact .inl rfl | exact .inr rfl) _)
def CostDraw (w : World) (e : Ending) (w' : World) : Prop := ∃ (am : Option Addr) (cm : Nat) (t : ThingD), e = .returned (thingV am cm t) ∧ MkS w' w.heap.size (.slice am t.marks.length cm) t.marks ∧ AnyTh t ∧ Below w.heap.size w w'
set_option maxRecDepth 100000 in
set_option maxHeartbeats 2000000 in
theorem drawThingCost_any (a : Option Addr) (c : Nat) (l : List UInt8) (w : World) (hl : l.length ≤ c) (hc : c ≤ maxLen) (h : BytesS w a l) :
    Calls Try.prog 7 #[.slice a l.length c] w (CostDraw w) := by
  have HY := Lib.hid h
  clear h
  go_enter Try.func7, Try.ntmps7
  go_wp2_with fail
  refine (open_any a c l _ hl hc (bytes_below (below_alloc w _) HY.out)).mono ?_
  rintro e w1 ⟨c1, l1, rfl, h1, b1⟩
  have z1 := h1.lt
  simp only [World.size_alloc] at z1 h1 b1
  have H1 := Lib.hid h1
  have B1 := Lib.hid b1
  clear h1 b1
  go_wp2_with fail
  refine (l13AnyThing_any _ (w.heap.size + 1) a c1 l1 0 (by omega) H1.out).mono ?_
  rintro e w2 ⟨am, cm, t, p2, rfl, m2, ht, h2, hp2, k2⟩
  have zA : (w.alloc (Obj.cells #[.string ⟨#[]⟩, .string ⟨#[]⟩, .int .i64 0, .int .i64 0, .bool false, .slice none 0 0, .string ⟨#[]⟩] 25)).heap.size = w.heap.size + 1 := World.size_alloc _ _
  have BX := (((Box.alloc w #[.string ⟨#[]⟩, .string ⟨#[]⟩, .int .i64 0, .int .i64 0, .bool false, .slice none 0 0, .string ⟨#[]⟩] 25).below (B1.out.mono (by omega))).kept k2 (by omega))
  obtain ⟨⟨x0, u0⟩, ⟨x1, u1⟩, ⟨x2, u2⟩, ⟨x3, u3⟩, ⟨x4, u4⟩, ⟨x5, u5⟩, x6, u6⟩ := show _ ∧ _ ∧ _ ∧ _ ∧ _ ∧ _ ∧ _ from ⟨BX 0 _ rfl, BX 1 _ rfl, BX 2 _ rfl, BX 3 _ rfl, BX 4 _ rfl, BX 5 _ rfl, BX 6 _ rfl⟩
  have B2 : Below w.heap.size w w2 := k2.below (Below.trans (below_alloc w _) (B1.out.mono (by omega))) (by omega) (fun q hq => by omega)
  have z2 := k2.size
  have hgm := m2.bnd
  have HB2 := Lib.hid B2
  have HM := Lib.hid m2
  have HT := Lib.hid ht
  clear B2 m2 ht BX k2 h2 zA
  obtain ⟨sp, nm, uid, rev, gone, ms, bo⟩ := t
  unfold thingV
  dsimp only
  go_wp2
  refine bodyPost_ret (v := thingV am cm ⟨sp, nm, uid, rev, gone, ms, bo⟩) (by simp [results, Try.results7, go_sem, thingV, x0, x1, x2, x3, x4, x5, x6]) rfl ⟨am, cm, ⟨sp, nm, uid, rev, gone, ms, bo⟩, rfl, ((HM.out.mono (by omega)).keptX (S := fun b => b = w.heap.size) (fun g e h => by have := hgm g e; omega) ?_), HT.out, ?_⟩
  · repeat (first | with_reducible exact KeptOut.refl _ _ | refine KeptOut.setCell ?_ (by first | exact rfl | simp) _)
  · repeat (first | with_reducible exact HB2.out | refine Below.setCell ?_ (by first | (simp; done) | (simp; omega)) _)
end Go.Proofs.Ytbdicaanniffpab
