import Derived.Test.YtjbkhamfingoiaaDrawDisk
import Derived.Test.YtjbkhamfingoiaaMany
/- Drawn disks, some spoilt. -/
namespace Go.Proofs.Ytjbkhamfingoiaa
open Go Go.RowKit

/-- what is drawn, spoilt or not -/
def AnyX (d : DiskD) : Prop := d.1.length ≤ 140 ∧ d.2.1.length ≤ 9 ∧ (∀ s ∈ d.1, s.size ≤ 201) ∧ (∀ x ∈ d.2.1, x.2.size ≤ 201) ∧ d.2.2 ≤ 3
def AnyPost (w : World) (r : Nat) (a : Option Addr) (c : Nat) (l : List UInt8) (p : Nat) (e : Ending) (w' : World) : Prop :=
  ∃ u x p', e = .returned u ∧ DiskR w' u x ∧ (∀ k, diskBlk u k → w.heap.size ≤ k) ∧ AnyX x ∧ Rd w' r a c l p' ∧ p' ≤ p + 60 ∧ KeptOut (fun b => b = r) w w'

theorem own_parts {w : World} {base : Nat} {e : TypeId} {size : Nat} {a : Option Addr} {n c : Nat} {xs : List Value} (h : w.ownsRow base e size (.slice a n c) n xs) (hn : 0 < n) : ∃ g, a = some ⟨g, 0, none⟩ ∧ n ≤ c ∧ c ≤ maxLen ∧ base ≤ g ∧ g < w.heap.size := by
  rcases h.2 with ⟨_, h0⟩ | ⟨g, cap, cur, hv, hb, hg, h1, h2, _⟩
  · omega
  · simp only [Value.slice.injEq] at hv
    obtain ⟨rfl, _, rfl⟩ := hv
    exact ⟨g, rfl, h1, h2, hb, (Array.getElem?_eq_some_iff.1 hg).1⟩
theorem str_tail {w : World} {g n : Nat} {l : List ByteArray} (h : StrS w (some ⟨g, 0, none⟩) l) (hn : l.length = n) : StrS w (some ⟨g, 1, none⟩) (l.drop 1) := by
  refine ⟨by have := h.1; simp; omega, fun s hs => h.2.1 s (List.mem_of_mem_drop hs), ?_⟩
  rcases h.2.2 with rfl | ⟨b, o, he, hc⟩
  · exact .inl rfl
  · cases he
    refine .inr ⟨g, 1, rfl, fun j hj => ?_⟩
    rw [List.getElem_drop, ← hc (1 + j) (by simp at hj; omega)]
    congr 2
    omega

theorem src_lit (W : World) (cs : List Value) (e : TypeId) (m size : Nat) (h : cs.length = m * size) : SrcS (W.alloc (.cells cs.toArray e)) size (some ⟨W.heap.size, 0, none⟩) m cs :=
  ⟨h, .inr ⟨W.heap.size, 0, rfl, fun j u hu => by have := cells_new W cs e j u hu; rwa [addr_add] at this⟩⟩
theorem src_lit' (W : World) (cs : List Value) (e : TypeId) (m size g : Nat) (hg : g = W.heap.size) (h : cs.length = m * size) : SrcS (W.alloc (.cells cs.toArray e)) size (some ⟨g, 0, none⟩) m cs := by
  subst hg
  exact src_lit W cs e m size h
theorem two_at (n : Nat) (h : n < 2) : ∃ z : Int, ([Value.int .i64 (-1), Value.int .i64 140] : List Value)[n]? = some (.int .i64 z) := by
  rcases (show n = 0 ∨ n = 1 by omega) with rfl | rfl
  · exact ⟨_, rfl⟩
  · exact ⟨_, rfl⟩
theorem kept_of_grown {w w' : World} {o : Option Nat} (h : w.grownBy w' o) : KeptOut (fun k => o = some k) w w' :=
  ⟨h.os, h.tape, h.output, h.size, fun k hk hn => h.block k hk (fun e => hn e.symm)⟩

set_option maxRecDepth 100000 in
set_option maxHeartbeats 4000000 in
theorem spoil_any (w : World) (r : Nat) (a : Option Addr) (c : Nat) (l : List UInt8) (p : Nat) (hp : p ≤ 1000000000) (h : Rd w r a c l p) (har : l ≠ [] → ∀ x, a = some x → x.block < w.heap.size) (v : Value) (d : DiskD) (hv : DiskR w v d) (hd : DrawnX d) :
    Calls Try.prog 74 #[.pointer (some ⟨r, 0, none⟩), v] w (AnyPost w r a c l p) := by
  have hr : r < w.heap.size := h.lt
  obtain ⟨va, vca, vb, vcb, rfl, _⟩ := id hv
  have HV := Lib.hid hv
  have HD := Lib.hid hd
  have HRD := Lib.hid h
  clear hv hd h
  go_enter Try.func74, Try.ntmps74
  go_wp2_with fail
  refine (copy_any _ d _ (HV.out.below (by repeat (first | exact Below.refl _ _ | (refine Below.alloc ?_ (by first | (simp; done) | (simp; omega)) _) | (refine Below.setCell ?_ (by first | (simp; done) | (simp; omega)) _) | (refine Below.drew ?_)))) (by have := HD.out.1; omega) (by have := HD.out.2.1; omega)).mono ?_
  rintro e w1 ⟨u, rfl, o1, b1⟩
  obtain ⟨YX, YZ, B1, S1⟩ := two_box b1
  simp only [World.size_alloc] at o1
  obtain ⟨a1, ca1, e1, ce1, rfl, oS, oW, oN⟩ := o1
  obtain ⟨g, rfl, hcap, hcm, hg0, hg1⟩ := own_parts oS (by rw [HD.out.1]; omega)
  have bx := Box.alloc w1 #[.slice (some ⟨g, 0, none⟩) d.1.length ca1, .slice e1 d.2.1.length ce1, .int .i64 d.2.2] 26
  have AL := below_alloc w1 (.cells #[.slice (some ⟨g, 0, none⟩) d.1.length ca1, .slice e1 d.2.1.length ce1, .int .i64 d.2.2] 26)
  have bz := YZ.below AL
  have HR1 := Lib.hid ((HRD.out.below B1).below AL)
  have K1 : KeptOut (fun b => b = r) w (w1.alloc (.cells #[.slice (some ⟨g, 0, none⟩) d.1.length ca1, .slice e1 d.2.1.length ce1, .int .i64 d.2.2] 26)) := (KeptOut.of_below B1).alloc _
  have LW := Lib.hid oW.lt
  have LN := Lib.hid oN
  clear YX YZ oN
  go_wp2_with fail
  refine (pick_any 5 _ r a c l p (by omega) (by omega) (by omega) HR1.out).mono ?_
  rintro e w2 ⟨q, rfl, q0, q1, h2, k2⟩
  have q1' := q1 (by omega)
  have bx2 := bx.kept k2 (by omega)
  have bz2 := bz.kept k2 (by omega)
  have OS := Lib.hid (own_kept (own_below oS AL) k2 (fun k hk e => by have := (oS.lt k hk).1; omega))
  have OW := Lib.hid (own_kept (own_below oW AL) k2 (fun k hk e => by have := (LW.out k hk).1; omega))
  have H2 := Lib.hid h2
  have K2 := K1.trans (k2.mono (fun _ _ h => h))
  have z2 : w1.heap.size + 1 ≤ w2.heap.size := by have := k2.size; simpa using this
  clear h2 q1 k2 oS oW bx bz HR1 K1 AL
  obtain ⟨x0, f0⟩ := bx2 0 _ rfl
  obtain ⟨x1, f1⟩ := bx2 1 _ rfl
  obtain ⟨x2, f2⟩ := bx2 2 _ rfl
  obtain ⟨y0, v0⟩ := bz2 0 _ rfl
  obtain ⟨y1, v1⟩ := bz2 1 _ rfl
  obtain ⟨y2, v2⟩ := bz2 2 _ rfl
  obtain ⟨qn, hqn⟩ := Int.eq_ofNat_of_zero_le q0
  subst hqn
  have hlen1 : 9 ≤ d.1.length := by have := HD.out.1; omega
  have hl1 : (1 : Int) ≤ (d.1.length : Int) := by omega
  have hca1 : 1 < ca1 := by omega
  have hca2 : (d.1.length : Int) ≤ (ca1 : Int) := by omega
  have hca3 : (1 : Int) ≤ (ca1 : Int) := by omega
  have M1 : d.1.length ≤ maxLen := by have := HD.out.1; unfold maxLen; omega
  have M2 : ∀ s ∈ d.1, s.size ≤ maxLen := fun s hs => by have := HD.out.2.2.1 s hs; unfold maxLen; omega
  have M3 : d.2.1.length ≤ maxLen := by have := HD.out.2.1; unfold maxLen; omega
  have M4 : ∀ x ∈ d.2.1, OkWait x := fun x hx => by have := (HD.out.2.2.2.1 x hx).2.2; unfold OkWait maxLen; omega
  obtain ⟨j0, hj, hyy0, hyy1, hyy2⟩ := info_parts infoWait
  have lx2 := bx2.lt
  have hc : qn = 0 ∨ qn = 1 ∨ qn = 2 ∨ qn = 3 ∨ qn = 4 := by omega
  rcases hc with rfl | rfl | rfl | rfl | rfl
  · have hne : ¬ ca1 = 1 := by omega
    have hne2 : ¬ 1 = ca1 := by omega
    go_wp2_with fail
    have KX := ((((KeptOut.refl (fun k => k = w1.heap.size ∨ k = w.heap.size + 1) w2).setCell (p := ⟨w1.heap.size, 0, none⟩) (.inl rfl) (.slice (some ⟨g, 1, none⟩) (d.1.length - 1) (ca1 - 1))).setCell (p := ⟨w.heap.size + 1, 0, none⟩) (.inr rfl) (.slice (some ⟨g, 1, none⟩) (d.1.length - 1) (ca1 - 1))).setCell (p := ⟨w.heap.size + 1, 1, none⟩) (.inr rfl) (.slice e1 d.2.1.length ce1)).setCell (p := ⟨w.heap.size + 1, 2, none⟩) (.inr rfl) (.int .i64 d.2.2)
    have F1 := own_str M1 M2 (own_kept OS.out KX (fun k hk e => by have := own_blk hk; omega))
    have F2 := own_el encWait_len M3 (own_kept OW.out KX (fun k hk e => by have := LW.out k hk; omega))
    exact bodyPost_ret (v := .agg #[.slice (some ⟨g, 1, none⟩) (d.1.length - 1) (ca1 - 1), .slice e1 d.2.1.length ce1, .int .i64 d.2.2]) (by simp [results, Try.results74, go_sem, y0, y1, y2]) rfl ⟨_, (d.1.drop 1, d.2.1, d.2.2), _, rfl, ⟨some ⟨g, 1, none⟩, ca1 - 1, e1, ce1, by simp, str_tail F1 rfl, F2, M4⟩, fun k hk => hk.elim (fun h => by have e : g = k := Option.some.inj h; omega) (fun h => by have := LW.out k h; omega), ⟨by simp; have := HD.out.1; omega, by have := HD.out.2.1; show d.2.1.length ≤ 9; omega, fun s hs => by have := HD.out.2.2.1 s (List.mem_of_mem_drop hs); omega, fun x hx => by have := (HD.out.2.2.2.1 x hx).2.2; omega, HD.out.2.2.2.2.2⟩, H2.out.kept2 KX (by omega) (fun hn x hx => by have := har hn x hx; omega), by omega, K2.step KX (fun b hb => .inl (by omega))⟩
  · go_wp2_with fail
    go_region_law (first
      | (go_simp; go_at_call 50; refine (pick_any 9 _ r a c l _ (by omega) (by omega) (by omega) (H2.out.below (by repeat (first | exact Below.refl _ _ | (refine Below.alloc ?_ (by first | omega | (simp; done) | (simp; omega)) _) | (refine Below.drew ?_))))).mono ?_; rintro e w3 ⟨q3, rfl, g30, g31, h3, k3⟩; have g31' := g31 (by omega); obtain ⟨n3, hn3⟩ := Int.eq_ofNat_of_zero_le g30; subst hn3; have KK3 : KeptOut (fun b => b = r) w2 w3 := KeptOut.trans (by repeat (first | exact KeptOut.refl _ _ | refine KeptOut.alloc ?_ _ | refine KeptOut.drew ?_)) k3; have bx3 := bx2.kept KK3 (by omega); have bz3 := bz2.kept KK3 (by omega); have OS3 := Lib.hid (own_kept OS.out KK3 (fun k hk e => by have := own_blk hk; omega)); have OW3 := Lib.hid (own_kept OW.out KK3 (fun k hk e => by have := LW.out k hk; omega)); have z3 := KK3.size; have i3 : (n3 : Int) < (d.1.length : Int) := (by omega); obtain ⟨s3, cy⟩ : ∃ v, w3.cell? ⟨g, n3, none⟩ = some v := ⟨_, (OS3.out.cellAt n3 (by omega)).trans (List.getElem?_eq_getElem (by have := OS3.out.1; omega))⟩; have fy : w3.frozen? ⟨g, n3, none⟩ = false := OS3.out.frozenAt n3; obtain ⟨t0, -⟩ := bx3 0 _ rfl; clear k3 g31)
      | (go_simp; go_at_call 49; refine (many_any ⟨#[98]⟩ 201 _ (by decide) (by decide)).mono ?_; rintro e w4 ⟨⟨t, ht, rfl⟩, rfl⟩))
    all_goals
      obtain ⟨u0, -⟩ := bx3 0 _ rfl
      obtain ⟨u1, -⟩ := bx3 1 _ rfl
      obtain ⟨u2, -⟩ := bx3 2 _ rfl
      obtain ⟨y0', v0'⟩ := bz3 0 _ rfl
      obtain ⟨y1', v1'⟩ := bz3 1 _ rfl
      obtain ⟨y2', v2'⟩ := bz3 2 _ rfl
      have hgx : g ≠ w1.heap.size := by omega
      have hgr : g ≠ w.heap.size + 1 := by omega
      go_wp2
      have KX := ((((KeptOut.refl (fun k => k = g ∨ k = w.heap.size + 1) w3).setCell (p := ⟨g, n3, none⟩) (.inl rfl) (.string t)).setCell (p := ⟨w.heap.size + 1, 0, none⟩) (.inr rfl) (.slice (some ⟨g, 0, none⟩) d.1.length ca1)).setCell (p := ⟨w.heap.size + 1, 1, none⟩) (.inr rfl) (.slice e1 d.2.1.length ce1)).setCell (p := ⟨w.heap.size + 1, 2, none⟩) (.inr rfl) (.int .i64 d.2.2)
      have KR := (((KeptOut.refl (fun k => k = w.heap.size + 1) (w3.setCell ⟨g, n3, none⟩ (.string t))).setCell (p := ⟨w.heap.size + 1, 0, none⟩) rfl (.slice (some ⟨g, 0, none⟩) d.1.length ca1)).setCell (p := ⟨w.heap.size + 1, 1, none⟩) rfl (.slice e1 d.2.1.length ce1)).setCell (p := ⟨w.heap.size + 1, 2, none⟩) rfl (.int .i64 d.2.2)
      have os4 := (OS3.out.stored n3 (.string t)).1
      rw [← List.map_set] at os4
      have os5 := own_kept os4 KR (fun k hk e => by have := own_blk hk; omega)
      have ow5 := own_kept OW3.out KX (fun k hk e => by have h1 := LW.out k hk; have h2 := LN.out g k rfl hk; omega)
      have F1 := own_str (l := d.1.set n3 t) (by simpa using M1) (fun s hs => (List.mem_or_eq_of_mem_set hs).elim (M2 s) (fun e => by rw [e, ht]; unfold maxLen; decide)) (by simpa using os5)
      have F2 := own_el encWait_len M3 ow5
      exact bodyPost_ret (v := .agg #[.slice (some ⟨g, 0, none⟩) d.1.length ca1, .slice e1 d.2.1.length ce1, .int .i64 d.2.2]) (by simp [results, Try.results74, go_sem, y0', y1', y2']) rfl ⟨_, (d.1.set n3 t, d.2.1, d.2.2), _, rfl, ⟨some ⟨g, 0, none⟩, ca1, e1, ce1, by simp, F1, F2, M4⟩, fun k hk => hk.elim (fun h => by have e : g = k := Option.some.inj h; omega) (fun h => by have := LW.out k h; omega), ⟨by simp; have := HD.out.1; omega, by have := HD.out.2.1; show d.2.1.length ≤ 9; omega, fun s hs => (List.mem_or_eq_of_mem_set hs).elim (fun h => by have := HD.out.2.2.1 s h; omega) (fun e => by rw [e, ht]; decide), fun x hx => by have := (HD.out.2.2.2.1 x hx).2.2; omega, HD.out.2.2.2.2.2⟩, h3.kept2 KX (by omega) (fun hn x hx => by have := har hn x hx; omega), by omega, (K2.trans KK3).step KX (fun b hb => .inl (by omega))⟩
  · go_wp2_with fail
    go_region_law (first
      | (go_simp; go_at_call 50; refine (pick_any 2 _ r a c l _ (by omega) (by omega) (by omega) (H2.out.below (by repeat (first | exact Below.refl _ _ | (refine Below.alloc ?_ (by first | omega | (simp; done) | (simp; omega)) _) | (refine Below.drew ?_))))).mono ?_; rintro e w3 ⟨q3, rfl, g30, g31, h3, k3⟩; have g31' := g31 (by omega); obtain ⟨n3, hn3⟩ := Int.eq_ofNat_of_zero_le g30; subst hn3; have KK3 : KeptOut (fun b => b = r) w2 w3 := KeptOut.trans (by repeat (first | exact KeptOut.refl _ _ | refine KeptOut.alloc ?_ _ | refine KeptOut.drew ?_)) k3; have bx3 := bx2.kept KK3 (by omega); have bz3 := bz2.kept KK3 (by omega); have OS3 := Lib.hid (own_kept OS.out KK3 (fun k hk e => by have := own_blk hk; omega)); have OW3 := Lib.hid (own_kept OW.out KK3 (fun k hk e => by have := LW.out k hk; omega)); have H3 := Lib.hid h3; have K3 := K2.trans KK3; have z3 := KK3.size; have lx3 := bx3.lt; have i3 : (n3 : Int) < 2 := (by omega); obtain ⟨t0, -⟩ := bx3 1 _ rfl; obtain ⟨z, hL1⟩ := two_at n3 (by omega); have hA : (w3.alloc (.cells #[.int .i64 (-1), .int .i64 140] 3)).cell? ⟨w3.heap.size, n3, none⟩ = some (.int .i64 z) := (by rw [World.cell?_alloc_at _ _ _ _ rfl]; simpa using hL1); (first | (have hB : w3.cell? ⟨w2.heap.size, n3, none⟩ = some (.int .i64 z) := (k3.cell (p := ⟨w2.heap.size, n3, none⟩) (by simp) (by simp; omega)).trans (show (w2.alloc (.cells #[.int .i64 (-1), .int .i64 140] 3)).cell? ⟨w2.heap.size, n3, none⟩ = _ from (by rw [World.cell?_alloc_at _ _ _ _ rfl]; simpa using hL1))) | skip); clear k3 g31 h3)
      | (refine step_append_src _ rfl (.tmp 28) (.tmp 35) 24 rfl (w.heap.size + 1 + 1) 43 j0 (.agg #[.int .i64 0, .string ⟨#[]⟩]) 2 24 Try.underlying24 hj hyy0 hyy1 hyy2 rfl (by decide) (.slice e1 d.2.1.length ce1) d.2.1.length (d.2.1.flatMap encWait) rfl (by repeat (first | exact OW3.out | refine World.ownsRow.alloc ?_ _ | refine World.ownsRow.drew ?_)) (some ⟨w3.heap.size, 0, none⟩) 1 1 [.int .i64 z, .string ⟨#[]⟩] rfl (src_lit' w3 _ _ _ _ _ rfl rfl) (by simp [Value.oneCell']) (by have := HD.out.2.1; unfold maxLen; omega) (by have := HD.out.2.1; omega) (by simp; try omega) ?_; intro v5 w5 o5 g5 at5; obtain ⟨e5, c5, rfl⟩ := own_shape o5; have n5 : ∀ k, (Value.slice e5 (d.2.1.length + 1) c5).ownBlock = some k → k ≠ w1.heap.size := (fun k hk => at5.elim (fun e => by rw [hk] at e; have := LW.out k e.symm; omega) (fun e => by rw [hk] at e; have e2 := Option.some.inj e; simp at e2; omega)); have N5 := Lib.hid n5; clear n5 at5; have KG := kept_of_grown g5; have K5 : KeptOut (fun k => (Value.slice e1 d.2.1.length ce1).ownBlock = some k) w3 w5 := KeptOut.trans (by repeat (first | exact KeptOut.refl _ _ | refine KeptOut.alloc ?_ _ | refine KeptOut.drew ?_)) KG; have bx5 := bx3.kept K5 (fun e => by have := LW.out _ e; omega); have bz5 := bz3.kept K5 (fun e => by have := LW.out _ e; omega); have OS5 := Lib.hid (own_kept OS3.out K5 (fun k hk e => LN.out k k hk e rfl)); have H5 := Lib.hid (H3.out.kept2 K5 (fun e => by have := LW.out _ e; omega) (fun hn x hx e => by have := LW.out _ e; have := har hn x hx; omega)); have K25 := K3.step K5 (fun b hb => .inl (by have := LW.out b hb; omega)); have z5 := K5.size; obtain ⟨p0, -⟩ := bx5 0 _ rfl; obtain ⟨p1, fp1⟩ := bx5 1 _ rfl; obtain ⟨p2, -⟩ := bx5 2 _ rfl)
      | (refine step_append_src _ rfl (.tmp 28) (.tmp 35) 24 rfl (w.heap.size + 1 + 1) 43 j0 (.agg #[.int .i64 0, .string ⟨#[]⟩]) 2 24 Try.underlying24 hj hyy0 hyy1 hyy2 rfl (by decide) (.slice e1 d.2.1.length ce1) d.2.1.length (d.2.1.flatMap encWait) rfl (by repeat (first | exact OW3.out | refine World.ownsRow.alloc ?_ _ | refine World.ownsRow.drew ?_)) (some ⟨w3.heap.size + 1, 0, none⟩) 1 1 [.int .i64 z, .string ⟨#[]⟩] rfl (src_lit' (w3.alloc (.cells #[.int .i64 (-1), .int .i64 140] 3)) _ _ _ _ _ (by simp) rfl) (by simp [Value.oneCell']) (by have := HD.out.2.1; unfold maxLen; omega) (by have := HD.out.2.1; omega) (by simp; try omega) ?_; intro v5 w5 o5 g5 at5; obtain ⟨e5, c5, rfl⟩ := own_shape o5; have n5 : ∀ k, (Value.slice e5 (d.2.1.length + 1) c5).ownBlock = some k → k ≠ w1.heap.size := (fun k hk => at5.elim (fun e => by rw [hk] at e; have := LW.out k e.symm; omega) (fun e => by rw [hk] at e; have e2 := Option.some.inj e; simp at e2; omega)); have N5 := Lib.hid n5; clear n5 at5; have KG := kept_of_grown g5; have K5 : KeptOut (fun k => (Value.slice e1 d.2.1.length ce1).ownBlock = some k) w3 w5 := KeptOut.trans (by repeat (first | exact KeptOut.refl _ _ | refine KeptOut.alloc ?_ _ | refine KeptOut.drew ?_)) KG; have bx5 := bx3.kept K5 (fun e => by have := LW.out _ e; omega); have bz5 := bz3.kept K5 (fun e => by have := LW.out _ e; omega); have OS5 := Lib.hid (own_kept OS3.out K5 (fun k hk e => LN.out k k hk e rfl)); have H5 := Lib.hid (H3.out.kept2 K5 (fun e => by have := LW.out _ e; omega) (fun hn x hx e => by have := LW.out _ e; have := har hn x hx; omega)); have K25 := K3.step K5 (fun b hb => .inl (by have := LW.out b hb; omega)); have z5 := K5.size; obtain ⟨p0, -⟩ := bx5 0 _ rfl; obtain ⟨p1, fp1⟩ := bx5 1 _ rfl; obtain ⟨p2, -⟩ := bx5 2 _ rfl))
    all_goals
      obtain ⟨y0', v0'⟩ := bz5 0 _ rfl
      obtain ⟨y1', v1'⟩ := bz5 1 _ rfl
      obtain ⟨y2', v2'⟩ := bz5 2 _ rfl
      have O6 := own_snoc (x := (z, ⟨#[]⟩)) o5
      have LO6 := Lib.hid O6.lt
      have HO6 := Lib.hid O6
      clear o5 g5 KG O6
      go_wp2
      have KX := ((((KeptOut.refl (fun k => k = w1.heap.size ∨ k = w.heap.size + 1) w5).setCell (p := ⟨w1.heap.size, 1, none⟩) (.inl rfl) (.slice e5 (d.2.1.length + 1) c5)).setCell (p := ⟨w.heap.size + 1, 0, none⟩) (.inr rfl) (.slice (some ⟨g, 0, none⟩) d.1.length ca1)).setCell (p := ⟨w.heap.size + 1, 1, none⟩) (.inr rfl) (.slice e5 (d.2.1.length + 1) c5)).setCell (p := ⟨w.heap.size + 1, 2, none⟩) (.inr rfl) (.int .i64 d.2.2)
      have F1 := own_str M1 M2 (own_kept OS5.out KX (fun k hk e => by have := own_blk hk; omega))
      have F2 := own_el encWait_len (by have := HD.out.2.1; simp [maxLen]; omega) (own_kept HO6.out KX (fun k hk e => by have h1 := LO6.out k hk; have h2 := N5.out k (by simpa using hk); omega))
      have hsz : ∀ y ∈ d.2.1 ++ [(z, ⟨#[]⟩)], y.2.size ≤ 201 := fun y hy => by
        simp only [List.mem_append, List.mem_singleton] at hy
        rcases hy with hy | rfl
        · have := (HD.out.2.2.2.1 y hy).2.2; omega
        · show (⟨#[]⟩ : ByteArray).size ≤ 201; decide
      exact bodyPost_ret (v := .agg #[.slice (some ⟨g, 0, none⟩) d.1.length ca1, .slice e5 (d.2.1.length + 1) c5, .int .i64 d.2.2]) (by simp [results, Try.results74, go_sem, y0', y1', y2']) rfl ⟨_, (d.1, d.2.1 ++ [(z, ⟨#[]⟩)], d.2.2), _, rfl, ⟨some ⟨g, 0, none⟩, ca1, e5, c5, by simp, F1, F2, fun y hy => by have := hsz y hy; unfold OkWait maxLen; omega⟩, fun k hk => hk.elim (fun h => by have e : g = k := Option.some.inj h; omega) (fun h => by have := LO6.out k (by simpa using h); omega), ⟨by show d.1.length ≤ 140; have := HD.out.1; omega, by have := HD.out.2.1; simp; omega, fun s hs => by have := HD.out.2.2.1 s hs; omega, hsz, HD.out.2.2.2.2.2⟩, H5.out.kept2 KX (by omega) (fun hn x hx => by have := har hn x hx; omega), by omega, K25.step KX (fun b hb => .inl (by omega))⟩
  · go_wp2_with fail
    go_region_law (first
      | (go_simp; go_at_call 49; refine (many_any ⟨#[98]⟩ 201 _ (by decide) (by decide)).mono ?_; rintro e w4 ⟨⟨t, ht, rfl⟩, rfl⟩)
      | (refine step_append_src _ rfl (.tmp 41) (.tmp 44) 24 rfl (w.heap.size + 1 + 1) 43 j0 (.agg #[.int .i64 0, .string ⟨#[]⟩]) 2 24 Try.underlying24 hj hyy0 hyy1 hyy2 rfl (by decide) (.slice e1 d.2.1.length ce1) d.2.1.length (d.2.1.flatMap encWait) rfl (by repeat (first | exact OW.out | refine World.ownsRow.alloc ?_ _ | refine World.ownsRow.drew ?_)) (some ⟨w2.heap.size, 0, none⟩) 1 1 [.int .i64 0, .string t] rfl (src_lit w2.drew _ _ _ _ rfl) (by simp [Value.oneCell']) (by have := HD.out.2.1; unfold maxLen; omega) (by have := HD.out.2.1; omega) (by simp; try omega) ?_; intro v5 w5 o5 g5 at5; obtain ⟨e5, c5, rfl⟩ := own_shape o5; have n5 : ∀ k, (Value.slice e5 (d.2.1.length + 1) c5).ownBlock = some k → k ≠ w1.heap.size := (fun k hk => at5.elim (fun e => by rw [hk] at e; have := LW.out k e.symm; omega) (fun e => by rw [hk] at e; have e2 := Option.some.inj e; simp at e2; omega)); have N5 := Lib.hid n5; clear n5 at5; have KG := kept_of_grown g5; have K5 : KeptOut (fun k => (Value.slice e1 d.2.1.length ce1).ownBlock = some k) w2 w5 := KeptOut.trans (by repeat (first | exact KeptOut.refl _ _ | refine KeptOut.alloc ?_ _ | refine KeptOut.drew ?_)) KG; have bx5 := bx2.kept K5 (fun e => by have := LW.out _ e; omega); have bz5 := bz2.kept K5 (fun e => by have := LW.out _ e; omega); have OS5 := Lib.hid (own_kept OS.out K5 (fun k hk e => LN.out k k hk e rfl)); have H5 := Lib.hid (H2.out.kept2 K5 (fun e => by have := LW.out _ e; omega) (fun hn x hx e => by have := LW.out _ e; have := har hn x hx; omega)); have K25 := K2.step K5 (fun b hb => .inl (by have := LW.out b hb; omega)); have z5 := K5.size; obtain ⟨p0, -⟩ := bx5 0 _ rfl; obtain ⟨p1, fp1⟩ := bx5 1 _ rfl; obtain ⟨p2, -⟩ := bx5 2 _ rfl))
    all_goals
      obtain ⟨y0', v0'⟩ := bz5 0 _ rfl
      obtain ⟨y1', v1'⟩ := bz5 1 _ rfl
      obtain ⟨y2', v2'⟩ := bz5 2 _ rfl
      have O6 := own_snoc (x := (0, t)) o5
      have LO6 := Lib.hid O6.lt
      have HO6 := Lib.hid O6
      clear o5 g5 KG O6
      go_wp2
      have KX := ((((KeptOut.refl (fun k => k = w1.heap.size ∨ k = w.heap.size + 1) w5).setCell (p := ⟨w1.heap.size, 1, none⟩) (.inl rfl) (.slice e5 (d.2.1.length + 1) c5)).setCell (p := ⟨w.heap.size + 1, 0, none⟩) (.inr rfl) (.slice (some ⟨g, 0, none⟩) d.1.length ca1)).setCell (p := ⟨w.heap.size + 1, 1, none⟩) (.inr rfl) (.slice e5 (d.2.1.length + 1) c5)).setCell (p := ⟨w.heap.size + 1, 2, none⟩) (.inr rfl) (.int .i64 d.2.2)
      have F1 := own_str M1 M2 (own_kept OS5.out KX (fun k hk e => by have := own_blk hk; omega))
      have F2 := own_el encWait_len (by have := HD.out.2.1; simp [maxLen]; omega) (own_kept HO6.out KX (fun k hk e => by have h1 := LO6.out k hk; have h2 := N5.out k (by simpa using hk); omega))
      have hsz : ∀ y ∈ d.2.1 ++ [(0, t)], y.2.size ≤ 201 := fun y hy => by
        simp only [List.mem_append, List.mem_singleton] at hy
        rcases hy with hy | rfl
        · have := (HD.out.2.2.2.1 y hy).2.2; omega
        · show t.size ≤ 201; rw [ht]; decide
      exact bodyPost_ret (v := .agg #[.slice (some ⟨g, 0, none⟩) d.1.length ca1, .slice e5 (d.2.1.length + 1) c5, .int .i64 d.2.2]) (by simp [results, Try.results74, go_sem, y0', y1', y2']) rfl ⟨_, (d.1, d.2.1 ++ [(0, t)], d.2.2), _, rfl, ⟨some ⟨g, 0, none⟩, ca1, e5, c5, by simp, F1, F2, fun y hy => by have := hsz y hy; unfold OkWait maxLen; omega⟩, fun k hk => hk.elim (fun h => by have e : g = k := Option.some.inj h; omega) (fun h => by have := LO6.out k (by simpa using h); omega), ⟨by show d.1.length ≤ 140; have := HD.out.1; omega, by have := HD.out.2.1; simp; omega, fun s hs => by have := HD.out.2.2.1 s hs; omega, hsz, HD.out.2.2.2.2.2⟩, H5.out.kept2 KX (by omega) (fun hn x hx => by have := har hn x hx; omega), by omega, K25.step KX (fun b hb => .inl (by omega))⟩
  · go_wp2_with fail
    have KX := ((((KeptOut.refl (fun k => k = w1.heap.size ∨ k = w.heap.size + 1) w2).setCell (p := ⟨w1.heap.size, 2, none⟩) (.inl rfl) (.int .i64 (-2))).setCell (p := ⟨w.heap.size + 1, 0, none⟩) (.inr rfl) (.slice (some ⟨g, 0, none⟩) d.1.length ca1)).setCell (p := ⟨w.heap.size + 1, 1, none⟩) (.inr rfl) (.slice e1 d.2.1.length ce1)).setCell (p := ⟨w.heap.size + 1, 2, none⟩) (.inr rfl) (.int .i64 (-2))
    have F1 := own_str M1 M2 (own_kept OS.out KX (fun k hk e => by have := own_blk hk; omega))
    have F2 := own_el encWait_len M3 (own_kept OW.out KX (fun k hk e => by have := LW.out k hk; omega))
    exact bodyPost_ret (v := .agg #[.slice (some ⟨g, 0, none⟩) d.1.length ca1, .slice e1 d.2.1.length ce1, .int .i64 (-2)]) (by simp [results, Try.results74, go_sem, y0, y1, y2]) rfl ⟨_, (d.1, d.2.1, -2), _, rfl, ⟨_, _, _, _, rfl, F1, F2, M4⟩, fun k hk => hk.elim (fun h => by have e : g = k := Option.some.inj h; omega) (fun h => by have := LW.out k h; omega), ⟨by show d.1.length ≤ 140; have := HD.out.1; omega, by have := HD.out.2.1; show d.2.1.length ≤ 9; omega, fun s hs => by have := HD.out.2.2.1 s hs; omega, fun x hx => by have := (HD.out.2.2.2.1 x hx).2.2; omega, by show (-2 : Int) ≤ 3; omega⟩, H2.out.kept2 KX (by omega) (fun hn x hx => by have := har hn x hx; omega), by omega, K2.step KX (fun b hb => .inl (by omega))⟩
end Go.Proofs.Ytjbkhamfingoiaa
