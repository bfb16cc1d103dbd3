import Derived.Test.YtbdicaanniffpabDrawSp
/- Drawn spaces, some spoilt. -/
namespace Go.Proofs.Ytbdicaanniffpab
open Go Go.RowKit

def DrawSpP (w : World) (r : Nat) (a : Option Addr) (c : Nat) (l : List UInt8) (p n m : Nat) (e : Ending) (w' : World) : Prop :=
  ∃ (v : Value) (L : List SpaceD) (p' : Nat), e = .returned v ∧ w'.ownsRow w.heap.size 38 5 v L.length (L.flatMap encSpace) ∧ AnySp L ∧ L.length ≤ m ∧ Rd w' r a c l p' ∧ p' ≤ p + n ∧ KeptOut (fun b => b = r) w w'
theorem own_partsS {w : World} {base : Nat} {e : TypeId} {size : Nat} {a : Option Addr} {n c : Nat} {xs : List Value} (h : w.ownsRow base e size (.slice a n c) n xs) (hn : 0 < n) : ∃ g, a = some ⟨g, 0, none⟩ ∧ n ≤ c ∧ base ≤ g ∧ g < w.heap.size := by
  rcases h.2 with ⟨_, h0⟩ | ⟨g, cap, cur, hv, hb, hg, h1, h2, _⟩
  · omega
  · simp only [Value.slice.injEq] at hv
    obtain ⟨rfl, _, rfl⟩ := hv
    exact ⟨g, rfl, h1, hb, (Array.getElem?_eq_some_iff.1 hg).1⟩
/-- the first ones of a row of one's own -/
theorem own_prefix {w : World} {base : Nat} {e : TypeId} {size g n c k : Nat} {xs : List Value} (h : w.ownsRow base e size (.slice (some ⟨g, 0, none⟩) n c) n xs) (hk : k ≤ n) : w.ownsRow base e size (.slice (some ⟨g, 0, none⟩) k c) k (xs.take (k * size)) := by
  have hl := h.1
  refine ⟨by rw [List.length_take, hl]; exact Nat.min_eq_left (Nat.mul_le_mul_right _ hk), ?_⟩
  rcases h.2 with ⟨hv, hn⟩ | ⟨g', cap, cur, hv, hb, hg, h1, h2, h3, h4⟩
  · cases hv
  · simp only [Value.slice.injEq] at hv
    obtain ⟨ha, -, rfl⟩ := hv
    cases ha
    refine .inr ⟨g, c, cur, rfl, hb, hg, Nat.le_trans hk h1, h2, h3, ?_⟩
    rw [← h4, List.take_take, Nat.min_eq_left (Nat.mul_le_mul_right _ hk)]
theorem flat_setS : ∀ (L : List SpaceD) (k f : Nat) (h : k < L.length) (_ : f < 5) (v : Value) (e' : SpaceD), (encSpace L[k]).set f v = encSpace e' → (L.flatMap encSpace).set (k * 5 + f) v = (L.set k e').flatMap encSpace
  | x :: L, 0, f, _, hf, v, e', he => by
    rw [List.flatMap_cons, List.set_append_left _ _ (by rw [encSpace_len]; omega), List.set_cons_zero, List.flatMap_cons, Nat.zero_mul, Nat.zero_add, ← he]
    rfl
  | x :: L, k + 1, f, h, hf, v, e', he => by
    have ih := flat_setS L k f (by simpa using h) hf v e' (by simpa using he)
    rw [List.flatMap_cons, List.set_append_right _ _ (by rw [encSpace_len]; omega), List.set_cons_succ, List.flatMap_cons, encSpace_len, ← ih]
    congr 2
    omega
theorem AnySp.set {L : List SpaceD} {k : Nat} {e : SpaceD} (h : AnySp L) (h1 : e.1.size ≤ 3000) (h2 : e.2.1.size ≤ 3000) : AnySp (L.set k e) := fun x hx => (List.mem_or_eq_of_mem_set hx).elim (h x) (fun q => by rw [q]; exact ⟨h1, h2⟩)
theorem own_cellsS {w : World} {base g c : Nat} {e : TypeId} {L : List SpaceD} (h : w.ownsRow base e 5 (.slice (some ⟨g, 0, none⟩) L.length c) L.length (L.flatMap encSpace)) : ∀ j, (hj : j < L.length) → ∀ i v, (encSpace L[j])[i]? = some v → w.cell? ⟨g, 0 + j * 5 + i, none⟩ = some v := fun j hj i v hv => by
  have := h.cells (g := g) rfl (j * 5 + i) v (flat_get encSpace_len L j hj i v hv)
  rw [addr_add] at this
  rw [show 0 + j * 5 + i = 0 + (j * 5 + i) by omega]
  exact this
theorem two_ints (x y : Int) (n : Nat) (h : n < 2) : ∃ z : Int, ([Value.int .i64 x, Value.int .i64 y] : List Value)[n]? = some (.int .i64 z) := by
  rcases (show n = 0 ∨ n = 1 by omega) with rfl | rfl
  · exact ⟨_, rfl⟩
  · exact ⟨_, rfl⟩
theorem drawSp_of {w w' : World} {r c p p' n m cb : Nat} {a b : Option Addr} {l : List UInt8} {M : List SpaceD} (hm : M.length = m) (O : w'.ownsRow w.heap.size 38 5 (.slice b m cb) m (M.flatMap encSpace)) (hE : AnySp M) (hn : M.length ≤ 7) (hrd : Rd w' r a c l p') (hp : p' ≤ p + n)
    (hk : KeptOut (fun b => b = r) w w') : DrawSpP w r a c l p n 7 (.returned (.slice b m cb)) w' := by
  subst hm
  exact ⟨_, M, p', rfl, O, hE, hn, hrd, hp, hk⟩

set_option maxRecDepth 100000 in
set_option maxHeartbeats 4000000 in
theorem spoilSp_any (w : World) (r : Nat) (a : Option Addr) (c : Nat) (l : List UInt8) (p : Nat) (hp : p ≤ 100000000) (h : Rd w r a c l p) (b : Option Addr) (cb : Nat) (L : List SpaceD) (hL : ElS 5 encSpace w b L) (hE : AnySp L) (hn1 : 1 ≤ L.length) (hn : L.length ≤ 6) :
    Calls Try.prog 84 #[.pointer (some ⟨r, 0, none⟩), .slice b L.length cb] w (DrawSpP w r a c l p 10 7) := by
  have hr : r < w.heap.size := h.lt
  have HAR := Lib.hid (rd_har h)
  have HR := Lib.hid h
  have HSRC := Lib.hid (src_el encSpace_len (by decide) hL)
  have HE := Lib.hid hE
  clear h hL hE
  obtain ⟨i0, hi, hz0, hz1, hz2⟩ := info_parts infoSp
  go_enter Try.func84, Try.ntmps84
  go_wp2_with (at_builtin; refine wpList_append_src _ rfl (.tmp 7) (.tmp 8) 31 rfl w.heap.size 38 i0 (.agg #[.string ⟨#[]⟩, .string ⟨#[]⟩, .int .i64 0, .bool false, .int .i64 0]) 5 56 Try.underlying31 hi hz0 hz1 hz2 rfl (by decide) (.slice (some ⟨w.heap.size, 0, none⟩) 0 0) 0 [] rfl (own_lit00 w 38 5 _ rfl (Nat.le_refl _)) b L.length cb (L.flatMap encSpace) rfl (HSRC.out.below (below_alloc w _)) (fun u hu => one_sps hu) (by unfold maxLen; omega) (by omega) (by simp) ?_; intro v1 w1 o1 g1 at1; rw [Nat.zero_add, List.nil_append] at o1; obtain ⟨a1, c1, rfl⟩ := own_shape o1; have B1 : Below w.heap.size w w1 := (below_alloc w _).grown g1 (by simp) (fun q hq => by have := own_blk hq; omega); have O1 := Lib.hid o1; have H1 := Lib.hid (HR.out.below B1); have K1 := Lib.hid (KeptOut.of_below (S := fun b => b = r) B1); have z1 := B1.size; clear o1 g1 at1 B1)
  refine (pick_any _ _ r a c l p (by omega) (by omega) (by omega) H1.out).mono ?_
  rintro e w2 ⟨kq, rfl, kq0, kq1, h2, k2⟩
  have kq1' := kq1 (by omega)
  obtain ⟨k, rfl⟩ := Int.eq_ofNat_of_zero_le kq0
  have hkL : k < L.length := by omega
  have H2 := Lib.hid h2
  have K2 := Lib.hid (K1.out.trans k2)
  have O2 := Lib.hid (own_kept O1.out k2 (fun q hq e => by have := (O1.out.lt q hq).1; omega))
  have s2 := k2.size
  clear h2 k2 kq1 H1 K1 O1
  go_wp2_with fail
  refine (pick_any 6 _ r a c l (p + 1) (by omega) (by omega) (by omega) H2.out).mono ?_
  rintro e w3 ⟨q5, rfl, q50, q51, h3, k3⟩
  have q51' := q51 (by omega)
  obtain ⟨n5, rfl⟩ := Int.eq_ofNat_of_zero_le q50
  have H3 := Lib.hid h3
  have K3 := Lib.hid (K2.out.trans k3)
  have O3 := Lib.hid (own_kept O2.out k3 (fun q hq e => by have := (O2.out.lt q hq).1; omega))
  have s3 := k3.size
  clear h3 k3 q51 H2 K2 O2
  obtain ⟨g, rfl, hgc, hg0, hg1⟩ := own_partsS O3.out (by omega)
  have hkI : (k : Int) < (L.length : Int) := by omega
  have hkx := HE.out L[k] (List.getElem_mem _)
  obtain ⟨ck0, ck1, ck2, ck3, ck4⟩ := cellsSpace (Below.refl _ w3) (own_cellsS O3.out) k hkL
  simp only [Nat.zero_add] at ck0 ck1 ck2 ck3 ck4
  rcases (show n5 = 0 ∨ n5 = 1 ∨ n5 = 2 ∨ n5 = 3 ∨ n5 = 4 ∨ n5 = 5 by omega) with rfl | rfl | rfl | rfl | rfl | rfl
  · go_wp2_with fail
    refine (of_any _ r a c l (p + 1 + 1) (by omega) (H3.out.below (below_alloc w3 _)) w3.heap.size 0 4 [⟨#[]⟩, ⟨#[122, 122]⟩, L[k].1, ⟨#[65]⟩] (by simp) (by simp) (by omega) (lit_cells w3 [⟨#[]⟩, ⟨#[122, 122]⟩, L[k].1, ⟨#[65]⟩] _)).mono ?_
    rintro e w4 ⟨y, hy, rfl, h4, k4⟩
    have s4 := k4.size
    simp only [World.size_alloc] at s4
    have hys : y.size ≤ 3000 := by
      simp only [List.mem_cons, List.not_mem_nil, or_false] at hy
      rcases hy with rfl | rfl | rfl | rfl
      · decide
      · decide
      · exact hkx.1
      · decide
    have H4 := Lib.hid h4
    have K4 := Lib.hid ((K3.out.trans (KeptOut.of_below (S := fun b => b = r) (below_alloc w3 _))).trans k4)
    have O4 := Lib.hid (own_kept (own_below O3.out (below_alloc w3 _)) k4 (fun q hq e => by have := (O3.out.lt q hq).1; omega))
    obtain ⟨⟨vo, co⟩, fo⟩ := own_cells O4.out (Below.refl _ _) (k * 5 + 1) (by omega)
    clear h4 k4 H3 K3 O3 hy ck0 ck1 ck2 ck3 ck4
    go_wp2
    go_ret
    have KS := (KeptOut.refl (fun b => b = g) w4).setCell (p := ⟨g, k * 5 + 1, none⟩) rfl (.string y)
    exact drawSp_of (M := L.set k (L[k].1, y, L[k].2.2.1, L[k].2.2.2.1, L[k].2.2.2.2)) (by simp) (by rw [← flat_setS L k 1 hkL (by omega) (.string y) _ rfl]; exact (O4.out.stored _ _).1) (HE.out.set hkx.1 hys) (by simp; omega) (H4.out.kept2 KS (by omega) (fun hn x hx => by have := HAR.out hn x hx; omega)) (by omega) (K4.out.step KS (fun b hb => .inl (by omega)))
  · go_wp2_with fail
    refine (pick_any 2 _ r a c l (p + 1 + 1) (by omega) (by omega) (by omega) (H3.out.below (below_alloc w3 _))).mono ?_
    rintro e w4 ⟨q2, rfl, q20, q21, h4, k4⟩
    have q21' := q21 (by omega)
    obtain ⟨n2, rfl⟩ := Int.eq_ofNat_of_zero_le q20
    have s4 := k4.size
    simp only [World.size_alloc] at s4
    have hn2I : (n2 : Int) < 2 := q21'
    obtain ⟨z, hz⟩ := two_ints (-2) 100000 n2 (by omega)
    have cz : w4.cell? ⟨w3.heap.size, n2, none⟩ = some (.int .i64 z) := ((Box.alloc w3 #[.int .i64 (-2), .int .i64 100000] 3).kept k4 (by omega) n2 _ hz).1
    have H4 := Lib.hid h4
    have K4 := Lib.hid ((K3.out.trans (KeptOut.of_below (S := fun b => b = r) (below_alloc w3 _))).trans k4)
    have O4 := Lib.hid (own_kept (own_below O3.out (below_alloc w3 _)) k4 (fun q hq e => by have := (O3.out.lt q hq).1; omega))
    obtain ⟨⟨vo, co⟩, fo⟩ := own_cells O4.out (Below.refl _ _) (k * 5 + 2) (by omega)
    clear h4 k4 q21 H3 K3 O3 hz ck0 ck1 ck2 ck3 ck4
    go_wp2
    go_ret
    have KS := (KeptOut.refl (fun b => b = g) w4).setCell (p := ⟨g, k * 5 + 2, none⟩) rfl (.int .i64 z)
    exact drawSp_of (M := L.set k (L[k].1, L[k].2.1, z, L[k].2.2.2.1, L[k].2.2.2.2)) (by simp) (by rw [← flat_setS L k 2 hkL (by omega) (.int .i64 z) _ rfl]; exact (O4.out.stored _ _).1) (HE.out.set hkx.1 hkx.2) (by simp; omega) (H4.out.kept2 KS (by omega) (fun hn x hx => by have := HAR.out hn x hx; omega)) (by omega) (K4.out.step KS (fun b hb => .inl (by omega)))
  · go_wp2_with (at_builtin; refine wpList_append_src _ rfl _ _ 31 rfl w.heap.size 38 i0 (.agg #[.string ⟨#[]⟩, .string ⟨#[]⟩, .int .i64 0, .bool false, .int .i64 0]) 5 56 Try.underlying31 hi hz0 hz1 hz2 rfl (by decide) _ _ _ rfl (O3.out.alloc _) (some ⟨w3.heap.size, 0, none⟩) 1 1 [.string L[k].1, .string L[k].2.1, .int .i64 L[k].2.2.1, .bool L[k].2.2.2.1, .int .i64 L[k].2.2.2.2] rfl (src_new w3 _ _ 1 5 _ rfl rfl) (by simp [Value.oneCell']) (by unfold maxLen; omega) (by omega) (by simp; omega) ?_; intro v5 w5 o5 g5 _; obtain ⟨a5, c5, rfl⟩ := own_shape o5)
    go_ret
    have B5 : Below w.heap.size w3 w5 := ((Below.refl w.heap.size w3).alloc (by omega) _).grown g5 (by simp; omega) (fun q hq => (O3.out.lt q hq).1)
    have KS : KeptOut (fun b => w.heap.size ≤ b) w3 w5 := ⟨B5.os, B5.tape, B5.output, by have := (kept_of_grown g5).size; simp at this; omega, fun q hq hn => B5.block q (by omega)⟩
    exact drawSp_of (M := L ++ [L[k]]) (by simp) (by rw [List.flatMap_append, List.flatMap_singleton]; exact o5) (fun x hx => (List.mem_append.1 hx).elim (HE.out x) (fun h => by rw [List.mem_singleton.1 h]; exact hkx)) (by simp; omega) (H3.out.kept2 KS (by omega) (fun hn x hx => by have := HAR.out hn x hx; omega)) (by omega) (K3.out.step KS (fun b hb => .inl hb))
  · go_wp2_with fail
    refine (of_any _ r a c l (p + 1 + 1) (by omega) (H3.out.below (below_alloc w3 _)) w3.heap.size 0 2 [⟨#[]⟩, ⟨#[65]⟩] (by simp) (by simp) (by omega) (lit_cells w3 [⟨#[]⟩, ⟨#[65]⟩] _)).mono ?_
    rintro e w4 ⟨y, hy, rfl, h4, k4⟩
    have s4 := k4.size
    simp only [World.size_alloc] at s4
    have hys : y.size ≤ 3000 := by
      simp only [List.mem_cons, List.not_mem_nil, or_false] at hy
      rcases hy with rfl | rfl <;> decide
    have H4 := Lib.hid h4
    have K4 := Lib.hid ((K3.out.trans (KeptOut.of_below (S := fun b => b = r) (below_alloc w3 _))).trans k4)
    have O4 := Lib.hid (own_kept (own_below O3.out (below_alloc w3 _)) k4 (fun q hq e => by have := (O3.out.lt q hq).1; omega))
    obtain ⟨⟨vo, co⟩, fo⟩ := own_cells O4.out (Below.refl _ _) (k * 5 + 0) (by omega)
    (try simp only [Nat.add_zero] at co fo)
    clear h4 k4 H3 K3 O3 hy ck0 ck1 ck2 ck3 ck4
    go_wp2
    go_ret
    have KS := (KeptOut.refl (fun b => b = g) w4).setCell (p := ⟨g, k * 5 + 0, none⟩) rfl (.string y)
    exact drawSp_of (M := L.set k (y, L[k].2.1, L[k].2.2.1, L[k].2.2.2.1, L[k].2.2.2.2)) (by simp) (by rw [← flat_setS L k 0 hkL (by omega) (.string y) _ rfl]; exact (O4.out.stored _ _).1) (HE.out.set hys hkx.2) (by simp; omega) (H4.out.kept2 KS (by omega) (fun hn x hx => by have := HAR.out hn x hx; omega)) (by omega) (K4.out.step KS (fun b hb => .inl (by omega)))
  · go_wp2_with fail
    have kI6 : (k : Int) ≤ (k : Int) + 1 := by omega
    have kI7 : k ≤ c1 := by omega
    have kI8 : (k : Int) ≤ (c1 : Int) := by omega
    have kI1 : (0 : Int) ≤ (k : Int) + 1 := by omega
    have kI2 : (k : Int) + 1 ≤ (L.length : Int) := by omega
    have kI3 : (k : Int) + 1 ≤ (c1 : Int) := by omega
    have kI4 : IntKind.i64.wrap ((k : Int) + 1) = (k : Int) + 1 := by simp [IntKind.wrap, IntKind.bits, IntKind.signed]; omega
    have kI5 : ((k : Int) + 1).toNat = k + 1 := by omega
    clear ck0 ck1 ck2 ck3 ck4
    by_cases hck : c1 = k + 1
    · have hdk : L.drop (k + 1) = [] := List.drop_of_length_le (by omega)
      subst hck
      refine wp_region_held_drew (S := fun _ => True) (by kernel_rfl) trivial (fun hHeld => ?_)
      refine wpAnyH_take (i := 0) (oi := { dst := some 65, op := Op.move (Operand.tmp 5), type := 31, pos := "l13_draw.go:109", after := _, guard := none }) (v := ?_) rfl (by kernel_rfl) (by kernel_rfl) (by kernel_rfl) (fun _ _ _ h => h) (Or.inl ⟨by rfl, ?_⟩) (by assumption) ?_
      rotate_left
      · (intro w hSw; (try dsimp only at hSw); go_simp; (try with_reducible rfl))
      simp only [Act.put, List.setIfInBounds_toArray, List.set_cons_zero, List.set_cons_succ]
      refine wpAnyH_take (i := 1) (oi := { dst := some 66, op := Op.move (Operand.tmp 6), type := 3, pos := "l13_draw.go:109", after := _, guard := none }) (v := ?_) rfl (by kernel_rfl) (by kernel_rfl) (by kernel_rfl) (fun _ _ _ h => h) (Or.inl ⟨by rfl, ?_⟩) (by assumption) ?_
      rotate_left
      · (intro w hSw; (try dsimp only at hSw); go_simp; (try with_reducible rfl))
      simp only [Act.put, List.setIfInBounds_toArray, List.set_cons_zero, List.set_cons_succ]
      refine wpAnyH_take (i := 2) (oi := { dst := some 67, op := Op.slice 31 (Operand.tmp 65) none (some (Operand.tmp 66)) none, type := 31, pos := "l13_draw.go:109", after := _, guard := none }) (v := ?_) rfl (by kernel_rfl) (by kernel_rfl) (by kernel_rfl) (fun _ _ _ h => h) (Or.inl ⟨by rfl, ?_⟩) (by assumption) ?_
      rotate_left
      · (intro w hSw; (try dsimp only at hSw); go_simp; (try with_reducible rfl))
      simp only [Act.put, List.setIfInBounds_toArray, List.set_cons_zero, List.set_cons_succ]
      refine wpAnyH_take (i := 3) (oi := { dst := some 68, op := Op.move (Operand.tmp 5), type := 31, pos := "l13_draw.go:109", after := _, guard := none }) (v := ?_) rfl (by kernel_rfl) (by kernel_rfl) (by kernel_rfl) (fun _ _ _ h => h) (Or.inl ⟨by rfl, ?_⟩) (by assumption) ?_
      rotate_left
      · (intro w hSw; (try dsimp only at hSw); go_simp; (try with_reducible rfl))
      simp only [Act.put, List.setIfInBounds_toArray, List.set_cons_zero, List.set_cons_succ]
      refine wpAnyH_take (i := 4) (oi := { dst := some 69, op := Op.move (Operand.tmp 6), type := 3, pos := "l13_draw.go:109", after := _, guard := none }) (v := ?_) rfl (by kernel_rfl) (by kernel_rfl) (by kernel_rfl) (fun _ _ _ h => h) (Or.inl ⟨by rfl, ?_⟩) (by assumption) ?_
      rotate_left
      · (intro w hSw; (try dsimp only at hSw); go_simp; (try with_reducible rfl))
      simp only [Act.put, List.setIfInBounds_toArray, List.set_cons_zero, List.set_cons_succ]
      refine wpAnyH_take (i := 5) (oi := { dst := some 70, op := Op.binOp BinOp.add 3 (Operand.tmp 69) (Operand.const (Value.int IntKind.i64 1)) 3, type := 3, pos := "l13_draw.go:109", after := _, guard := none }) (v := ?_) rfl (by kernel_rfl) (by kernel_rfl) (by kernel_rfl) (fun _ _ _ h => h) (Or.inl ⟨by rfl, ?_⟩) (by assumption) ?_
      rotate_left
      · (intro w hSw; (try dsimp only at hSw); go_simp; (try with_reducible rfl))
      simp only [Act.put, List.setIfInBounds_toArray, List.set_cons_zero, List.set_cons_succ]
      refine wpAnyH_take (i := 6) (oi := { dst := some 71, op := Op.slice 31 (Operand.tmp 68) (some (Operand.tmp 70)) none none, type := 31, pos := "l13_draw.go:109", after := _, guard := none }) (v := ?_) rfl (by kernel_rfl) (by kernel_rfl) (by kernel_rfl) (fun _ _ _ h => h) (Or.inl ⟨by rfl, ?_⟩) (by assumption) ?_
      rotate_left
      · (intro w hSw; (try dsimp only at hSw); go_simp; (try with_reducible rfl))
      simp only [Act.put, List.setIfInBounds_toArray, List.set_cons_zero, List.set_cons_succ]
      refine wpAnyH_ready (rs := [7]) (by kernel_rfl) (by simp) ?_
      refine AllReadyH.cons (o := { dst := some 72, op := Op.call { callee := Callee.builtin Builtin.append, args := #[Operand.tmp 67, Operand.tmp 71], argTypes := #[31, 31] }, type := 31, pos := "l13_draw.go:109", after := _, guard := none }) rfl (fun K hK => ?_) AllReadyH.nil
      refine step_append_src _ rfl (.tmp 67) (.tmp 71) 31 rfl w.heap.size 38 i0 (.agg #[.string ⟨#[]⟩, .string ⟨#[]⟩, .int .i64 0, .bool false, .int .i64 0]) 5 56 Try.underlying31 hi hz0 hz1 hz2 rfl (by decide) _ k _ rfl (own_below (own_prefix O3.out (Nat.le_of_lt hkL)) ((Below.refl _ _).drew)) (some ⟨g, 0, none⟩) 0 0 [] rfl (src_nil _ _ _) (by simp) (by unfold maxLen; omega) (by omega) (by show w.heap.size ≤ w3.heap.size; omega) ?_
      intro v5 w5 o5 g5 _
      refine hK.out _ _ trivial (fun hHeld => ?_)
      clear hK K
      obtain ⟨a5, c5, rfl⟩ := own_shape o5
      (try simp only [Act.put, List.setIfInBounds_toArray, List.set_cons_zero, List.set_cons_succ])
      refine wpAnyH_take (i := 8) (oi := { dst := some 5, op := Op.assign (Operand.tmp 72), type := 31, pos := "l13_draw.go:109", after := _, guard := none }) (v := ?_) rfl (by kernel_rfl) (by kernel_rfl) (by kernel_rfl) (fun _ _ _ h => h) (Or.inl ⟨by rfl, ?_⟩) (by assumption) ?_
      rotate_left
      · (intro w hSw; (try dsimp only at hSw); go_simp; (try with_reducible rfl))
      simp only [Act.put, List.setIfInBounds_toArray, List.set_cons_zero, List.set_cons_succ]
      refine wpAnyH_done (by kernel_rfl) ?_ _
      go_wp2_with fail
      go_ret
      have KS : KeptOut (fun b => b = g) w3 w5 := (KeptOut.of_below (S := fun b => b = g) ((Below.refl _ w3).drew)).trans ((kept_of_grown g5).mono (fun q _ e => by have := own_blk e; exact this))
      exact drawSp_of (M := L.take k ++ L.drop (k + 1)) (by rw [List.length_append, List.length_take, List.length_drop]; omega) (by rw [List.flatMap_append]; rw [hdk]; have h := o5; rwa [flat_take encSpace_len] at h) (fun x hx => (List.mem_append.1 hx).elim (fun h => HE.out x (List.mem_of_mem_take h)) (fun h => HE.out x (List.mem_of_mem_drop h))) (by rw [List.length_append, List.length_take, List.length_drop]; omega) (H3.out.kept2 KS (by omega) (fun hn x hx => by have := HAR.out hn x hx; omega)) (by omega) (K3.out.step KS (fun b hb => .inl (by omega)))
    · have hck2 : ¬ (c1 = k + 1) := hck
      refine wp_region_held_drew (S := fun _ => True) (by kernel_rfl) trivial (fun hHeld => ?_)
      refine wpAnyH_take (i := 0) (oi := { dst := some 65, op := Op.move (Operand.tmp 5), type := 31, pos := "l13_draw.go:109", after := _, guard := none }) (v := ?_) rfl (by kernel_rfl) (by kernel_rfl) (by kernel_rfl) (fun _ _ _ h => h) (Or.inl ⟨by rfl, ?_⟩) (by assumption) ?_
      rotate_left
      · (intro w hSw; (try dsimp only at hSw); go_simp; (try with_reducible rfl))
      simp only [Act.put, List.setIfInBounds_toArray, List.set_cons_zero, List.set_cons_succ]
      refine wpAnyH_take (i := 1) (oi := { dst := some 66, op := Op.move (Operand.tmp 6), type := 3, pos := "l13_draw.go:109", after := _, guard := none }) (v := ?_) rfl (by kernel_rfl) (by kernel_rfl) (by kernel_rfl) (fun _ _ _ h => h) (Or.inl ⟨by rfl, ?_⟩) (by assumption) ?_
      rotate_left
      · (intro w hSw; (try dsimp only at hSw); go_simp; (try with_reducible rfl))
      simp only [Act.put, List.setIfInBounds_toArray, List.set_cons_zero, List.set_cons_succ]
      refine wpAnyH_take (i := 2) (oi := { dst := some 67, op := Op.slice 31 (Operand.tmp 65) none (some (Operand.tmp 66)) none, type := 31, pos := "l13_draw.go:109", after := _, guard := none }) (v := ?_) rfl (by kernel_rfl) (by kernel_rfl) (by kernel_rfl) (fun _ _ _ h => h) (Or.inl ⟨by rfl, ?_⟩) (by assumption) ?_
      rotate_left
      · (intro w hSw; (try dsimp only at hSw); go_simp; (try with_reducible rfl))
      simp only [Act.put, List.setIfInBounds_toArray, List.set_cons_zero, List.set_cons_succ]
      refine wpAnyH_take (i := 3) (oi := { dst := some 68, op := Op.move (Operand.tmp 5), type := 31, pos := "l13_draw.go:109", after := _, guard := none }) (v := ?_) rfl (by kernel_rfl) (by kernel_rfl) (by kernel_rfl) (fun _ _ _ h => h) (Or.inl ⟨by rfl, ?_⟩) (by assumption) ?_
      rotate_left
      · (intro w hSw; (try dsimp only at hSw); go_simp; (try with_reducible rfl))
      simp only [Act.put, List.setIfInBounds_toArray, List.set_cons_zero, List.set_cons_succ]
      refine wpAnyH_take (i := 4) (oi := { dst := some 69, op := Op.move (Operand.tmp 6), type := 3, pos := "l13_draw.go:109", after := _, guard := none }) (v := ?_) rfl (by kernel_rfl) (by kernel_rfl) (by kernel_rfl) (fun _ _ _ h => h) (Or.inl ⟨by rfl, ?_⟩) (by assumption) ?_
      rotate_left
      · (intro w hSw; (try dsimp only at hSw); go_simp; (try with_reducible rfl))
      simp only [Act.put, List.setIfInBounds_toArray, List.set_cons_zero, List.set_cons_succ]
      refine wpAnyH_take (i := 5) (oi := { dst := some 70, op := Op.binOp BinOp.add 3 (Operand.tmp 69) (Operand.const (Value.int IntKind.i64 1)) 3, type := 3, pos := "l13_draw.go:109", after := _, guard := none }) (v := ?_) rfl (by kernel_rfl) (by kernel_rfl) (by kernel_rfl) (fun _ _ _ h => h) (Or.inl ⟨by rfl, ?_⟩) (by assumption) ?_
      rotate_left
      · (intro w hSw; (try dsimp only at hSw); go_simp; (try with_reducible rfl))
      simp only [Act.put, List.setIfInBounds_toArray, List.set_cons_zero, List.set_cons_succ]
      refine wpAnyH_take (i := 6) (oi := { dst := some 71, op := Op.slice 31 (Operand.tmp 68) (some (Operand.tmp 70)) none none, type := 31, pos := "l13_draw.go:109", after := _, guard := none }) (v := ?_) rfl (by kernel_rfl) (by kernel_rfl) (by kernel_rfl) (fun _ _ _ h => h) (Or.inl ⟨by rfl, ?_⟩) (by assumption) ?_
      rotate_left
      · (intro w hSw; (try dsimp only at hSw); go_simp; (try with_reducible rfl))
      simp only [Act.put, List.setIfInBounds_toArray, List.set_cons_zero, List.set_cons_succ]
      refine wpAnyH_ready (rs := [7]) (by kernel_rfl) (by simp) ?_
      refine AllReadyH.cons (o := { dst := some 72, op := Op.call { callee := Callee.builtin Builtin.append, args := #[Operand.tmp 67, Operand.tmp 71], argTypes := #[31, 31] }, type := 31, pos := "l13_draw.go:109", after := _, guard := none }) rfl (fun K hK => ?_) AllReadyH.nil
      refine step_append_src _ rfl (.tmp 67) (.tmp 71) 31 rfl w.heap.size 38 i0 (.agg #[.string ⟨#[]⟩, .string ⟨#[]⟩, .int .i64 0, .bool false, .int .i64 0]) 5 56 Try.underlying31 hi hz0 hz1 hz2 rfl (by decide) _ k _ rfl (own_below (own_prefix O3.out (Nat.le_of_lt hkL)) ((Below.refl _ _).drew)) (some ⟨g, (k + 1) * 5, none⟩) (L.length - (k + 1)) (c1 - (k + 1)) ((L.drop (k + 1)).flatMap encSpace) rfl ((src_drop encSpace_len (by decide) (own_el encSpace_len (by unfold maxLen; omega) O3.out)).below ((Below.refl _ _).drew)) (fun u hu => one_sps hu) (by unfold maxLen; omega) (by omega) (by show w.heap.size ≤ w3.heap.size; omega) ?_
      intro v5 w5 o5 g5 _
      refine hK.out _ _ trivial (fun hHeld => ?_)
      clear hK K
      obtain ⟨a5, c5, rfl⟩ := own_shape o5
      (try simp only [Act.put, List.setIfInBounds_toArray, List.set_cons_zero, List.set_cons_succ])
      refine wpAnyH_take (i := 8) (oi := { dst := some 5, op := Op.assign (Operand.tmp 72), type := 31, pos := "l13_draw.go:109", after := _, guard := none }) (v := ?_) rfl (by kernel_rfl) (by kernel_rfl) (by kernel_rfl) (fun _ _ _ h => h) (Or.inl ⟨by rfl, ?_⟩) (by assumption) ?_
      rotate_left
      · (intro w hSw; (try dsimp only at hSw); go_simp; (try with_reducible rfl))
      simp only [Act.put, List.setIfInBounds_toArray, List.set_cons_zero, List.set_cons_succ]
      refine wpAnyH_done (by kernel_rfl) ?_ _
      go_wp2_with fail
      go_ret
      have KS : KeptOut (fun b => b = g) w3 w5 := (KeptOut.of_below (S := fun b => b = g) ((Below.refl _ w3).drew)).trans ((kept_of_grown g5).mono (fun q _ e => by have := own_blk e; exact this))
      exact drawSp_of (M := L.take k ++ L.drop (k + 1)) (by rw [List.length_append, List.length_take, List.length_drop]; omega) (by rw [List.flatMap_append]; have h := o5; rwa [flat_take encSpace_len] at h) (fun x hx => (List.mem_append.1 hx).elim (fun h => HE.out x (List.mem_of_mem_take h)) (fun h => HE.out x (List.mem_of_mem_drop h))) (by rw [List.length_append, List.length_take, List.length_drop]; omega) (H3.out.kept2 KS (by omega) (fun hn x hx => by have := HAR.out hn x hx; omega)) (by omega) (K3.out.step KS (fun b hb => .inl (by omega)))
  · obtain ⟨⟨vo, co⟩, fo⟩ := own_cells O3.out (Below.refl _ _) (k * 5 + 4) (by omega)
    clear ck0 ck1 ck2 ck3 ck4
    go_wp2
    go_ret
    have KS := (KeptOut.refl (fun b => b = g) w3).setCell (p := ⟨g, k * 5 + 4, none⟩) rfl (.int .i64 (-1))
    exact drawSp_of (M := L.set k (L[k].1, L[k].2.1, L[k].2.2.1, L[k].2.2.2.1, -1)) (by simp) (by rw [← flat_setS L k 4 hkL (by omega) (.int .i64 (-1)) _ rfl]; exact (O3.out.stored _ _).1) (HE.out.set hkx.1 hkx.2) (by simp; omega) (H3.out.kept2 KS (by omega) (fun hn x hx => by have := HAR.out hn x hx; omega)) (by omega) (K3.out.step KS (fun b hb => .inl (by omega)))
end Go.Proofs.Ytbdicaanniffpab
