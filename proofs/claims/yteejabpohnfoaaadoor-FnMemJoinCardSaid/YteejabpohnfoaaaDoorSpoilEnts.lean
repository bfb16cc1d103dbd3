import Derived.Test.YteejabpohnfoaaaDoorDrawEnts
import Derived.Test.YteejabpohnfoaaaDoorMany
/- Drawn lists of entries, some spoilt. -/
namespace Go.Proofs.YteejabpohnfoaaaDoor
open Go Go.RowKit

theorem own_partsE {w : World} {base : Nat} {e : TypeId} {size : Nat} {a : Option Addr} {n c : Nat} {xs : List Value} (h : w.ownsRow base e size (.slice a n c) n xs) (hn : 0 < n) : ∃ g, a = some ⟨g, 0, none⟩ ∧ n ≤ c ∧ base ≤ g ∧ g < w.heap.size := by
  rcases h.2 with ⟨_, h0⟩ | ⟨g, cap, cur, hv, hb, hg, h1, h2, _⟩
  · omega
  · simp only [Value.slice.injEq] at hv
    obtain ⟨rfl, _, rfl⟩ := hv
    exact ⟨g, rfl, h1, hb, (Array.getElem?_eq_some_iff.1 hg).1⟩
theorem flat_set : ∀ (L : List EntryD) (k f : Nat) (h : k < L.length) (_ : f < 4) (v : Value) (e' : EntryD), (encEntry L[k]).set f v = encEntry e' → (L.flatMap encEntry).set (k * 4 + f) v = (L.set k e').flatMap encEntry
  | x :: L, 0, f, _, hf, v, e', he => by
    rw [List.flatMap_cons, List.set_append_left _ _ (by rw [encEntry_len]; omega), List.set_cons_zero, List.flatMap_cons, Nat.zero_mul, Nat.zero_add, ← he]
    rfl
  | x :: L, k + 1, f, h, hf, v, e', he => by
    have ih := flat_set L k f (by simpa using h) hf v e' (by simpa using he)
    rw [List.flatMap_cons, List.set_append_right _ _ (by rw [encEntry_len]; omega), List.set_cons_succ, List.flatMap_cons, encEntry_len, ← ih]
    congr 2
    omega
theorem AnyE.set {L : List EntryD} {k : Nat} {e : EntryD} (h : AnyE L) (h1 : e.1.size ≤ 3000) (h2 : e.2.2.2.size ≤ 3000) : AnyE (L.set k e) := fun x hx => (List.mem_or_eq_of_mem_set hx).elim (h x) (fun q => by rw [q]; exact ⟨h1, h2⟩)
theorem drawE_of {w w' : World} {r c p p' n m cb : Nat} {a b : Option Addr} {l : List UInt8} {M : List EntryD} (hm : M.length = m) (O : w'.ownsRow w.heap.size 31 4 (.slice b m cb) m (M.flatMap encEntry)) (hE : AnyE M) (hn : M.length ≤ 241) (hrd : Rd w' r a c l p') (hp : p' ≤ p + n)
    (hk : KeptOut (fun b => b = r) w w') : DrawEPost w r a c l p n 241 (.returned (.slice b m cb)) w' := by
  subst hm
  exact ⟨b, cb, M, p', rfl, own_el encEntry_len (by unfold maxLen; omega) O, own_cap O, fun k hk => (O.lt k (blk_map hk)).1, hE, hn, hrd, hp, hk⟩
theorem two_int (x y : Int) (n : Nat) (h : n < 2) : ∃ z : Int, ([Value.int .i64 x, Value.int .i64 y] : List Value)[n]? = some (.int .i64 z) := by
  rcases (show n = 0 ∨ n = 1 by omega) with rfl | rfl
  · exact ⟨_, rfl⟩
  · exact ⟨_, rfl⟩
theorem own_cellsE {w : World} {base g c : Nat} {e : TypeId} {L : List EntryD} (h : w.ownsRow base e 4 (.slice (some ⟨g, 0, none⟩) L.length c) L.length (L.flatMap encEntry)) : ∀ j, (hj : j < L.length) → ∀ i v, (encEntry L[j])[i]? = some v → w.cell? ⟨g, 0 + j * 4 + i, none⟩ = some v := fun j hj i v hv => by
  have := h.cells (g := g) rfl (j * 4 + i) v (flat_get encEntry_len L j hj i v hv)
  rw [addr_add] at this
  rw [show 0 + j * 4 + i = 0 + (j * 4 + i) by omega]
  exact this
def litS : List ByteArray := [⟨#[]⟩, ⟨#[97, 32, 98]⟩, ⟨#[97, 58, 98]⟩]
theorem litS_size : ∀ s ∈ litS, s.size ≤ 24 := by
  intro s hs
  simp only [litS, List.mem_cons, List.not_mem_nil, or_false] at hs
  rcases hs with rfl | rfl | rfl <;> simp [ByteArray.size]

set_option maxRecDepth 100000 in
set_option maxHeartbeats 2000000 in
theorem spoilE_any (w : World) (r : Nat) (a : Option Addr) (c : Nat) (l : List UInt8) (p : Nat) (hp : p ≤ 100000000) (h : Rd w r a c l p) (b : Option Addr) (cb : Nat) (L : List EntryD) (hL : ElS 4 encEntry w b L) (hE : AnyE L) (hn : L.length ≤ 240) :
    Calls Tryd.prog 57 #[.pointer (some ⟨r, 0, none⟩), .slice b L.length cb] w (DrawEPost w r a c l p 10 241) := by
  have hr : r < w.heap.size := h.lt
  have HAR := Lib.hid (rd_har h)
  have HR := Lib.hid h
  have HSRC := Lib.hid (src_el encEntry_len (by decide) hL)
  have HE := Lib.hid hE
  clear h hL hE
  obtain ⟨i0, hi, hz0, hz1, hz2⟩ := info_parts infoEntry
  by_cases hl0 : L.length = 0
  · have hl0b : ((L.length : Int) == 0) = true := by simp [hl0]
    go_enter Tryd.func57, Tryd.ntmps57
    go_wp2_with (at_builtin; refine wpList_append_src _ rfl (.tmp 7) (.tmp 8) 27 rfl w.heap.size 31 i0 (.agg #[.string ⟨#[]⟩, .int .i64 0, .bool false, .string ⟨#[]⟩]) 4 48 Tryd.underlying27 hi hz0 hz1 hz2 rfl (by decide) (.slice (some ⟨w.heap.size, 0, none⟩) 0 0) 0 [] rfl (own_lit0 w 31 4 _ rfl (Nat.le_refl _)) b L.length cb (L.flatMap encEntry) rfl (HSRC.out.below (below_alloc w _)) (fun u hu => one_ents hu) (by unfold maxLen; omega) (by omega) (by simp) ?_; intro v1 w1 o1 g1 at1; rw [Nat.zero_add, List.nil_append] at o1; obtain ⟨a1, c1, rfl⟩ := own_shape o1; have B1 : Below w.heap.size w w1 := below_app (below_alloc w _) (by simp) g1 (Nat.le_refl _); have O1 := Lib.hid o1; have H1 := Lib.hid (HR.out.below B1); have K1 := Lib.hid (KeptOut.of_below (S := fun b => b = r) B1); have z1 := B1.size; have hcap := own_cap o1; clear o1 g1 at1 B1)
    refine (of_any _ r a c l p (by omega) (H1.out.below (below_alloc w1 _)) w1.heap.size 0 3 litS (by decide) (by decide) (by omega) (lit_cells w1 litS _)).mono ?_
    rintro e w2 ⟨s, hs, rfl, h2, k2⟩
    have s2 := k2.size
    simp only [World.size_alloc] at s2
    have K2 := Lib.hid (((K1.out.trans (KeptOut.of_below (S := fun b => b = r) (below_alloc w1 _))).trans k2))
    have H2 := Lib.hid h2
    clear h2 k2
    go_wp2
    go_ret
    exact drawE_of (M := [(s, 1, false, ⟨#[]⟩)]) rfl (World.ownsRow_lit w2 #[.string s, .int .i64 1, .bool false, .string ⟨#[]⟩] 1 (by omega) (by unfold maxLen; omega) rfl) (fun x hx => by rw [List.mem_singleton.1 hx]; exact ⟨by have := litS_size s hs; show s.size ≤ 3000; omega, show (⟨#[]⟩ : ByteArray).size ≤ 3000 by decide⟩) (by simp) (H2.out.below (below_alloc w2 _)) (by omega) (K2.out.trans (.of_below (below_alloc w2 _)))
  · have hl0b : ((L.length : Int) == 0) = false := by rw [beq_eq_false_iff_ne]; omega
    go_enter Tryd.func57, Tryd.ntmps57
    go_wp2_with (at_builtin; refine wpList_append_src _ rfl (.tmp 7) (.tmp 8) 27 rfl w.heap.size 31 i0 (.agg #[.string ⟨#[]⟩, .int .i64 0, .bool false, .string ⟨#[]⟩]) 4 48 Tryd.underlying27 hi hz0 hz1 hz2 rfl (by decide) (.slice (some ⟨w.heap.size, 0, none⟩) 0 0) 0 [] rfl (own_lit0 w 31 4 _ rfl (Nat.le_refl _)) b L.length cb (L.flatMap encEntry) rfl (HSRC.out.below (below_alloc w _)) (fun u hu => one_ents hu) (by unfold maxLen; omega) (by omega) (by simp) ?_; intro v1 w1 o1 g1 at1; rw [Nat.zero_add, List.nil_append] at o1; obtain ⟨a1, c1, rfl⟩ := own_shape o1; have B1 : Below w.heap.size w w1 := below_app (below_alloc w _) (by simp) g1 (Nat.le_refl _); have O1 := Lib.hid o1; have H1 := Lib.hid (HR.out.below B1); have K1 := Lib.hid (KeptOut.of_below (S := fun b => b = r) B1); have z1 := B1.size; have hcap := own_cap o1; clear o1 g1 at1 B1)
    refine (pick_any _ _ r a c l p (by omega) (by omega) (by omega) H1.out).mono ?_
    rintro e w2 ⟨kq, rfl, kq0, kq1, h2, k2⟩
    have kq1' := kq1 (by omega)
    obtain ⟨k, rfl⟩ := Int.eq_ofNat_of_zero_le kq0
    have hkL : k < L.length := by omega
    have H2 := Lib.hid h2
    have K2 := Lib.hid (K1.out.trans k2)
    have O2 := Lib.hid (own_kept O1.out k2 (fun q hq e => by have := (O1.out.lt q hq).1; omega))
    have s2 := k2.size
    clear h2 k2 kq1 H1 K1 O1
    go_wp2_with fail
    refine (pick_any 5 _ r a c l (p + 1) (by omega) (by omega) (by omega) H2.out).mono ?_
    rintro e w3 ⟨q5, rfl, q50, q51, h3, k3⟩
    have q51' := q51 (by omega)
    obtain ⟨n5, rfl⟩ := Int.eq_ofNat_of_zero_le q50
    have H3 := Lib.hid h3
    have K3 := Lib.hid (K2.out.trans k3)
    have O3 := Lib.hid (own_kept O2.out k3 (fun q hq e => by have := (O2.out.lt q hq).1; omega))
    have s3 := k3.size
    clear h3 k3 q51 H2 K2 O2
    obtain ⟨g, rfl, hgc, hg0, hg1⟩ := own_partsE O3.out (by omega)
    have hkI : (k : Int) < (L.length : Int) := by omega
    have hkx := HE.out L[k] (List.getElem_mem _)
    rcases (show n5 = 0 ∨ n5 = 1 ∨ n5 = 2 ∨ n5 = 3 ∨ n5 = 4 by omega) with rfl | rfl | rfl | rfl | rfl
    · go_wp2_with fail
      refine (pick_any 2 _ r a c l (p + 1 + 1) (by omega) (by omega) (by omega) (H3.out.below (below_alloc w3 _))).mono ?_
      rintro e w4 ⟨q2, rfl, q20, q21, h4, k4⟩
      have q21' := q21 (by omega)
      obtain ⟨n2, rfl⟩ := Int.eq_ofNat_of_zero_le q20
      have s4 := k4.size
      simp only [World.size_alloc] at s4
      have hn2I : (n2 : Int) < 2 := q21'
      obtain ⟨z, hz⟩ := two_int 0 100000000 n2 (by omega)
      have cz : w4.cell? ⟨w3.heap.size, n2, none⟩ = some (.int .i64 z) := ((Box.alloc w3 #[.int .i64 0, .int .i64 100000000] 3).kept k4 (by omega) n2 _ hz).1
      have H4 := Lib.hid h4
      have K4 := Lib.hid ((K3.out.trans (KeptOut.of_below (S := fun b => b = r) (below_alloc w3 _))).trans k4)
      have O4 := Lib.hid (own_kept (own_below O3.out (below_alloc w3 _)) k4 (fun q hq e => by have := (O3.out.lt q hq).1; omega))
      obtain ⟨⟨vo, co⟩, fo⟩ := own_cells O4.out (Below.refl _ _) (k * 4 + 1) (by omega)
      clear h4 k4 q21 H3 K3 O3 hz
      go_wp2
      go_ret
      have KS := (KeptOut.refl (fun b => b = g) w4).setCell (p := ⟨g, k * 4 + 1, none⟩) rfl (.int .i64 z)
      exact drawE_of (M := L.set k (L[k].1, z, L[k].2.2.1, L[k].2.2.2)) (by simp) (by rw [← flat_set L k 1 hkL (by omega) (.int .i64 z) _ rfl]; exact (O4.out.stored _ _).1) (HE.out.set hkx.1 hkx.2) (by simp; omega) (H4.out.kept2 KS (by omega) (fun hn x hx => by have := HAR.out hn x hx; omega)) (by omega) (K4.out.step KS (fun b hb => .inl (by omega)))
    · go_wp2_with fail
      refine (many_any ⟨#[107]⟩ 25 _ (by decide) (by decide)).mono ?_
      rintro e w4' ⟨⟨t, ht, rfl⟩, rfl⟩
      go_wp2_with fail
      refine (of_any _ r a c l (p + 1 + 1) (by omega) (H3.out.below (below_alloc w3 _)) w3.heap.size 0 3 [⟨#[]⟩, ⟨#[97, 32, 98]⟩, t] (by simp) (by simp) (by omega) (lit_cells w3 [⟨#[]⟩, ⟨#[97, 32, 98]⟩, t] _)).mono ?_
      rintro e w4 ⟨y, hy, rfl, h4, k4⟩
      have s4 := k4.size
      simp only [World.size_alloc] at s4
      have hys : y.size ≤ 3000 := by
        simp only [List.mem_cons, List.not_mem_nil, or_false] at hy
        rcases hy with rfl | rfl | rfl <;> first | (rw [ht]; decide) | decide
      have H4 := Lib.hid h4
      have K4 := Lib.hid ((K3.out.trans (KeptOut.of_below (S := fun b => b = r) (below_alloc w3 _))).trans k4)
      have O4 := Lib.hid (own_kept (own_below O3.out (below_alloc w3 _)) k4 (fun q hq e => by have := (O3.out.lt q hq).1; omega))
      obtain ⟨⟨vo, co⟩, fo⟩ := own_cells O4.out (Below.refl _ _) (k * 4 + 0) (by omega)
      (try simp only [Nat.add_zero] at co fo)
      clear h4 k4 H3 K3 O3 hy
      go_wp2
      go_ret
      have KS := (KeptOut.refl (fun b => b = g) w4).setCell (p := ⟨g, k * 4 + 0, none⟩) rfl (.string y)
      exact drawE_of (M := L.set k (y, L[k].2.1, L[k].2.2.1, L[k].2.2.2)) (by simp) (by rw [← flat_set L k 0 hkL (by omega) (.string y) _ rfl]; exact (O4.out.stored _ _).1) (HE.out.set hys hkx.2) (by simp; omega) (H4.out.kept2 KS (by omega) (fun hn x hx => by have := HAR.out hn x hx; omega)) (by omega) (K4.out.step KS (fun b hb => .inl (by omega)))
    · go_wp2_with fail
      refine (many_any ⟨#[118]⟩ 81 _ (by decide) (by decide)).mono ?_
      rintro e w4' ⟨⟨t, ht, rfl⟩, rfl⟩
      go_wp2_with fail
      refine (of_any _ r a c l (p + 1 + 1) (by omega) (H3.out.below (below_alloc w3 _)) w3.heap.size 0 2 [⟨#[10]⟩, t] (by simp) (by simp) (by omega) (lit_cells w3 [⟨#[10]⟩, t] _)).mono ?_
      rintro e w4 ⟨y, hy, rfl, h4, k4⟩
      have s4 := k4.size
      simp only [World.size_alloc] at s4
      have hys : y.size ≤ 3000 := by
        simp only [List.mem_cons, List.not_mem_nil, or_false] at hy
        rcases hy with rfl | rfl <;> first | (rw [ht]; decide) | decide
      have H4 := Lib.hid h4
      have K4 := Lib.hid ((K3.out.trans (KeptOut.of_below (S := fun b => b = r) (below_alloc w3 _))).trans k4)
      have O4 := Lib.hid (own_kept (own_below O3.out (below_alloc w3 _)) k4 (fun q hq e => by have := (O3.out.lt q hq).1; omega))
      obtain ⟨⟨vo, co⟩, fo⟩ := own_cells O4.out (Below.refl _ _) (k * 4 + 3) (by omega)
      (try simp only [Nat.add_zero] at co fo)
      clear h4 k4 H3 K3 O3 hy
      go_wp2
      go_ret
      have KS := (KeptOut.refl (fun b => b = g) w4).setCell (p := ⟨g, k * 4 + 3, none⟩) rfl (.string y)
      exact drawE_of (M := L.set k (L[k].1, L[k].2.1, L[k].2.2.1, y)) (by simp) (by rw [← flat_set L k 3 hkL (by omega) (.string y) _ rfl]; exact (O4.out.stored _ _).1) (HE.out.set hkx.1 hys) (by simp; omega) (H4.out.kept2 KS (by omega) (fun hn x hx => by have := HAR.out hn x hx; omega)) (by omega) (K4.out.step KS (fun b hb => .inl (by omega)))
    · obtain ⟨⟨vo, co⟩, fo⟩ := own_cells O3.out (Below.refl _ _) (k * 4 + 2) (by omega)
      obtain ⟨⟨vo3, co3⟩, fo3⟩ := own_cells O3.out (Below.refl _ _) (k * 4 + 3) (by omega)
      go_wp2
      go_ret
      have KS := ((KeptOut.refl (fun b => b = g) w3).setCell (p := ⟨g, k * 4 + 2, none⟩) rfl (.bool true)).setCell (p := ⟨g, k * 4 + 3, none⟩) rfl (.string ⟨#[118]⟩)
      have hk2 : k < (L.set k (L[k].1, L[k].2.1, true, L[k].2.2.2)).length := by simpa using hkL
      exact drawE_of (M := (L.set k (L[k].1, L[k].2.1, true, L[k].2.2.2)).set k (L[k].1, L[k].2.1, true, ⟨#[118]⟩)) (by simp) (by rw [← flat_set _ k 3 hk2 (by omega) (.string ⟨#[118]⟩) _ (by simp; rfl), ← flat_set L k 2 hkL (by omega) (.bool true) _ rfl]; exact ((O3.out.stored _ _).1.stored _ _).1) ((HE.out.set (e := (L[k].1, L[k].2.1, true, L[k].2.2.2)) hkx.1 hkx.2).set (e := (L[k].1, L[k].2.1, true, ⟨#[118]⟩)) hkx.1 (show (⟨#[118]⟩ : ByteArray).size ≤ 3000 by decide)) (by simp; omega) (H3.out.kept2 KS (by omega) (fun hn x hx => by have := HAR.out hn x hx; omega)) (by omega) (K3.out.step KS (fun b hb => .inl (by omega)))
    · obtain ⟨ck0, ck1, ck2, ck3⟩ := cellsEntry (Below.refl _ w3) (own_cellsE O3.out) k hkL
      simp only [Nat.zero_add] at ck0 ck1 ck2 ck3
      go_wp2_with (at_builtin; refine wpList_append_own _ rfl _ _ 27 rfl w.heap.size 31 i0 (.agg #[.string ⟨#[]⟩, .int .i64 0, .bool false, .string ⟨#[]⟩]) 4 48 Tryd.underlying27 hi hz0 hz1 hz2 rfl (by decide) _ _ _ rfl (O3.out.alloc _) ⟨w3.heap.size, 0, none⟩ 1 1 [.string L[k].1, .int .i64 L[k].2.1, .bool L[k].2.2.1, .string L[k].2.2.2] rfl rfl (cellsNew _ _ _) (by simp [Value.oneCell']) (by unfold maxLen; omega) (by omega) (by simp; omega) ?_; intro v5 w5 o5 g5 _; obtain ⟨a5, c5, rfl⟩ := own_shape o5)
      go_ret
      have B5 : Below w.heap.size w3 w5 := ((Below.refl w.heap.size w3).alloc (by omega) _).grown g5 (by simp; omega) (fun q hq => (O3.out.lt q hq).1)
      have KS : KeptOut (fun b => w.heap.size ≤ b) w3 w5 := ⟨B5.os, B5.tape, B5.output, by have := (kept_of_grown g5).size; simp at this; omega, fun q hq hn => B5.block q (by omega)⟩
      exact drawE_of (M := L ++ [L[k]]) (by simp) (by rw [flat_snoc]; exact o5) (fun x hx => (List.mem_append.1 hx).elim (HE.out x) (fun h => by rw [List.mem_singleton.1 h]; exact hkx)) (by simp; omega) (H3.out.kept2 KS (by omega) (fun hn x hx => by have := HAR.out hn x hx; omega)) (by omega) (K3.out.step KS (fun b hb => .inl hb))

set_option maxRecDepth 100000 in
set_option maxHeartbeats 1600000 in
theorem anyE_any (w : World) (r : Nat) (a : Option Addr) (c : Nat) (l : List UInt8) (p : Nat) (hp : p ≤ 10000000) (h : Rd w r a c l p) :
    Calls Tryd.prog 40 #[.pointer (some ⟨r, 0, none⟩)] w (DrawEPost w r a c l p 60 241) := by
  have hr : r < w.heap.size := h.lt
  have HAR := Lib.hid (rd_har h)
  have HR := Lib.hid h
  clear h
  go_enter Tryd.func40, Tryd.ntmps40
  go_wp2_with fail
  refine (l12Entries_any _ r a c l p (by omega) HR.out).mono ?_
  rintro e w1 ⟨b, cb, L, p1, rfl, e1, hcb, hb, hE, hn, h1, hp1, k1⟩
  have z1 := k1.size
  have E1 := Lib.hid e1
  have HB := Lib.hid hb
  have HE := Lib.hid hE
  have H1 := Lib.hid h1
  have K1 := Lib.hid k1
  clear e1 hb hE h1 k1
  go_wp2_with fail
  refine (pick_any 12 _ r a c l p1 (by omega) (by omega) (by omega) H1.out).mono ?_
  rintro e w2 ⟨q, rfl, q0, q1, h2, k2⟩
  have z2 := k2.size
  have H2 := Lib.hid h2
  have E2 := Lib.hid (E1.out.kept k2 (fun k hk e => by have := HB.out k hk; omega))
  have K2 := Lib.hid (K1.out.trans k2)
  clear h2 k2 q1 E1 K1 H1
  by_cases hq : q = 0
  · subst hq
    go_wp2_with fail
    refine (spoilE_any _ r a c l (p1 + 1) (by omega) H2.out b cb L E2.out HE.out (by omega)).mono ?_
    rintro e w3 ⟨b3, cb3, L3, p3, rfl, e3, hcb3, hb3, hE3, hn3, h3, hp3, k3⟩
    have E3 := Lib.hid e3
    have HB3 := Lib.hid hb3
    have HE3 := Lib.hid hE3
    have H3 := Lib.hid h3
    have K3 := Lib.hid k3
    clear e3 hb3 hE3 h3 k3
    go_wp2
    go_ret
    exact ⟨b3, cb3, L3, p3, rfl, E3.out, hcb3, fun k hk => by have := HB3.out k hk; omega, HE3.out, hn3, H3.out, by omega, K2.out.trans K3.out⟩
  · have hq' : (q == 0) = false := by simp [hq]
    clear hq
    go_wp2
    go_ret
    exact ⟨b, cb, L, p1 + 1, rfl, E2.out, hcb, HB.out, HE.out, by omega, H2.out, by omega, K2.out⟩
end Go.Proofs.YteejabpohnfoaaaDoor
