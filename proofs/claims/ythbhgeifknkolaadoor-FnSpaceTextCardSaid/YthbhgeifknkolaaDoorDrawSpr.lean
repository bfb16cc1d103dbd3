import Derived.Test.YthbhgeifknkolaaDoorDrawSpc
import Derived.Test.YthbhgeifknkolaaDoorBend
import Derived.Test.YthbhgeifknkolaaDoorSpaceW
import Derived.Deep.Cut
/- DrawSpaceRead. -/
namespace Go.Proofs.YthbhgeifknkolaaDoor
open Go Go.RowKit

def litA : List ByteArray := [⟨#[46]⟩, ⟨#[120]⟩]
def litB : List ByteArray := [⟨#[32]⟩, ⟨#[48]⟩, ⟨#[49]⟩, ⟨#[45]⟩, ⟨#[120]⟩]
theorem litA_size : ∀ s ∈ litA, s.size ≤ 1 := by
  intro s hs
  simp only [litA, List.mem_cons, List.not_mem_nil, or_false] at hs
  rcases hs with rfl | rfl <;> decide
theorem litB_size : ∀ s ∈ litB, s.size ≤ 1 := by
  intro s hs
  simp only [litB, List.mem_cons, List.not_mem_nil, or_false] at hs
  rcases hs with rfl | rfl | rfl | rfl | rfl <;> decide
theorem swB_size (x : SpaceD) : (swB x).size ≤ 100 := by
  unfold swB
  split
  · rename_i h
    have h1 := spOk_over h
    obtain ⟨⟨a1, a2⟩, b1, b2⟩ := spOk_nums h
    have h2 := wordB_size x.2.1
    have h3 := decI_size (n := x.2.2.1) (by omega) (by omega)
    have h4 := decI_size (n := x.2.2.2.2) (by omega) (by omega)
    have h5 := flagB_size x.2.2.2.1
    unfold swL
    simp only [ByteArray.size_append]
    show (wordB x.2.1).size + 1 + (decI x.2.2.1).size + 1 + (flagB x.2.2.2.1).size + 1 + (decI x.2.2.2.2).size ≤ 100
    omega
  · decide
def SR (w0 : World) (r g : Nat) (x : SpaceD) (W : World) : Prop :=
  Below w0.heap.size w0 W ∧ Box W g [.string x.1, .string x.2.1, .int .i64 x.2.2.1, .bool x.2.2.2.1, .int .i64 x.2.2.2.2] ∧ r = w0.heap.size ∧ g ≠ r ∧ r < W.heap.size
theorem SR.below {w0 : World} {r g : Nat} {x : SpaceD} {W W' : World} (h : SR w0 r g x W) (hb : Below W.heap.size W W') : SR w0 r g x W' := by
  obtain ⟨h1, h2, h3, h4, h5⟩ := h
  exact ⟨h1.trans (hb.mono h1.size), h2.below hb, h3, h4, by have := hb.size; omega⟩
theorem SR.kept {w0 : World} {r g : Nat} {x : SpaceD} {W W' : World} (h : SR w0 r g x W) (hk : KeptOut (fun b => b = r) W W') : SR w0 r g x W' := by
  obtain ⟨h1, h2, h3, h4, h5⟩ := h
  exact ⟨hk.below h1 h1.size (fun b hb => by omega), h2.kept hk h4, h3, h4, by have := hk.size; omega⟩
theorem bendA_any (w : World) (r : Nat) (a : Option Addr) (c : Nat) (l : List UInt8) (p : Nat) (hp : p ≤ 1000000) (h : Rd w r a c l p) (x : ByteArray) (hx : x.size ≤ 3000) (bl : Nat) (hbl : bl ≠ r) (hb : Box w bl [.string ⟨#[46]⟩, .string ⟨#[120]⟩]) :
    Calls Tryd.prog 12 #[.pointer (some ⟨r, 0, none⟩), .string (⟨#[115, 46]⟩ ++ x), .slice (some ⟨bl, 0, none⟩) 2 2, .int .i64 12] w fun e w' => ∃ (s : ByteArray) (p' : Nat), e = .returned (.string s) ∧ s.size ≤ 10000 ∧ Rd w' r a c l p' ∧ p' ≤ p + 30 ∧ KeptOut (fun b => b = r) w w' := by
  have hz : (⟨#[115, 46]⟩ ++ x : ByteArray).size = 2 + x.size := by rw [ByteArray.size_append]; rfl
  have hc : ∀ j (h : j < litA.length), w.cell? ⟨bl, 0 + j, none⟩ = some (.string litA[j]) := fun j hj => by
    rw [Nat.zero_add]
    match j, hj with
    | 0, _ => exact (hb 0 _ rfl).1
    | 1, _ => exact (hb 1 _ rfl).1
  refine (bend_any litA 2 12 rfl (by decide) (by decide) litA_size (by decide) (by decide) w r a c l p hp h _ (by omega) bl hbl hc).mono ?_
  rintro e w' ⟨s, p', rfl, hs, h2⟩
  exact ⟨s, p', rfl, by omega, h2⟩
theorem bendB_any (w : World) (r : Nat) (a : Option Addr) (c : Nat) (l : List UInt8) (p : Nat) (hp : p ≤ 1000000) (h : Rd w r a c l p) (y : ByteArray) (hy : y.size ≤ 100) (bl : Nat) (hbl : bl ≠ r) (hb : Box w bl [.string ⟨#[32]⟩, .string ⟨#[48]⟩, .string ⟨#[49]⟩, .string ⟨#[45]⟩, .string ⟨#[120]⟩]) :
    Calls Tryd.prog 12 #[.pointer (some ⟨r, 0, none⟩), .string y, .slice (some ⟨bl, 0, none⟩) 5 5, .int .i64 4] w fun e w' => ∃ (s : ByteArray) (p' : Nat), e = .returned (.string s) ∧ s.size ≤ 10000 ∧ Rd w' r a c l p' ∧ p' ≤ p + 30 ∧ KeptOut (fun b => b = r) w w' := by
  have hc : ∀ j (h : j < litB.length), w.cell? ⟨bl, 0 + j, none⟩ = some (.string litB[j]) := fun j hj => by
    rw [Nat.zero_add]
    match j, hj with
    | 0, _ => exact (hb 0 _ rfl).1
    | 1, _ => exact (hb 1 _ rfl).1
    | 2, _ => exact (hb 2 _ rfl).1
    | 3, _ => exact (hb 3 _ rfl).1
    | 4, _ => exact (hb 4 _ rfl).1
  refine (bend_any litB 5 4 rfl (by decide) (by decide) litB_size (by decide) (by decide) w r a c l p hp h _ (by omega) bl hbl hc).mono ?_
  rintro e w' ⟨s, p', rfl, hs, h2⟩
  exact ⟨s, p', rfl, by omega, h2⟩
def SprDraw (w : World) (e : Ending) (w' : World) : Prop := ∃ k t : ByteArray, e = .returned (.tuple #[.string k, .string t]) ∧ k.size ≤ 10000 ∧ t.size ≤ 10000 ∧ Below w.heap.size w w'
set_option maxRecDepth 100000 in
set_option maxHeartbeats 4000000 in
theorem drawSpR_any (a : Option Addr) (c : Nat) (l : List UInt8) (w : World) (hl : l.length ≤ c) (hc : c ≤ maxLen) (h : BytesS w a l) :
    Calls Tryd.prog 4 #[.slice a l.length c] w (SprDraw w) := by
  go_enter Tryd.func4, Tryd.ntmps4
  go_wp2_with fail
  refine (open_any a c l _ hl hc h).mono ?_
  rintro e w2 ⟨c1, l1, rfl, h1, b1⟩
  have z2 : w.heap.size < w2.heap.size := h1.lt
  have H1 := Lib.hid h1
  have B2 := Lib.hid b1
  clear h1 b1
  go_wp2_with fail
  refine (l13Space_any _ w.heap.size a c1 l1 0 (by omega) H1.out).mono ?_
  rintro e w3 ⟨⟨x0, x1, x2, x3, x4⟩, p3, rfl, hx0, hx1, h3, hp3, k3⟩
  have z3 := k3.size
  simp only at hx0 hx1
  have B3 := Lib.hid (k3.below B2.out B2.out.size (fun b hb => by omega))
  have H3 := Lib.hid h3
  have HAR := Lib.hid (rd_har H1.out)
  clear h3 k3 H1
  unfold agD
  dsimp only
  obtain ⟨y, hy⟩ : ∃ y, swB (x0, x1, x2, x3, x4) = y := ⟨_, rfl⟩
  have hyz : y.size ≤ 100 := by rw [← hy]; exact swB_size _
  have HY := Lib.hid hy
  clear hy
  have f1 : ¬ 9223372036854775807 < 2 + x0.size := by omega
  have KX := Lib.hid (show ∀ W, SR w w.heap.size w3.heap.size (x0, x1, x2, x3, x4) W → SR w w.heap.size w3.heap.size (x0, x1, x2, x3, x4) W ∧ W.cell? ⟨w3.heap.size, 0, none⟩ = some (.string x0) ∧ W.cell? ⟨w3.heap.size, 1, none⟩ = some (.string x1) ∧ W.cell? ⟨w3.heap.size, 2, none⟩ = some (.int .i64 x2) ∧ W.cell? ⟨w3.heap.size, 3, none⟩ = some (.bool x3) ∧ W.cell? ⟨w3.heap.size, 4, none⟩ = some (.int .i64 x4) from fun W h => by
    have g := h.2.1
    exact ⟨h, (g 0 _ rfl).1, (g 1 _ rfl).1, (g 2 _ rfl).1, (g 3 _ rfl).1, (g 4 _ rfl).1⟩)
  have HS4 := Lib.hid (show SR w w.heap.size w3.heap.size (x0, x1, x2, x3, x4) (w3.alloc (.cells #[.string x0, .string x1, .int .i64 x2, .bool x3, .int .i64 x4] 26)) from ⟨B3.out.alloc B3.out.size _, Box.alloc w3 _ _, rfl, by omega, by rw [World.size_alloc]; omega⟩)
  have RD4 := Lib.hid (H3.out.below (below_alloc w3 (.cells #[.string x0, .string x1, .int .i64 x2, .bool x3, .int .i64 x4] 26)))
  go_upto_region 3 with fail
  obtain ⟨w4, hw4⟩ : ∃ W, w3.alloc (.cells #[.string x0, .string x1, .int .i64 x2, .bool x3, .int .i64 x4] 26) = W := ⟨_, rfl⟩
  rw [hw4] at HS4 RD4 ⊢
  clear hw4
  refine wp_region_held_drew (S := fun W => SR w w.heap.size w3.heap.size (x0, x1, x2, x3, x4) W ∧ W.cell? ⟨w3.heap.size, 0, none⟩ = some (.string x0) ∧ W.cell? ⟨w3.heap.size, 1, none⟩ = some (.string x1) ∧ W.cell? ⟨w3.heap.size, 2, none⟩ = some (.int .i64 x2) ∧ W.cell? ⟨w3.heap.size, 3, none⟩ = some (.bool x3) ∧ W.cell? ⟨w3.heap.size, 4, none⟩ = some (.int .i64 x4)) (by kernel_rfl) (KX.out _ (HS4.out.below (Below.refl _ _).drew)) (fun hHeld => ?_)
  have RD := RD4.out.below (Below.refl _ _).drew
  obtain ⟨w5, hw5⟩ : ∃ W, w4.drew = W := ⟨_, rfl⟩
  rw [hw5] at hHeld RD ⊢
  clear hw5
  refine wpAnyH_take (i := 0) (oi := { dst := some 10, op := Op.move (Operand.tmp 4), type := 32, pos := "l13_draw.go:227", after := _, guard := none }) (v := ?_) rfl (by kernel_rfl) (by kernel_rfl) (by kernel_rfl) (fun _ _ _ h => h) (Or.inl ⟨by rfl, ?_⟩) (by assumption) ?_
  rotate_left
  · (intro w hSw; (try dsimp only at hSw); go_simp; (try with_reducible rfl))
  simp only [Act.put, List.setIfInBounds_toArray, List.set_cons_zero, List.set_cons_succ]
  refine wpAnyH_take (i := 1) (oi := { dst := some 11, op := Op.fieldAddr 26 (Operand.tmp 5) 0, type := 0, pos := "l13_draw.go:227", after := _, guard := none }) (v := ?_) rfl (by kernel_rfl) (by kernel_rfl) (by kernel_rfl) (fun _ _ _ h => h) (Or.inl ⟨by rfl, ?_⟩) (by assumption) ?_
  rotate_left
  · (intro w hSw; (try dsimp only at hSw); go_simp; (try with_reducible rfl))
  simp only [Act.put, List.setIfInBounds_toArray, List.set_cons_zero, List.set_cons_succ]
  refine wpAnyH_take (i := 2) (oi := { dst := some 12, op := Op.load 9 (Operand.tmp 11), type := 9, pos := "l13_draw.go:227", after := _, guard := none }) (v := ?_) rfl (by kernel_rfl) (by kernel_rfl) (by kernel_rfl) (fun _ _ _ h => h) (Or.inl ⟨by rfl, ?_⟩) (by assumption) ?_
  rotate_left
  · (intro w hSw; (try dsimp only at hSw); go_simp; (try with_reducible rfl))
  simp only [Act.put, List.setIfInBounds_toArray, List.set_cons_zero, List.set_cons_succ]
  refine wpAnyH_take (i := 3) (oi := { dst := some 13, op := Op.binOp BinOp.add 9 (Operand.const (Value.string { data := #[115, 46] })) (Operand.tmp 12) 9, type := 9, pos := "l13_draw.go:227", after := _, guard := none }) (v := ?_) rfl (by kernel_rfl) (by kernel_rfl) (by kernel_rfl) (fun _ _ _ h => h) (Or.inl ⟨by rfl, ?_⟩) (by assumption) ?_
  rotate_left
  · (intro w hSw; (try dsimp only at hSw); go_simp; (try with_reducible rfl))
  simp only [Act.put, List.setIfInBounds_toArray, List.set_cons_zero, List.set_cons_succ]
  refine wpAnyH_take (i := 6) (oi := { dst := some 16, op := Op.move (Operand.tmp 4), type := 32, pos := "l13_draw.go:227", after := _, guard := none }) (v := ?_) rfl (by kernel_rfl) (by kernel_rfl) (by kernel_rfl) (fun _ _ _ h => h) (Or.inl ⟨by rfl, ?_⟩) (by assumption) ?_
  rotate_left
  · (intro w hSw; (try dsimp only at hSw); go_simp; (try with_reducible rfl))
  simp only [Act.put, List.setIfInBounds_toArray, List.set_cons_zero, List.set_cons_succ]
  refine wpAnyH_take (i := 7) (oi := { dst := some 17, op := Op.load 26 (Operand.tmp 5), type := 26, pos := "l13_draw.go:227", after := _, guard := none }) (v := ?_) rfl (by kernel_rfl) (by kernel_rfl) (by kernel_rfl) (fun _ _ _ h => h) (Or.inl ⟨by rfl, ?_⟩) (by assumption) ?_
  rotate_left
  · (intro w hSw; (try dsimp only at hSw); go_simp; (try with_reducible rfl))
  simp only [Act.put, List.setIfInBounds_toArray, List.set_cons_zero, List.set_cons_succ]
  refine wpAnyH_ready (rs := [4, 9]) (by kernel_rfl) (by simp) ?_
  refine AllReadyH.cons (o := { dst := some 14, op := Op.buildSlice 36 2 #[(0, Operand.const (Value.string { data := #[46] })), (1, Operand.const (Value.string { data := #[120] }))], type := 36, pos := "l13_draw.go:227", after := _, guard := none }) rfl (fun K hK => ?_) ?_
  · skip
    go_simp
    obtain ⟨wa, hwa⟩ : ∃ W, World.alloc w5 (.cells #[.string ⟨#[46]⟩, .string ⟨#[120]⟩] 9) = W := ⟨_, rfl⟩
    have QA : Below w5.heap.size w5 wa := by rw [← hwa]; exact below_alloc _ _
    have BA : Box wa w5.heap.size [.string ⟨#[46]⟩, .string ⟨#[120]⟩] := by rw [← hwa]; exact Box.alloc w5 _ _
    have hra := hHeld.1.2.2.2.2
    rw [hwa]
    (try replace BB := BB.below QA)
    replace RD := RD.below QA
    have HA1 := hHeld.1.below QA
    clear hwa QA
    (try dsimp only)
    refine hK.out _ _ ?_ (fun hHeld => ?_)
    · exact KX.out _ HA1
    clear hK K
    (try simp only [Act.put, List.setIfInBounds_toArray, List.set_cons_zero, List.set_cons_succ])
    refine wpAnyH_ready (rs := [5, 9]) (by kernel_rfl) (by simp) ?_
    refine AllReadyH.cons (o := { dst := some 15, op := Op.call { callee := Callee.value (Operand.func 12), args := #[Operand.tmp 10, Operand.tmp 13, Operand.tmp 14, Operand.const (Value.int IntKind.i64 12)], argTypes := #[32, 9, 36, 3] }, type := 9, pos := "l13_draw.go:227", after := _, guard := none }) rfl (fun K hK => ?_) ?_
    · skip
      go_simp
      refine (bendA_any wa w.heap.size a c1 l1 p3 (by clear hHeld; omega) RD x0 (by clear hHeld; omega) w5.heap.size (by clear hHeld; omega) BA).mono ?_
      rintro e w6 ⟨k1, q1, rfl, hk1, hr1, hq1, kk1⟩
      have H6 := hHeld.1.kept kk1
      (try replace BB := BB.kept kk1 (by clear hHeld H6; omega))
      replace RD := hr1
      clear kk1 hr1
      (try dsimp only)
      refine hK.out _ _ ?_ (fun hHeld => ?_)
      · exact KX.out _ H6
      clear hK K
      (try simp only [Act.put, List.setIfInBounds_toArray, List.set_cons_zero, List.set_cons_succ])
      refine wpAnyH_ready (rs := [8, 9]) (by kernel_rfl) (by simp) ?_
      refine AllReadyH.cons (o := { dst := some 18, op := Op.call { callee := Callee.value (Operand.func 9), args := #[Operand.tmp 17], argTypes := #[26] }, type := 9, pos := "l13_draw.go:227", after := _, guard := none }) rfl (fun K hK => ?_) ?_
      · skip
        go_simp
        refine (specSpW_any x0 x1 x2 x3 x4 w6 (by unfold maxLen; omega) (by unfold maxLen; omega)).mono ?_
        rintro e w7 ⟨rfl, b7⟩
        rw [HY.out]
        have H7 := hHeld.1.below b7
        replace RD := RD.below b7
        (try replace BA := BA.below b7)
        (try replace BB := BB.below b7)
        clear b7
        (try dsimp only)
        refine hK.out _ _ ?_ (fun hHeld => ?_)
        · exact KX.out _ H7
        clear hK K
        (try simp only [Act.put, List.setIfInBounds_toArray, List.set_cons_zero, List.set_cons_succ])
        refine wpAnyH_ready (rs := [9]) (by kernel_rfl) (by simp) ?_
        refine AllReadyH.cons (o := { dst := some 19, op := Op.buildSlice 36 5 #[(0, Operand.const (Value.string { data := #[32] })), (1, Operand.const (Value.string { data := #[48] })), (2, Operand.const (Value.string { data := #[49] })), (3, Operand.const (Value.string { data := #[45] })), (4, Operand.const (Value.string { data := #[120] }))], type := 36, pos := "l13_draw.go:227", after := _, guard := none }) rfl (fun K hK => ?_) AllReadyH.nil
        go_simp
        obtain ⟨wl, hwa⟩ : ∃ W, World.alloc w7 (.cells #[.string ⟨#[32]⟩, .string ⟨#[48]⟩, .string ⟨#[49]⟩, .string ⟨#[45]⟩, .string ⟨#[120]⟩] 9) = W := ⟨_, rfl⟩
        have QA : Below w7.heap.size w7 wl := by rw [← hwa]; exact below_alloc _ _
        have BB : Box wl w7.heap.size [.string ⟨#[32]⟩, .string ⟨#[48]⟩, .string ⟨#[49]⟩, .string ⟨#[45]⟩, .string ⟨#[120]⟩] := by rw [← hwa]; exact Box.alloc w7 _ _
        have hrb := hHeld.1.2.2.2.2
        rw [hwa]
        (try replace BA := BA.below QA)
        replace RD := RD.below QA
        have HA1 := hHeld.1.below QA
        clear hwa QA
        (try dsimp only)
        refine hK.out _ _ ?_ (fun hHeld => ?_)
        · exact KX.out _ HA1
        clear hK K
        (try simp only [Act.put, List.setIfInBounds_toArray, List.set_cons_zero, List.set_cons_succ])
        refine wpAnyH_ready (rs := [10]) (by kernel_rfl) (by simp) ?_
        refine AllReadyH.cons (o := { dst := some 20, op := Op.call { callee := Callee.value (Operand.func 12), args := #[Operand.tmp 16, Operand.tmp 18, Operand.tmp 19, Operand.const (Value.int IntKind.i64 4)], argTypes := #[32, 9, 36, 3] }, type := 9, pos := "l13_draw.go:227", after := _, guard := none }) rfl (fun K hK => ?_) AllReadyH.nil
        go_simp
        refine (bendB_any wl w.heap.size a c1 l1 q1 (by clear hHeld; omega) RD y (by clear hHeld; omega) w7.heap.size (by clear hHeld; omega) BB).mono ?_
        rintro e w8 ⟨k2, q2, rfl, hk2, hr1, hq2, kk1⟩
        have H6 := hHeld.1.kept kk1
        (try replace BA := BA.kept kk1 (by clear hHeld H6; omega))
        replace RD := hr1
        clear kk1 hr1
        (try dsimp only)
        refine hK.out _ _ ?_ (fun hHeld => ?_)
        · exact KX.out _ H6
        clear hK K
        (try simp only [Act.put, List.setIfInBounds_toArray, List.set_cons_zero, List.set_cons_succ])
        refine wpAnyH_take (i := 11) (oi := { dst := some 2, op := Op.assign (Operand.tmp 15), type := 9, pos := "l13_draw.go:227", after := _, guard := none }) (v := ?_) rfl (by kernel_rfl) (by kernel_rfl) (by kernel_rfl) (fun _ _ _ h => h) (Or.inl ⟨by rfl, ?_⟩) (by assumption) ?_
        rotate_left
        · (intro w hSw; (try dsimp only at hSw); go_simp; (try with_reducible rfl))
        simp only [Act.put, List.setIfInBounds_toArray, List.set_cons_zero, List.set_cons_succ]
        refine wpAnyH_take (i := 12) (oi := { dst := some 3, op := Op.assign (Operand.tmp 20), type := 9, pos := "l13_draw.go:227", after := _, guard := none }) (v := ?_) rfl (by kernel_rfl) (by kernel_rfl) (by kernel_rfl) (fun _ _ _ h => h) (Or.inl ⟨by rfl, ?_⟩) (by assumption) ?_
        rotate_left
        · (intro w hSw; (try dsimp only at hSw); go_simp; (try with_reducible rfl))
        simp only [Act.put, List.setIfInBounds_toArray, List.set_cons_zero, List.set_cons_succ]
        refine wpAnyH_done (by kernel_rfl) ?_ _
        have HD := Lib.hid hHeld.1.1
        clear hHeld
        go_wp2
        go_ret2
        exact ⟨k1, k2, rfl, hk1, hk2, HD.out⟩
      refine AllReadyH.cons (o := { dst := some 19, op := Op.buildSlice 36 5 #[(0, Operand.const (Value.string { data := #[32] })), (1, Operand.const (Value.string { data := #[48] })), (2, Operand.const (Value.string { data := #[49] })), (3, Operand.const (Value.string { data := #[45] })), (4, Operand.const (Value.string { data := #[120] }))], type := 36, pos := "l13_draw.go:227", after := _, guard := none }) rfl (fun K hK => ?_) AllReadyH.nil
      go_simp
      obtain ⟨wl, hwa⟩ : ∃ W, World.alloc w6 (.cells #[.string ⟨#[32]⟩, .string ⟨#[48]⟩, .string ⟨#[49]⟩, .string ⟨#[45]⟩, .string ⟨#[120]⟩] 9) = W := ⟨_, rfl⟩
      have QA : Below w6.heap.size w6 wl := by rw [← hwa]; exact below_alloc _ _
      have BB : Box wl w6.heap.size [.string ⟨#[32]⟩, .string ⟨#[48]⟩, .string ⟨#[49]⟩, .string ⟨#[45]⟩, .string ⟨#[120]⟩] := by rw [← hwa]; exact Box.alloc w6 _ _
      have hrb := hHeld.1.2.2.2.2
      rw [hwa]
      (try replace BA := BA.below QA)
      replace RD := RD.below QA
      have HA1 := hHeld.1.below QA
      clear hwa QA
      (try dsimp only)
      refine hK.out _ _ ?_ (fun hHeld => ?_)
      · exact KX.out _ HA1
      clear hK K
      (try simp only [Act.put, List.setIfInBounds_toArray, List.set_cons_zero, List.set_cons_succ])
      refine wpAnyH_ready (rs := [8]) (by kernel_rfl) (by simp) ?_
      refine AllReadyH.cons (o := { dst := some 18, op := Op.call { callee := Callee.value (Operand.func 9), args := #[Operand.tmp 17], argTypes := #[26] }, type := 9, pos := "l13_draw.go:227", after := _, guard := none }) rfl (fun K hK => ?_) AllReadyH.nil
      go_simp
      refine (specSpW_any x0 x1 x2 x3 x4 wl (by unfold maxLen; omega) (by unfold maxLen; omega)).mono ?_
      rintro e w7 ⟨rfl, b7⟩
      rw [HY.out]
      have H7 := hHeld.1.below b7
      replace RD := RD.below b7
      (try replace BA := BA.below b7)
      (try replace BB := BB.below b7)
      clear b7
      (try dsimp only)
      refine hK.out _ _ ?_ (fun hHeld => ?_)
      · exact KX.out _ H7
      clear hK K
      (try simp only [Act.put, List.setIfInBounds_toArray, List.set_cons_zero, List.set_cons_succ])
      refine wpAnyH_ready (rs := [10]) (by kernel_rfl) (by simp) ?_
      refine AllReadyH.cons (o := { dst := some 20, op := Op.call { callee := Callee.value (Operand.func 12), args := #[Operand.tmp 16, Operand.tmp 18, Operand.tmp 19, Operand.const (Value.int IntKind.i64 4)], argTypes := #[32, 9, 36, 3] }, type := 9, pos := "l13_draw.go:227", after := _, guard := none }) rfl (fun K hK => ?_) AllReadyH.nil
      go_simp
      refine (bendB_any w7 w.heap.size a c1 l1 q1 (by clear hHeld; omega) RD y (by clear hHeld; omega) w6.heap.size (by clear hHeld; omega) BB).mono ?_
      rintro e w8 ⟨k2, q2, rfl, hk2, hr1, hq2, kk1⟩
      have H6 := hHeld.1.kept kk1
      (try replace BA := BA.kept kk1 (by clear hHeld H6; omega))
      replace RD := hr1
      clear kk1 hr1
      (try dsimp only)
      refine hK.out _ _ ?_ (fun hHeld => ?_)
      · exact KX.out _ H6
      clear hK K
      (try simp only [Act.put, List.setIfInBounds_toArray, List.set_cons_zero, List.set_cons_succ])
      refine wpAnyH_take (i := 11) (oi := { dst := some 2, op := Op.assign (Operand.tmp 15), type := 9, pos := "l13_draw.go:227", after := _, guard := none }) (v := ?_) rfl (by kernel_rfl) (by kernel_rfl) (by kernel_rfl) (fun _ _ _ h => h) (Or.inl ⟨by rfl, ?_⟩) (by assumption) ?_
      rotate_left
      · (intro w hSw; (try dsimp only at hSw); go_simp; (try with_reducible rfl))
      simp only [Act.put, List.setIfInBounds_toArray, List.set_cons_zero, List.set_cons_succ]
      refine wpAnyH_take (i := 12) (oi := { dst := some 3, op := Op.assign (Operand.tmp 20), type := 9, pos := "l13_draw.go:227", after := _, guard := none }) (v := ?_) rfl (by kernel_rfl) (by kernel_rfl) (by kernel_rfl) (fun _ _ _ h => h) (Or.inl ⟨by rfl, ?_⟩) (by assumption) ?_
      rotate_left
      · (intro w hSw; (try dsimp only at hSw); go_simp; (try with_reducible rfl))
      simp only [Act.put, List.setIfInBounds_toArray, List.set_cons_zero, List.set_cons_succ]
      refine wpAnyH_done (by kernel_rfl) ?_ _
      have HD := Lib.hid hHeld.1.1
      clear hHeld
      go_wp2
      go_ret2
      exact ⟨k1, k2, rfl, hk1, hk2, HD.out⟩
    refine AllReadyH.cons (o := { dst := some 19, op := Op.buildSlice 36 5 #[(0, Operand.const (Value.string { data := #[32] })), (1, Operand.const (Value.string { data := #[48] })), (2, Operand.const (Value.string { data := #[49] })), (3, Operand.const (Value.string { data := #[45] })), (4, Operand.const (Value.string { data := #[120] }))], type := 36, pos := "l13_draw.go:227", after := _, guard := none }) rfl (fun K hK => ?_) AllReadyH.nil
    go_simp
    obtain ⟨wl, hwa⟩ : ∃ W, World.alloc wa (.cells #[.string ⟨#[32]⟩, .string ⟨#[48]⟩, .string ⟨#[49]⟩, .string ⟨#[45]⟩, .string ⟨#[120]⟩] 9) = W := ⟨_, rfl⟩
    have QA : Below wa.heap.size wa wl := by rw [← hwa]; exact below_alloc _ _
    have BB : Box wl wa.heap.size [.string ⟨#[32]⟩, .string ⟨#[48]⟩, .string ⟨#[49]⟩, .string ⟨#[45]⟩, .string ⟨#[120]⟩] := by rw [← hwa]; exact Box.alloc wa _ _
    have hrb := hHeld.1.2.2.2.2
    rw [hwa]
    (try replace BA := BA.below QA)
    replace RD := RD.below QA
    have HA1 := hHeld.1.below QA
    clear hwa QA
    (try dsimp only)
    refine hK.out _ _ ?_ (fun hHeld => ?_)
    · exact KX.out _ HA1
    clear hK K
    (try simp only [Act.put, List.setIfInBounds_toArray, List.set_cons_zero, List.set_cons_succ])
    refine wpAnyH_ready (rs := [5]) (by kernel_rfl) (by simp) ?_
    refine AllReadyH.cons (o := { dst := some 15, op := Op.call { callee := Callee.value (Operand.func 12), args := #[Operand.tmp 10, Operand.tmp 13, Operand.tmp 14, Operand.const (Value.int IntKind.i64 12)], argTypes := #[32, 9, 36, 3] }, type := 9, pos := "l13_draw.go:227", after := _, guard := none }) rfl (fun K hK => ?_) AllReadyH.nil
    go_simp
    refine (bendA_any wl w.heap.size a c1 l1 p3 (by clear hHeld; omega) RD x0 (by clear hHeld; omega) w5.heap.size (by clear hHeld; omega) BA).mono ?_
    rintro e w6 ⟨k1, q1, rfl, hk1, hr1, hq1, kk1⟩
    have H6 := hHeld.1.kept kk1
    (try replace BB := BB.kept kk1 (by clear hHeld H6; omega))
    replace RD := hr1
    clear kk1 hr1
    (try dsimp only)
    refine hK.out _ _ ?_ (fun hHeld => ?_)
    · exact KX.out _ H6
    clear hK K
    (try simp only [Act.put, List.setIfInBounds_toArray, List.set_cons_zero, List.set_cons_succ])
    refine wpAnyH_ready (rs := [8]) (by kernel_rfl) (by simp) ?_
    refine AllReadyH.cons (o := { dst := some 18, op := Op.call { callee := Callee.value (Operand.func 9), args := #[Operand.tmp 17], argTypes := #[26] }, type := 9, pos := "l13_draw.go:227", after := _, guard := none }) rfl (fun K hK => ?_) AllReadyH.nil
    go_simp
    refine (specSpW_any x0 x1 x2 x3 x4 w6 (by unfold maxLen; omega) (by unfold maxLen; omega)).mono ?_
    rintro e w7 ⟨rfl, b7⟩
    rw [HY.out]
    have H7 := hHeld.1.below b7
    replace RD := RD.below b7
    (try replace BA := BA.below b7)
    (try replace BB := BB.below b7)
    clear b7
    (try dsimp only)
    refine hK.out _ _ ?_ (fun hHeld => ?_)
    · exact KX.out _ H7
    clear hK K
    (try simp only [Act.put, List.setIfInBounds_toArray, List.set_cons_zero, List.set_cons_succ])
    refine wpAnyH_ready (rs := [10]) (by kernel_rfl) (by simp) ?_
    refine AllReadyH.cons (o := { dst := some 20, op := Op.call { callee := Callee.value (Operand.func 12), args := #[Operand.tmp 16, Operand.tmp 18, Operand.tmp 19, Operand.const (Value.int IntKind.i64 4)], argTypes := #[32, 9, 36, 3] }, type := 9, pos := "l13_draw.go:227", after := _, guard := none }) rfl (fun K hK => ?_) AllReadyH.nil
    go_simp
    refine (bendB_any w7 w.heap.size a c1 l1 q1 (by clear hHeld; omega) RD y (by clear hHeld; omega) wa.heap.size (by clear hHeld; omega) BB).mono ?_
    rintro e w8 ⟨k2, q2, rfl, hk2, hr1, hq2, kk1⟩
    have H6 := hHeld.1.kept kk1
    (try replace BA := BA.kept kk1 (by clear hHeld H6; omega))
    replace RD := hr1
    clear kk1 hr1
    (try dsimp only)
    refine hK.out _ _ ?_ (fun hHeld => ?_)
    · exact KX.out _ H6
    clear hK K
    (try simp only [Act.put, List.setIfInBounds_toArray, List.set_cons_zero, List.set_cons_succ])
    refine wpAnyH_take (i := 11) (oi := { dst := some 2, op := Op.assign (Operand.tmp 15), type := 9, pos := "l13_draw.go:227", after := _, guard := none }) (v := ?_) rfl (by kernel_rfl) (by kernel_rfl) (by kernel_rfl) (fun _ _ _ h => h) (Or.inl ⟨by rfl, ?_⟩) (by assumption) ?_
    rotate_left
    · (intro w hSw; (try dsimp only at hSw); go_simp; (try with_reducible rfl))
    simp only [Act.put, List.setIfInBounds_toArray, List.set_cons_zero, List.set_cons_succ]
    refine wpAnyH_take (i := 12) (oi := { dst := some 3, op := Op.assign (Operand.tmp 20), type := 9, pos := "l13_draw.go:227", after := _, guard := none }) (v := ?_) rfl (by kernel_rfl) (by kernel_rfl) (by kernel_rfl) (fun _ _ _ h => h) (Or.inl ⟨by rfl, ?_⟩) (by assumption) ?_
    rotate_left
    · (intro w hSw; (try dsimp only at hSw); go_simp; (try with_reducible rfl))
    simp only [Act.put, List.setIfInBounds_toArray, List.set_cons_zero, List.set_cons_succ]
    refine wpAnyH_done (by kernel_rfl) ?_ _
    have HD := Lib.hid hHeld.1.1
    clear hHeld
    go_wp2
    go_ret2
    exact ⟨k1, k2, rfl, hk1, hk2, HD.out⟩
  refine AllReadyH.cons (o := { dst := some 19, op := Op.buildSlice 36 5 #[(0, Operand.const (Value.string { data := #[32] })), (1, Operand.const (Value.string { data := #[48] })), (2, Operand.const (Value.string { data := #[49] })), (3, Operand.const (Value.string { data := #[45] })), (4, Operand.const (Value.string { data := #[120] }))], type := 36, pos := "l13_draw.go:227", after := _, guard := none }) rfl (fun K hK => ?_) AllReadyH.nil
  go_simp
  obtain ⟨wl, hwa⟩ : ∃ W, World.alloc w5 (.cells #[.string ⟨#[32]⟩, .string ⟨#[48]⟩, .string ⟨#[49]⟩, .string ⟨#[45]⟩, .string ⟨#[120]⟩] 9) = W := ⟨_, rfl⟩
  have QA : Below w5.heap.size w5 wl := by rw [← hwa]; exact below_alloc _ _
  have BB : Box wl w5.heap.size [.string ⟨#[32]⟩, .string ⟨#[48]⟩, .string ⟨#[49]⟩, .string ⟨#[45]⟩, .string ⟨#[120]⟩] := by rw [← hwa]; exact Box.alloc w5 _ _
  have hrb := hHeld.1.2.2.2.2
  rw [hwa]
  (try replace BA := BA.below QA)
  replace RD := RD.below QA
  have HA1 := hHeld.1.below QA
  clear hwa QA
  (try dsimp only)
  refine hK.out _ _ ?_ (fun hHeld => ?_)
  · exact KX.out _ HA1
  clear hK K
  (try simp only [Act.put, List.setIfInBounds_toArray, List.set_cons_zero, List.set_cons_succ])
  refine wpAnyH_ready (rs := [4]) (by kernel_rfl) (by simp) ?_
  refine AllReadyH.cons (o := { dst := some 14, op := Op.buildSlice 36 2 #[(0, Operand.const (Value.string { data := #[46] })), (1, Operand.const (Value.string { data := #[120] }))], type := 36, pos := "l13_draw.go:227", after := _, guard := none }) rfl (fun K hK => ?_) AllReadyH.nil
  go_simp
  obtain ⟨wa, hwa⟩ : ∃ W, World.alloc wl (.cells #[.string ⟨#[46]⟩, .string ⟨#[120]⟩] 9) = W := ⟨_, rfl⟩
  have QA : Below wl.heap.size wl wa := by rw [← hwa]; exact below_alloc _ _
  have BA : Box wa wl.heap.size [.string ⟨#[46]⟩, .string ⟨#[120]⟩] := by rw [← hwa]; exact Box.alloc wl _ _
  have hra := hHeld.1.2.2.2.2
  rw [hwa]
  (try replace BB := BB.below QA)
  replace RD := RD.below QA
  have HA1 := hHeld.1.below QA
  clear hwa QA
  (try dsimp only)
  refine hK.out _ _ ?_ (fun hHeld => ?_)
  · exact KX.out _ HA1
  clear hK K
  (try simp only [Act.put, List.setIfInBounds_toArray, List.set_cons_zero, List.set_cons_succ])
  refine wpAnyH_ready (rs := [5]) (by kernel_rfl) (by simp) ?_
  refine AllReadyH.cons (o := { dst := some 15, op := Op.call { callee := Callee.value (Operand.func 12), args := #[Operand.tmp 10, Operand.tmp 13, Operand.tmp 14, Operand.const (Value.int IntKind.i64 12)], argTypes := #[32, 9, 36, 3] }, type := 9, pos := "l13_draw.go:227", after := _, guard := none }) rfl (fun K hK => ?_) AllReadyH.nil
  go_simp
  refine (bendA_any wa w.heap.size a c1 l1 p3 (by clear hHeld; omega) RD x0 (by clear hHeld; omega) wl.heap.size (by clear hHeld; omega) BA).mono ?_
  rintro e w6 ⟨k1, q1, rfl, hk1, hr1, hq1, kk1⟩
  have H6 := hHeld.1.kept kk1
  (try replace BB := BB.kept kk1 (by clear hHeld H6; omega))
  replace RD := hr1
  clear kk1 hr1
  (try dsimp only)
  refine hK.out _ _ ?_ (fun hHeld => ?_)
  · exact KX.out _ H6
  clear hK K
  (try simp only [Act.put, List.setIfInBounds_toArray, List.set_cons_zero, List.set_cons_succ])
  refine wpAnyH_ready (rs := [8]) (by kernel_rfl) (by simp) ?_
  refine AllReadyH.cons (o := { dst := some 18, op := Op.call { callee := Callee.value (Operand.func 9), args := #[Operand.tmp 17], argTypes := #[26] }, type := 9, pos := "l13_draw.go:227", after := _, guard := none }) rfl (fun K hK => ?_) AllReadyH.nil
  go_simp
  refine (specSpW_any x0 x1 x2 x3 x4 w6 (by unfold maxLen; omega) (by unfold maxLen; omega)).mono ?_
  rintro e w7 ⟨rfl, b7⟩
  rw [HY.out]
  have H7 := hHeld.1.below b7
  replace RD := RD.below b7
  (try replace BA := BA.below b7)
  (try replace BB := BB.below b7)
  clear b7
  (try dsimp only)
  refine hK.out _ _ ?_ (fun hHeld => ?_)
  · exact KX.out _ H7
  clear hK K
  (try simp only [Act.put, List.setIfInBounds_toArray, List.set_cons_zero, List.set_cons_succ])
  refine wpAnyH_ready (rs := [10]) (by kernel_rfl) (by simp) ?_
  refine AllReadyH.cons (o := { dst := some 20, op := Op.call { callee := Callee.value (Operand.func 12), args := #[Operand.tmp 16, Operand.tmp 18, Operand.tmp 19, Operand.const (Value.int IntKind.i64 4)], argTypes := #[32, 9, 36, 3] }, type := 9, pos := "l13_draw.go:227", after := _, guard := none }) rfl (fun K hK => ?_) AllReadyH.nil
  go_simp
  refine (bendB_any w7 w.heap.size a c1 l1 q1 (by clear hHeld; omega) RD y (by clear hHeld; omega) w5.heap.size (by clear hHeld; omega) BB).mono ?_
  rintro e w8 ⟨k2, q2, rfl, hk2, hr1, hq2, kk1⟩
  have H6 := hHeld.1.kept kk1
  (try replace BA := BA.kept kk1 (by clear hHeld H6; omega))
  replace RD := hr1
  clear kk1 hr1
  (try dsimp only)
  refine hK.out _ _ ?_ (fun hHeld => ?_)
  · exact KX.out _ H6
  clear hK K
  (try simp only [Act.put, List.setIfInBounds_toArray, List.set_cons_zero, List.set_cons_succ])
  refine wpAnyH_take (i := 11) (oi := { dst := some 2, op := Op.assign (Operand.tmp 15), type := 9, pos := "l13_draw.go:227", after := _, guard := none }) (v := ?_) rfl (by kernel_rfl) (by kernel_rfl) (by kernel_rfl) (fun _ _ _ h => h) (Or.inl ⟨by rfl, ?_⟩) (by assumption) ?_
  rotate_left
  · (intro w hSw; (try dsimp only at hSw); go_simp; (try with_reducible rfl))
  simp only [Act.put, List.setIfInBounds_toArray, List.set_cons_zero, List.set_cons_succ]
  refine wpAnyH_take (i := 12) (oi := { dst := some 3, op := Op.assign (Operand.tmp 20), type := 9, pos := "l13_draw.go:227", after := _, guard := none }) (v := ?_) rfl (by kernel_rfl) (by kernel_rfl) (by kernel_rfl) (fun _ _ _ h => h) (Or.inl ⟨by rfl, ?_⟩) (by assumption) ?_
  rotate_left
  · (intro w hSw; (try dsimp only at hSw); go_simp; (try with_reducible rfl))
  simp only [Act.put, List.setIfInBounds_toArray, List.set_cons_zero, List.set_cons_succ]
  refine wpAnyH_done (by kernel_rfl) ?_ _
  have HD := Lib.hid hHeld.1.1
  clear hHeld
  go_wp2
  go_ret2
  exact ⟨k1, k2, rfl, hk1, hk2, HD.out⟩
end Go.Proofs.YthbhgeifknkolaaDoor
