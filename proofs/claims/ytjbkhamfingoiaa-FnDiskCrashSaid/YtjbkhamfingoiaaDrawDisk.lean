import Derived.Test.YtjbkhamfingoiaaSpecDisk
import Derived.Test.YtjbkhamfingoiaaDiskNew
import Derived.Test.YtjbkhamfingoiaaPick
import Derived.Handy
/- Drawn disks. -/
namespace Go.Proofs.Ytjbkhamfingoiaa
open Go Go.RowKit

theorem StrS.kept {S : Nat → Prop} {w w' : World} {a : Option Addr} {l : List ByteArray} (hk : KeptOut S w w') (hs : ∀ k, a.map Addr.block = some k → ¬ S k) (h : StrS w a l) : StrS w' a l := by
  refine ⟨h.1, h.2.1, ?_⟩
  rcases h.2.2 with h | ⟨b, o, rfl, hc⟩
  · exact .inl h
  · refine .inr ⟨b, o, rfl, fun j hj => ?_⟩
    have h0 := hc j hj
    rw [hk.cell (by have := World.block_lt_of_cell? w _ h0; simpa using this) (hs b rfl)]
    exact h0
theorem ElS.kept {S : Nat → Prop} {α : Type} {m : Nat} {enc : α → List Value} {w w' : World} {a : Option Addr} {l : List α} (hk : KeptOut S w w') (hs : ∀ k, a.map Addr.block = some k → ¬ S k) (h : ElS m enc w a l) : ElS m enc w' a l := by
  refine ⟨h.1, ?_⟩
  rcases h.2 with h | ⟨b, o, rfl, hc⟩
  · exact .inl h
  · refine .inr ⟨b, o, rfl, fun j hj i v hv => ?_⟩
    have h0 := hc j hj i v hv
    rw [hk.cell (by have := World.block_lt_of_cell? w _ h0; simpa using this) (hs b rfl)]
    exact h0
theorem blk_map {a : Option Addr} {n c k : Nat} (h : a.map Addr.block = some k) : (Value.slice a n c).ownBlock = some k := by
  cases a with
  | none => cases h
  | some p => exact h
theorem DiskR.kept {S : Nat → Prop} {w w' : World} {v : Value} {d : DiskD} (hk : KeptOut S w w') (hs : ∀ k, diskBlk v k → ¬ S k) (h : DiskR w v d) : DiskR w' v d := by
  obtain ⟨a, ca, b, cb, rfl, h1, h2, h3⟩ := h
  exact ⟨a, ca, b, cb, rfl, h1.kept hk (fun k e => hs k (.inl (blk_map e))), h2.kept hk (fun k e => hs k (.inr (blk_map e))), h3⟩

theorem KeptOut.step {S T : Nat → Prop} {w w1 w2 : World} (h : KeptOut S w w1) (k : KeptOut T w1 w2) (hT : ∀ b, T b → w.heap.size ≤ b ∨ S b) : KeptOut S w w2 :=
  ⟨k.os.trans h.os, k.tape.trans h.tape, k.output.trans h.output, Nat.le_trans h.size k.size, fun b hb hs => (k.block b (Nat.lt_of_lt_of_le hb h.size) (fun e => (hT b e).elim (fun g => by omega) hs)).trans (h.block b hb hs)⟩
theorem Box.put3 {w : World} {b : Nat} {x0 x1 x2 : Value} (h : Box w b [x0, x1, x2]) (y0 y1 y2 : Value) : Box (((w.setCell ⟨b, 0, none⟩ y0).setCell ⟨b, 1, none⟩ y1).setCell ⟨b, 2, none⟩ y2) b [y0, y1, y2] :=
  ((h.set (i := 0) y0 (by simp)).set (i := 1) y1 (by simp)).set (i := 2) y2 (by simp)
theorem KeptOut.put3 (w : World) (b : Nat) (y0 y1 y2 : Value) : KeptOut (fun k => k = b) w (((w.setCell ⟨b, 0, none⟩ y0).setCell ⟨b, 1, none⟩ y1).setCell ⟨b, 2, none⟩ y2) :=
  (((KeptOut.refl (fun k => k = b) w).setCell (p := ⟨b, 0, none⟩) rfl y0).setCell (p := ⟨b, 1, none⟩) rfl y1).setCell (p := ⟨b, 2, none⟩) rfl y2

theorem Rd.kept2 {S : Nat → Prop} {w w' : World} {r : Nat} {a : Option Addr} {c : Nat} {l : List UInt8} {p : Nat} (hk : KeptOut S w w') (hr : ¬ S r) (ha : l ≠ [] → ∀ x, a = some x → ¬ S x.block) (h : Rd w r a c l p) : Rd w' r a c l p := by
  obtain ⟨hb, hn, hl⟩ := h
  refine ⟨hb.kept hk hr, hn, ?_⟩
  rcases hl with hl | ⟨b, o, hab, hbr, hc⟩
  · exact .inl hl
  · by_cases h0 : l = []
    · exact .inl h0
    · refine .inr ⟨b, o, hab, hbr, fun j hj => ?_⟩
      have h1 := hc j hj
      rw [hk.cell (p := ⟨b, o + j, none⟩) (by have := World.block_lt_of_cell? w _ h1; simpa using this) (show ¬ S b from ha h0 ⟨b, o, none⟩ hab)]
      exact h1

/-- what is drawn ahead of its count -/
def Drawn (d : DiskD) (k : Nat) : Prop := d.1.length = 140 ∧ d.2.1.length ≤ k ∧ (∀ s ∈ d.1, s.size ≤ 200) ∧ (∀ x ∈ d.2.1, 0 ≤ x.1 ∧ x.1 ≤ 139 ∧ x.2.size ≤ 200) ∧ d.2.2 = -1

theorem Drawn.flush {d : DiskD} {k k' : Nat} (h : Drawn d k) : Drawn (dFlush d) k' := by
  obtain ⟨h1, h2, h3, h4, h5⟩ := h
  have e : dFlush d = (upTo allB d.2.1 d.1 d.2.1.length, [], -1) := by unfold dFlush; rw [h5]; rfl
  rw [e]
  refine ⟨by rw [upTo_len]; exact h1, Nat.zero_le _, upTo_all _ _ _ _ h3 (fun x hx => (h4 x hx).2.2) _, by simp, rfl⟩
theorem Drawn.write {d : DiskD} {k : Nat} {n : Int} {s : ByteArray} (h : Drawn d k) (h0 : 0 ≤ n) (h1 : n ≤ 139) (hs : s.size ≤ 200) : Drawn (dWrite d n s) (k + 1) := by
  obtain ⟨g1, g2, g3, g4, g5⟩ := h
  have e : dWrite d n s = (d.1, d.2.1 ++ [(n, s)], -1) := by unfold dWrite; rw [g5]; rfl
  rw [e]
  refine ⟨g1, by simpa using g2, g3, fun x hx => ?_, rfl⟩
  simp only [List.mem_append, List.mem_singleton] at hx
  rcases hx with hx | rfl
  · exact g4 x hx
  · exact ⟨h0, h1, hs⟩
theorem Drawn.new : Drawn newDisk 0 := ⟨by simp [newDisk], by simp [newDisk], fun s hs => by simp only [newDisk, List.mem_replicate] at hs; rw [hs.2]; simp [ByteArray.size], by simp [newDisk], rfl⟩

/-- what is drawn -/
def DrawnX (d : DiskD) : Prop := d.1.length = 140 ∧ d.2.1.length ≤ 8 ∧ (∀ s ∈ d.1, s.size ≤ 200) ∧ (∀ x ∈ d.2.1, 0 ≤ x.1 ∧ x.1 ≤ 139 ∧ x.2.size ≤ 200) ∧ -1 ≤ d.2.2 ∧ d.2.2 ≤ 3
def DrawPost (w : World) (r : Nat) (a : Option Addr) (c : Nat) (l : List UInt8) (p : Nat) (e : Ending) (w' : World) : Prop :=
  ∃ u x p', e = .returned u ∧ DiskO w' w.heap.size u x ∧ DrawnX x ∧ Rd w' r a c l p' ∧ p' ≤ p + 40 ∧ KeptOut (fun b => b = r) w w'

def lit4 : List ByteArray := [⟨#[]⟩, ⟨#[97]⟩, ⟨#[98, 98]⟩, ⟨#[97, 32, 98, 108, 111, 99, 107]⟩]
theorem lit4_size : ∀ s ∈ lit4, s.size ≤ 200 := by
  intro s hs
  simp only [lit4, List.mem_cons, List.not_mem_nil, or_false] at hs
  rcases hs with rfl | rfl | rfl | rfl <;> simp [ByteArray.size]

theorem lit_kept4 {wa w : World} {r : Nat} (hr : r < wa.heap.size) (k : KeptOut (fun b => b = r) (wa.alloc (.cells #[.string ⟨#[]⟩, .string ⟨#[97]⟩, .string ⟨#[98, 98]⟩, .string ⟨#[97, 32, 98, 108, 111, 99, 107]⟩] 9)) w) :
    ∀ j, (h : j < lit4.length) → w.cell? ⟨wa.heap.size, 0 + j, none⟩ = some (.string lit4[j]) :=
  fun j hj => (k.cell (p := ⟨wa.heap.size, 0 + j, none⟩) (by simp) (by simp; omega)).trans (lit_cells wa lit4 _ j hj)

theorem lit_kept4d {wa w : World} {r : Nat} (hr : r < wa.heap.size) (k : KeptOut (fun b => b = r) (wa.alloc (.cells #[.string ⟨#[]⟩, .string ⟨#[97]⟩, .string ⟨#[98, 98]⟩, .string ⟨#[97, 32, 98, 108, 111, 99, 107]⟩] 9)).drew w) :
    ∀ j, (h : j < lit4.length) → w.cell? ⟨wa.heap.size, 0 + j, none⟩ = some (.string lit4[j]) :=
  fun j hj => (k.cell (p := ⟨wa.heap.size, 0 + j, none⟩) (by simp) (by simp; omega)).trans (lit_cells wa lit4 _ j hj)

set_option maxRecDepth 100000 in
set_option maxHeartbeats 800000 in
theorem l12Disk_any (w : World) (r : Nat) (a : Option Addr) (c : Nat) (l : List UInt8) (p : Nat) (hp : p ≤ 1000000000) (h : Rd w r a c l p) (har : l ≠ [] → ∀ x, a = some x → x.block < w.heap.size) :
    Calls Try.prog 73 #[.pointer (some ⟨r, 0, none⟩)] w (DrawPost w r a c l p) := by
  have hr : r < w.heap.size := h.lt
  have nok := newDisk_ok
  have nn := Drawn.new
  obtain ⟨nd, hnd⟩ : ∃ nd, nd = newDisk := ⟨_, rfl⟩
  rw [← hnd] at nok nn
  have HND := Lib.hid hnd
  have HN := Lib.hid nn
  clear hnd nn
  go_enter Try.func73, Try.ntmps73
  go_wp2_with fail
  refine (specDiskNew_any _).mono ?_
  rintro e w1 ⟨u1, rfl, o1, b1⟩
  rw [← HND.out] at o1
  have r1 := o1.read nok
  have L1 := Lib.hid (fun k hk => (o1.lt (k := k) hk))
  obtain ⟨a1, ca1, e1, ce1, rfl, _⟩ := id r1
  have R1 := Lib.hid r1
  clear r1 o1
  simp only [World.size_alloc] at L1
  have z1 : w.heap.size + 1 ≤ w1.heap.size := by have := b1.size; simpa using this
  have B1 : Below w.heap.size w w1 := (below_alloc w _).trans (b1.mono (by simp))
  have HR1 := Lib.hid ((h.below B1).below (below_alloc w1 (.cells #[Value.slice a1 nd.1.length ca1, Value.slice e1 nd.2.1.length ce1, Value.int IntKind.i64 nd.2.2] 26)))
  have BZ := ((Box.alloc w #[.slice none 0 0, .slice none 0 0, .int .i64 0] 26).below b1).below (below_alloc w1 (.cells #[Value.slice a1 nd.1.length ca1, Value.slice e1 nd.2.1.length ce1, Value.int IntKind.i64 nd.2.2] 26))
  have BD := Box.alloc w1 #[.slice a1 nd.1.length ca1, .slice e1 nd.2.1.length ce1, .int .i64 nd.2.2] 26
  have B2 : Below w.heap.size w (w1.alloc (.cells #[Value.slice a1 nd.1.length ca1, Value.slice e1 nd.2.1.length ce1, Value.int IntKind.i64 nd.2.2] 26)) := B1.alloc B1.size _
  have RD := R1.out.below (below_alloc w1 (.cells #[Value.slice a1 nd.1.length ca1, Value.slice e1 nd.2.1.length ce1, Value.int IntKind.i64 nd.2.2] 26))
  go_wp2_with fail
  refine (pick_any 9 _ r a c l p (by omega) (by omega) (by omega) HR1.out).mono ?_
  rintro e w2 ⟨q, rfl, q0, q1, h2, k2⟩
  have q1' := q1 (by omega)
  replace BZ := BZ.kept k2 (by omega)
  replace BD := BD.kept k2 (by omega)
  replace RD := RD.kept k2 (fun k hk e => by have := L1.out k hk; omega)
  have K2 : KeptOut (fun b => b = r) w w2 := (KeptOut.of_below B2).trans k2
  have H2 := Lib.hid h2
  have z2 : w1.heap.size + 1 ≤ w2.heap.size := by have := k2.size; simpa using this
  clear h2 k2 q1 HR1
  obtain ⟨qn, hqn⟩ := Int.eq_ofNat_of_zero_le q0
  subst hqn
  have HNd := HN.out
  have LB := Lib.hid (fun k hk => (show k ≠ r ∧ k ≠ w1.heap.size by have := L1.out k hk; omega))
  go_wp2_with fail
  go_loopw [4] (fun v4 wr => ∃ (q p' : Nat) (aa : Option Addr) (caa : Nat) (bb : Option Addr) (cbb : Nat) (x : DiskD), q ≤ 8 ∧ v4 = .int .i64 q ∧ p' + 3 * q ≤ p + 30 ∧ Rd wr r a c l p' ∧ Box wr w1.heap.size [.slice aa x.1.length caa, .slice bb x.2.1.length cbb, .int .i64 x.2.2] ∧ DiskR wr (.agg #[.slice aa x.1.length caa, .slice bb x.2.1.length cbb, .int .i64 x.2.2]) x ∧ (∀ k, diskBlk (.agg #[.slice aa x.1.length caa, .slice bb x.2.1.length cbb, .int .i64 x.2.2]) k → k ≠ r ∧ k ≠ w1.heap.size) ∧ Drawn x (8 - q) ∧ Box wr w.heap.size [.slice none 0 0, .slice none 0 0, .int .i64 0] ∧ KeptOut (fun b => b = r) w wr ∧ w1.heap.size < wr.heap.size) (fun v4 _ => (intOf v4).toNat)
  case atStart =>
    exact ⟨qn, p + 1, a1, ca1, e1, ce1, nd, by omega, rfl, by omega, H2.out, BD, RD, LB.out, ⟨HNd.1, Nat.le_trans HNd.2.1 (Nat.zero_le _), HNd.2.2⟩, BZ, K2, by omega⟩
  case round =>
    clear H2 BD RD LB BZ K2 HNd HN R1 B1 B2
    obtain ⟨q, p', aa, caa, bb, cbb, x, hq, rfl, hpp, hrd, bd, rx, blk, dx, bz, k0, hz⟩ := hrel
    have HRD := Lib.hid hrd
    have RX := Lib.hid rx
    have BLK := Lib.hid blk
    have DX := Lib.hid dx
    clear hrd rx blk dx
    by_cases h0 : q = 0
    · subst h0
      go_wp2_with fail
      refine (pick_any 4 _ r a c l p' (by omega) (by omega) (by omega) HRD.out).mono ?_
      rintro e w3 ⟨q3, rfl, y0, y1, h3, k3⟩
      have y1' := y1 (by omega)
      have RX3 := RX.out.kept k3 (fun k hk e => (BLK.out k hk).1 e)
      have bd3 := bd.kept k3 (by omega)
      have bz3 := bz.kept k3 (by omega)
      have z3 := k3.size
      have K3 := k0.trans (k3.mono (fun _ _ h => h))
      have H3 := Lib.hid (h3.below (below_alloc w3 (.cells #[.int .i64 (-1), .int .i64 (-1), .int .i64 q3] 3)))
      have bl3 := Box.alloc w3 #[.int .i64 (-1), .int .i64 (-1), .int .i64 q3] 3
      clear h3 y1
      go_wp2_with fail
      refine (pick_any 3 _ r a c l (p' + 1) (by omega) (by omega) (by omega) H3.out).mono ?_
      rintro e w4 ⟨q4, rfl, g0, g1, h4, k4⟩
      have g1' := g1 (by omega)
      obtain ⟨n4, hn4⟩ := Int.eq_ofNat_of_zero_le g0
      subst hn4
      have RX4 := (RX3.below (below_alloc w3 (.cells #[.int .i64 (-1), .int .i64 (-1), .int .i64 q3] 3))).kept k4 (fun k hk e => (BLK.out k hk).1 e)
      have bd4 := (bd3.below (below_alloc w3 (.cells #[.int .i64 (-1), .int .i64 (-1), .int .i64 q3] 3))).kept k4 (by omega)
      have bz4 := (bz3.below (below_alloc w3 (.cells #[.int .i64 (-1), .int .i64 (-1), .int .i64 q3] 3))).kept k4 (by omega)
      have bl4 := bl3.kept k4 (by omega)
      have z4 : w3.heap.size + 1 ≤ w4.heap.size := by have := k4.size; simpa using this
      have K4 := (K3.alloc (.cells #[.int .i64 (-1), .int .i64 (-1), .int .i64 q3] 3)).trans (k4.mono (fun _ _ h => h))
      have H4 := Lib.hid h4
      clear h4 g1
      obtain ⟨z, hz0, hz1, hz2⟩ : ∃ z : Int, w4.cell? ⟨w3.heap.size, n4, none⟩ = some (.int .i64 z) ∧ -1 ≤ z ∧ z ≤ 3 := by
        have : n4 = 0 ∨ n4 = 1 ∨ n4 = 2 := by omega
        rcases this with rfl | rfl | rfl
        · exact ⟨-1, (bl4 0 _ rfl).1, by omega, by omega⟩
        · exact ⟨-1, (bl4 1 _ rfl).1, by omega, by omega⟩
        · exact ⟨q3, (bl4 2 _ rfl).1, by omega, by omega⟩
      have RX4h := Lib.hid RX4
      clear RX4 RX3
      obtain ⟨x0, f0⟩ := bd4 0 _ rfl
      obtain ⟨x1, f1⟩ := bd4 1 _ rfl
      obtain ⟨x2, f2⟩ := bd4 2 _ rfl
      have g2 : (n4 : Int) < 3 := by omega
      go_wp2_with fail
      have KD := (KeptOut.refl (fun k => k = w1.heap.size) w4).setCell (p := ⟨w1.heap.size, 2, none⟩) rfl (.int .i64 z)
      refine (copy_any _ (x.1, x.2.1, z) _ ?_ (by have := DX.out.1; show x.1.length ≤ 1048576; omega) (by have := DX.out.2.1; show x.2.1.length ≤ 1048577; omega)).mono ?_
      · have h := RX4h.out.kept KD (fun k hk e => (BLK.out k hk).2 e)
        obtain ⟨a', ca', b', cb', he, h1, h2, h3⟩ := h
        simp only [Value.agg.injEq, Array.mk.injEq, List.cons.injEq, Value.slice.injEq, and_true, true_and] at he
        obtain ⟨⟨rfl, rfl⟩, rfl, rfl⟩ := he
        exact ⟨_, _, _, _, rfl, h1, h2, h3⟩
      rintro e w6 ⟨u6, rfl, o6, b6⟩
      rw [World.size_setCell] at o6
      obtain ⟨a6, ca6, e6, ce6, rfl, _⟩ := id o6
      dsimp only at o6
      have bz6 := (bz4.kept KD (by omega)).below b6
      have K6 := (K4.step KD (fun b hb => .inl (by omega))).trans (.of_below b6)
      have H6 := Lib.hid ((H4.out.kept2 KD (by omega) (fun hn x hx => by have := har hn x hx; omega)).below b6)
      have HX := Lib.hid o6
      obtain ⟨dx1, dx2, dx3, dx4, dx5⟩ := DX.out
      have HD1 := Lib.hid (show DrawnX (x.1, x.2.1, z) from ⟨dx1, by show x.2.1.length ≤ 8; omega, dx3, dx4, hz1, hz2⟩)
      clear o6 x0 f0 x1 f1 x2 f2 hz0 dx1 dx2 dx3 dx4 dx5
      obtain ⟨t0, v0⟩ := bz6 0 _ rfl
      obtain ⟨t1, v1⟩ := bz6 1 _ rfl
      obtain ⟨t2, v2⟩ := bz6 2 _ rfl
      go_wp2
      have KP := KeptOut.put3 w6 w.heap.size (.slice a6 x.1.length ca6) (.slice e6 x.2.1.length ce6) (.int .i64 z)
      have D := put_disk (b := w.heap.size) HX.out (by omega) (.slice a6 x.1.length ca6) (.slice e6 x.2.1.length ce6) (.int .i64 z)
      exact bodyPost_ret (v := .agg #[.slice a6 x.1.length ca6, .slice e6 x.2.1.length ce6, .int .i64 z]) (by simp [results, Try.results73, go_sem, t0, t1, t2]) rfl ⟨_, _, _, rfl, D.mono (by omega), HD1.out, H6.out.kept2 KP (by omega) (fun hn x hx => by have := har hn x hx; omega), by omega, K6.step KP (fun b hb => .inl (by omega))⟩
    · have hpos : (0 : Int) < (q : Int) := by omega
      go_wp2_with fail
      refine (pick_any 4 _ r a c l p' (by omega) (by omega) (by omega) HRD.out).mono ?_
      rintro e w3 ⟨q2, rfl, y0, y1, h3, k3⟩
      have RX3 := Lib.hid (RX.out.kept k3 (fun k hk e => (BLK.out k hk).1 e))
      have bd3 := bd.kept k3 (by omega)
      have bz3 := bz.kept k3 (by omega)
      have H3 := Lib.hid h3
      have z3 := k3.size
      have K3 := k0.trans (k3.mono (fun _ _ h => h))
      clear h3
      obtain ⟨x0, f0⟩ := bd3 0 _ rfl
      obtain ⟨x1, f1⟩ := bd3 1 _ rfl
      obtain ⟨x2, f2⟩ := bd3 2 _ rfl
      by_cases hq2 : q2 = 0
      · subst hq2
        go_wp2_with fail
        refine (l2Flush_any _ x _ RX3.out (by rw [DX.out.2.2.2.2]; omega) (by rw [DX.out.2.2.2.2]; omega) DX.out.1 (fun y hy => ⟨(DX.out.2.2.2.1 y hy).1, (DX.out.2.2.2.1 y hy).2.1⟩)).mono ?_
        rintro e w4 ⟨u4, rfl, r4, blk4, b4⟩
        obtain ⟨x4, hx4⟩ : ∃ x4, x4 = dFlush x := ⟨_, rfl⟩
        rw [← hx4] at r4
        have DX4 := Lib.hid (show Drawn x4 (8 - (q - 1)) by rw [hx4]; exact DX.out.flush)
        clear hx4
        obtain ⟨aa4, caa4, bb4, cbb4, rfl, _⟩ := id r4
        have bd4 := bd3.below b4
        have bz4 := bz3.below b4
        have H4 := Lib.hid (H3.out.below b4)
        have z4 := b4.size
        have K4 := K3.trans (.of_below b4)
        have R4 := Lib.hid r4
        have BLK4 := Lib.hid (show ∀ k, diskBlk _ k → k ≠ r ∧ k ≠ w1.heap.size from fun k hk => (blk4 k hk).elim (BLK.out k) (fun h => by omega))
        clear r4 blk4 x0 f0 x1 f1 x2 f2
        obtain ⟨x0, f0⟩ := bd4 0 _ rfl
        obtain ⟨x1, f1⟩ := bd4 1 _ rfl
        obtain ⟨x2, f2⟩ := bd4 2 _ rfl
        go_wp2
        have KP := KeptOut.put3 w4 w1.heap.size (.slice aa4 x4.1.length caa4) (.slice bb4 x4.2.1.length cbb4) (.int .i64 x4.2.2)
        go_roundw
        case rel =>
          exact ⟨q - 1, p' + 1, aa4, caa4, bb4, cbb4, x4, by omega, by go_num, by omega, H4.out.kept2 KP (by omega) (fun hn x hx => by have := har hn x hx; omega), bd4.put3 _ _ _, R4.out.kept KP (fun k hk e => (BLK4.out k hk).2 e), BLK4.out, DX4.out, bz4.kept KP (by omega), K4.step KP (fun b hb => .inl (by omega)), by have := KP.size; omega⟩
        case measure => simp [intOf]; omega
      · have hq2' : (q2 == 0) = false := by simp [hq2]
        clear hq2
        have l3 := bd3.lt
        go_wp2
        go_region_law (first
          | (go_simp; go_at_call 50; refine (pick_any 5 _ r a c l (p' + 1) (by omega) (by omega) (by omega) (H3.out.below (by repeat (first | exact Below.refl _ _ | (refine Below.alloc ?_ (by first | omega | (simp; done) | (simp; omega)) _) | (refine Below.drew ?_))))).mono ?_; rintro e w4 ⟨q3, rfl, g0, g1, h4, k4⟩; have KK4 : KeptOut (fun b => b = r) w3 w4 := KeptOut.trans (by repeat (first | exact KeptOut.refl _ _ | exact KK4 | refine KeptOut.alloc ?_ _ | refine KeptOut.drew ?_)) k4; have z4 := KK4.size; have g1' := g1 (by omega); clear g1; have bd4 := bd3.kept KK4 (by omega); have l4 := bd4.lt; obtain ⟨p0, -⟩ := bd4 0 _ rfl; obtain ⟨p1, -⟩ := bd4 1 _ rfl; obtain ⟨p2, -⟩ := bd4 2 _ rfl)
          | (go_simp; go_at_call 60; refine (of_any _ r a c l _ (by omega) (h4.below (by repeat (first | exact Below.refl _ _ | (refine Below.alloc ?_ (by first | omega | (simp; done) | (simp; omega)) _) | (refine Below.drew ?_)))) _ 0 _ lit4 (by decide) (by decide) (by omega) (by first | exact lit_kept4 (by omega) k4 | exact lit_kept4d (by omega) k4 | exact fun j hj => lit_cells w4 lit4 _ j hj)).mono ?_; rintro e w5 ⟨s5, m5, rfl, h5, k5⟩; have KK5 : KeptOut (fun b => b = r) w3 w5 := KeptOut.trans (by repeat (first | exact KeptOut.refl _ _ | exact KK4 | refine KeptOut.alloc ?_ _ | refine KeptOut.drew ?_)) k5; have z5 := KK5.size; clear k5; have bd5 := bd3.kept KK5 (by omega); have l5 := bd5.lt; obtain ⟨s0, -⟩ := bd5 0 _ rfl; obtain ⟨s1, -⟩ := bd5 1 _ rfl; obtain ⟨s2, -⟩ := bd5 2 _ rfl)
          | (go_simp; go_at_call 55; refine (l2Write_any _ x q3 s5 _ (RX3.out.kept KK5 (fun k hk e => (BLK.out k hk).1 e)) (by have := lit4_size s5 m5; unfold maxLen; omega) (by rw [DX.out.2.2.2.2]; omega) (by rw [DX.out.2.2.2.2]; omega) (by have := DX.out.2.1; omega)).mono ?_; rintro e w6 ⟨u6, rfl, r6, blk6, b6⟩; obtain ⟨x6, hx6⟩ : ∃ x6, x6 = dWrite x q3 s5 := ⟨_, rfl⟩; rw [← hx6] at r6; have DX6 := Lib.hid (show Drawn x6 (8 - q + 1) by rw [hx6]; exact DX.out.write g0 (by omega) (lit4_size s5 m5)); clear hx6; obtain ⟨aa6, caa6, bb6, cbb6, rfl, _⟩ := id r6; have bd6 := (bd3.kept KK5 (by omega)).below b6; obtain ⟨t0, v0⟩ := bd6 0 _ rfl; obtain ⟨t1, v1⟩ := bd6 1 _ rfl; obtain ⟨t2, v2⟩ := bd6 2 _ rfl))
        all_goals
          have bz6 := (bz3.kept KK5 (by omega)).below b6
          have H6 := Lib.hid (h5.below b6)
          have z6 := b6.size
          have K6 := (K3.trans KK5).trans (.of_below b6)
          have R6 := Lib.hid r6
          have BLK6 := Lib.hid (show ∀ k, diskBlk _ k → k ≠ r ∧ k ≠ w1.heap.size from fun k hk => (blk6 k hk).elim (BLK.out k) (fun h => by omega))
          have KP := KeptOut.put3 w6 w1.heap.size (.slice aa6 x6.1.length caa6) (.slice bb6 x6.2.1.length cbb6) (.int .i64 x6.2.2)
          have DX7 : Drawn x6 (8 - (q - 1)) := by rw [show 8 - (q - 1) = 8 - q + 1 by omega]; exact DX6.out
          have HDX := Lib.hid DX7
          clear r6 blk6 DX7 h4 h5 x0 f0 x1 f1 x2 f2 p0 p1 p2 s0 s1 s2 t0 v0 t1 v1 t2 v2
          go_wp2
          go_roundw
          case rel =>
            exact ⟨q - 1, _, aa6, caa6, bb6, cbb6, x6, by omega, by go_num, by omega, H6.out.kept2 KP (by omega) (fun hn x hx => by have := har hn x hx; omega), bd6.put3 _ _ _, R6.out.kept KP (fun k hk e => (BLK6.out k hk).2 e), BLK6.out, HDX.out, bz6.kept KP (by omega), K6.step KP (fun b hb => .inl (by omega)), by have := KP.size; omega⟩
          case measure => simp [intOf]; omega
end Go.Proofs.Ytjbkhamfingoiaa
