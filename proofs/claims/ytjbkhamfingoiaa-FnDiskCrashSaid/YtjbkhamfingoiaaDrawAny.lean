import Derived.Test.YtjbkhamfingoiaaDrawSpoil
/- Drawn disks of whatever kind. -/
namespace Go.Proofs.Ytjbkhamfingoiaa
open Go Go.RowKit

theorem AnyX.of {d : DiskD} (h : DrawnX d) : AnyX d := ⟨Nat.le_of_eq h.1, by have := h.2.1; omega, fun s hs => by have := h.2.2.1 s hs; omega, fun x hx => by have := (h.2.2.2.1 x hx).2.2; omega, h.2.2.2.2.2⟩
theorem DrawnX.okD {d : DiskD} (h : DrawnX d) : OkDisk d := ⟨by have := h.1; unfold maxLen; omega, fun s hs => by have := h.2.2.1 s hs; unfold maxLen; omega, by have := h.2.1; unfold maxLen; omega, fun x hx => by have := (h.2.2.2.1 x hx).2.2; unfold OkWait maxLen; omega⟩

def AnyPost2 (w : World) (r : Nat) (a : Option Addr) (c : Nat) (l : List UInt8) (p : Nat) (e : Ending) (w' : World) : Prop :=
  ∃ u x p', e = .returned u ∧ DiskR w' u x ∧ (∀ k, diskBlk u k → w.heap.size ≤ k) ∧ AnyX x ∧ Rd w' r a c l p' ∧ p' ≤ p + 110 ∧ KeptOut (fun b => b = r) w w'

set_option maxRecDepth 100000 in
set_option maxHeartbeats 800000 in
theorem anyDisk_any (w : World) (r : Nat) (a : Option Addr) (c : Nat) (l : List UInt8) (p : Nat) (hp : p ≤ 900000000) (h : Rd w r a c l p) (har : l ≠ [] → ∀ x, a = some x → x.block < w.heap.size) :
    Calls Try.prog 57 #[.pointer (some ⟨r, 0, none⟩)] w (AnyPost2 w r a c l p) := by
  have hr : r < w.heap.size := h.lt
  have HR := Lib.hid h
  clear h
  go_enter Try.func57, Try.ntmps57
  go_wp2_with fail
  refine (l12Disk_any _ r a c l p (by omega) (HR.out.below (by repeat (first | exact Below.refl _ _ | (refine Below.alloc ?_ (by first | (simp; done) | (simp; omega)) _) | (refine Below.setCell ?_ (by first | (simp; done) | (simp; omega)) _) | (refine Below.drew ?_)))) (fun hn x hx => by have := har hn x hx; simp; omega)).mono ?_
  rintro e w1 ⟨u, d, p', rfl, o1, hd, h1, hpp, k1⟩
  simp only [World.size_alloc] at o1
  obtain ⟨a1, ca1, e1, ce1, rfl, _⟩ := id o1
  have LB := Lib.hid (fun k hk => (o1.lt (k := k) hk))
  have R1 := o1.read hd.okD
  have bz := (Box.alloc w #[.slice none 0 0, .slice none 0 0, .int .i64 0] 26).kept k1 (by omega)
  have K1 := ((KeptOut.refl (fun b => b = r) w).alloc (.cells #[.slice none 0 0, .slice none 0 0, .int .i64 0] 26)).trans k1
  have z1 : w.heap.size + 1 ≤ w1.heap.size := by have := k1.size; simpa using this
  have AL := below_alloc w1 (.cells #[.slice a1 d.1.length ca1, .slice e1 d.2.1.length ce1, .int .i64 d.2.2] 26)
  have bd := Box.alloc w1 #[.slice a1 d.1.length ca1, .slice e1 d.2.1.length ce1, .int .i64 d.2.2] 26
  have H1 := Lib.hid (h1.below AL)
  have R2 := R1.below AL
  have K2 := K1.alloc (.cells #[.slice a1 d.1.length ca1, .slice e1 d.2.1.length ce1, .int .i64 d.2.2] 26)
  have bz2 := bz.below AL
  clear o1 R1 bz K1 k1 h1 AL
  go_wp2_with fail
  refine (pick_any 12 _ r a c l p' (by omega) (by omega) (by omega) H1.out).mono ?_
  rintro e w3 ⟨q, rfl, q0, q1, h3, k3⟩
  have R3 := Lib.hid (R2.kept k3 (fun k hk e => by have := LB.out k hk; omega))
  have bd3 := bd.kept k3 (by omega)
  have bz3 := bz2.kept k3 (by omega)
  have K3 := K2.trans k3
  have H3 := Lib.hid h3
  have z3 : w1.heap.size + 1 ≤ w3.heap.size := by have := k3.size; simpa using this
  have HD := Lib.hid hd
  clear h3 k3 R2 bd bz2 K2 H1 q1 hd
  obtain ⟨x0, f0⟩ := bd3 0 _ rfl
  obtain ⟨x1, f1⟩ := bd3 1 _ rfl
  obtain ⟨x2, f2⟩ := bd3 2 _ rfl
  obtain ⟨y0, v0⟩ := bz3 0 _ rfl
  obtain ⟨y1, v1⟩ := bz3 1 _ rfl
  obtain ⟨y2, v2⟩ := bz3 2 _ rfl
  by_cases hq : q = 0
  · subst hq
    go_wp2_with fail
    refine (spoil_any _ r a c l _ (by omega) H3.out (fun hn x hx => by have := har hn x hx; omega) _ d R3.out HD.out).mono ?_
    rintro e w4 ⟨u4, x4, p4, rfl, r4, lb4, ax4, h4, hp4, k4⟩
    obtain ⟨a4, ca4, e4, ce4, rfl, _⟩ := id r4
    have bz4 := bz3.kept k4 (by omega)
    have K4 := K3.trans k4
    have z4 := k4.size
    have R4 := Lib.hid r4
    have H4 := Lib.hid h4
    clear r4 h4 y0 y1 y2 v0 v1 v2
    obtain ⟨y0, v0⟩ := bz4 0 _ rfl
    obtain ⟨y1, v1⟩ := bz4 1 _ rfl
    obtain ⟨y2, v2⟩ := bz4 2 _ rfl
    go_wp2
    have KP := KeptOut.put3 w4 w.heap.size (.slice a4 x4.1.length ca4) (.slice e4 x4.2.1.length ce4) (.int .i64 x4.2.2)
    exact bodyPost_ret (v := .agg #[.slice a4 x4.1.length ca4, .slice e4 x4.2.1.length ce4, .int .i64 x4.2.2]) (by simp [results, Try.results57, go_sem, y0, y1, y2]) rfl ⟨_, x4, _, rfl, R4.out.kept KP (fun k hk e => by have := lb4 k hk; omega), fun k hk => by have := lb4 k hk; omega, ax4, H4.out.kept2 KP (by omega) (fun hn x hx => by have := har hn x hx; omega), by omega, K4.step KP (fun b hb => .inl (by omega))⟩
  · have hq' : (q == 0) = false := by simp [hq]
    clear hq
    go_wp2
    have KP := KeptOut.put3 w3 w.heap.size (.slice a1 d.1.length ca1) (.slice e1 d.2.1.length ce1) (.int .i64 d.2.2)
    exact bodyPost_ret (v := .agg #[.slice a1 d.1.length ca1, .slice e1 d.2.1.length ce1, .int .i64 d.2.2]) (by simp [results, Try.results57, go_sem, y0, y1, y2]) rfl ⟨_, d, _, rfl, R3.out.kept KP (fun k hk e => by have := LB.out k hk; omega), fun k hk => by have := LB.out k hk; omega, AnyX.of HD.out, H3.out.kept2 KP (by omega) (fun hn x hx => by have := har hn x hx; omega), by omega, K3.step KP (fun b hb => .inl (by omega))⟩

theorem bytes_har {w : World} {a : Option Addr} {l : List UInt8} (h : BytesS w a l) : l ≠ [] → ∀ x, a = some x → x.block < w.heap.size := by
  intro hn x hx
  rcases h with h | ⟨b, o, rfl, hc⟩
  · exact absurd h hn
  · cases hx
    exact bytes_lt hn hc

theorem bytes_below {w w' : World} {a : Option Addr} {l : List UInt8} (hb : Below w.heap.size w w') (h : BytesS w a l) : BytesS w' a l := by
  rcases h with h | ⟨b, o, rfl, hc⟩
  · exact .inl h
  · refine .inr ⟨b, o, rfl, fun j hj => ?_⟩
    have h0 := hc j hj
    rw [hb.cell (by have := World.block_lt_of_cell? w _ h0; simpa using this)]
    exact h0
theorem rd_har {w : World} {r : Nat} {a : Option Addr} {c : Nat} {l : List UInt8} {p : Nat} (h : Rd w r a c l p) : l ≠ [] → ∀ x, a = some x → x.block < w.heap.size := by
  intro hn x hx
  rcases h.2.2 with h | ⟨b, o, rfl, _, hc⟩
  · exact absurd h hn
  · cases hx
    exact bytes_lt hn hc

def DrawFPost (w : World) (e : Ending) (w' : World) : Prop := ∃ u d, e = .returned u ∧ DiskR w' u d ∧ AnyX d ∧ Below w.heap.size w w'

set_option maxRecDepth 100000 in
set_option maxHeartbeats 800000 in
theorem drawFlush_any (a : Option Addr) (c : Nat) (l : List UInt8) (w : World) (hl : l.length ≤ c) (hc : c ≤ maxLen) (h : BytesS w a l) :
    Calls Try.prog 24 #[.slice a l.length c] w (DrawFPost w) := by
  go_enter Try.func24, Try.ntmps24
  go_wp2_with fail
  refine (open_any a c l _ hl hc (bytes_below (below_alloc w _) h)).mono ?_
  rintro e w1 ⟨c1, l1, rfl, h1, b1⟩
  rw [World.size_alloc] at h1 b1
  have bz := (Box.alloc w #[.slice none 0 0, .slice none 0 0, .int .i64 0] 26).below (by rw [World.size_alloc]; exact b1)
  have B1 : Below w.heap.size w w1 := (below_alloc w _).trans (b1.mono (by omega))
  have z1 : w.heap.size + 1 < w1.heap.size := h1.lt
  have har := rd_har h1
  have H1 := Lib.hid h1
  clear h1 b1
  go_wp2_with fail
  refine (anyDisk_any _ (w.heap.size + 1) a c1 l1 0 (by omega) H1.out har).mono ?_
  rintro e w2 ⟨u, d, p', rfl, r2, lb, ax, -, -, k2⟩
  obtain ⟨a2, ca2, e2, ce2, rfl, _⟩ := id r2
  have bz2 := bz.kept k2 (by omega)
  have B2 := k2.below B1 B1.size (fun k hk => by omega)
  have R2 := Lib.hid r2
  clear r2
  obtain ⟨y0, v0⟩ := bz2 0 _ rfl
  obtain ⟨y1, v1⟩ := bz2 1 _ rfl
  obtain ⟨y2, v2⟩ := bz2 2 _ rfl
  go_wp2
  have KP := KeptOut.put3 w2 w.heap.size (.slice a2 d.1.length ca2) (.slice e2 d.2.1.length ce2) (.int .i64 d.2.2)
  exact bodyPost_ret (v := .agg #[.slice a2 d.1.length ca2, .slice e2 d.2.1.length ce2, .int .i64 d.2.2]) (by simp [results, Try.results24, go_sem, y0, y1, y2]) rfl ⟨_, d, rfl, R2.out.kept KP (fun k hk e => by have := lb k hk; omega), ax, KP.below B2 B2.size (fun k hk => by omega)⟩
end Go.Proofs.Ytjbkhamfingoiaa
