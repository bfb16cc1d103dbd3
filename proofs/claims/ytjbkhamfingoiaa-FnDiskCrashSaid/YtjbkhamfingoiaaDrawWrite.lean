import Derived.Test.YtjbkhamfingoiaaDrawAny
/- Drawn disks with a block and a text. -/
namespace Go.Proofs.Ytjbkhamfingoiaa
open Go Go.RowKit

theorem five_at (a b : Int) (n : Nat) (h : n < 5) (a0 : 0 ≤ a) (a1 : a < 5) (b0 : 0 ≤ b) (b1 : b < 5) : ∃ z : Int, ([Value.int .i64 a, Value.int .i64 b, Value.int .i64 (-1), Value.int .i64 140, Value.int .i64 139] : List Value)[n]? = some (.int .i64 z) ∧ -1 ≤ z ∧ z ≤ 140 := by
  rcases (show n = 0 ∨ n = 1 ∨ n = 2 ∨ n = 3 ∨ n = 4 by omega) with rfl | rfl | rfl | rfl | rfl
  · exact ⟨_, rfl, by omega, by omega⟩
  · exact ⟨_, rfl, by omega, by omega⟩
  · exact ⟨_, rfl, by omega, by omega⟩
  · exact ⟨_, rfl, by omega, by omega⟩
  · exact ⟨_, rfl, by omega, by omega⟩
def DrawRPost (w : World) (e : Ending) (w' : World) : Prop := ∃ u d n, e = .returned (.tuple #[u, .int .i64 n]) ∧ DiskR w' u d ∧ AnyX d ∧ -1 ≤ n ∧ n ≤ 140 ∧ (∀ k, diskBlk u k → w.heap.size ≤ k) ∧ Below w.heap.size w w'

set_option maxRecDepth 100000 in
set_option maxHeartbeats 800000 in
theorem drawRead_any (a : Option Addr) (c : Nat) (l : List UInt8) (w : World) (hl : l.length ≤ c) (hc : c ≤ maxLen) (h : BytesS w a l) :
    Calls Try.prog 48 #[.slice a l.length c] w (DrawRPost w) := by
  go_enter Try.func48, Try.ntmps48
  go_wp2_with fail
  refine (open_any a c l _ hl hc (bytes_below (by repeat (first | exact Below.refl _ _ | (refine Below.alloc ?_ (by first | (simp; done) | (simp; omega)) _) | (refine Below.setCell ?_ (by first | (simp; done) | (simp; omega)) _) | (refine Below.drew ?_))) h)).mono ?_
  rintro e w1 ⟨c1, l1, rfl, h1, b1⟩
  rw [World.size_alloc] at h1 b1
  have bz := (Box.alloc w #[.slice none 0 0, .slice none 0 0, .int .i64 0] 26).below (by rw [World.size_alloc]; exact b1)
  have B1 : Below w.heap.size w w1 := (below_alloc w _).trans (b1.mono (by omega))
  have z1 : w.heap.size + 1 < w1.heap.size := h1.lt
  have har := rd_har h1
  have H1 := Lib.hid h1
  clear h1 b1
  go_wp2_with fail
  go_region_law (first
    | (go_simp; go_at_call 57; refine (anyDisk_any (World.drew w1) (w.heap.size + 1) a c1 l1 0 (by omega) (H1.out.below ((Below.refl _ _).drew)) (fun hn x hx => har hn x hx)).mono ?_; rintro e w2 ⟨u, d, p', rfl, r2, lb, ax, h2, hp2, k2⟩; obtain ⟨a2, ca2, e2, ce2, rfl, _⟩ := id r2; have kk2 : KeptOut (fun b => b = w.heap.size + 1) w1 w2 := KeptOut.trans (by repeat (first | exact KeptOut.refl _ _ | refine KeptOut.alloc ?_ _ | refine KeptOut.drew ?_)) k2; have bz2 := bz.kept kk2 (by omega); have B2 := kk2.below B1 B1.size (fun k hk => by omega); have R2 := Lib.hid r2; have H2 := Lib.hid h2; have z2 := kk2.size; clear r2 h2 k2)
    | (go_simp; go_at_call 50; refine (pick_any 5 _ (w.heap.size + 1) a c1 l1 _ (by omega) (by omega) (by omega) (H4.out.below (by repeat (first | exact Below.refl _ _ | (refine Below.alloc ?_ (by first | omega | (simp; done) | (simp; omega)) _) | (refine Below.drew ?_))))).mono ?_; rintro e w5 ⟨q5, rfl, q50, q51, -, k5⟩; have q51' := q51 (by omega); obtain ⟨n5, hn5⟩ := Int.eq_ofNat_of_zero_le q50; subst hn5; have kk5 : KeptOut (fun b => b = w.heap.size + 1) w4 w5 := KeptOut.trans (by repeat (first | exact KeptOut.refl _ _ | refine KeptOut.alloc ?_ _ | refine KeptOut.drew ?_)) k5; have bz5 := bz4.kept kk5 (by omega); have R5 := Lib.hid (R4.out.kept kk5 (fun k hk e => by have := lb k hk; simp at this; omega)); have B5 := kk5.below B4 B4.size (fun k hk => by omega); have z5 := kk5.size; obtain ⟨z, hL1, hz1, hz2⟩ := five_at q3 q4 n5 (by omega) (by omega) (by omega) (by omega) (by omega); have hA : (w5.alloc (.cells #[.int .i64 q3, .int .i64 q4, .int .i64 (-1), .int .i64 140, .int .i64 139] 3)).cell? ⟨w5.heap.size, n5, none⟩ = some (.int .i64 z) := (by rw [World.cell?_alloc_at _ _ _ _ rfl]; simpa using hL1); (first | (have hB : w5.cell? ⟨w4.heap.size, n5, none⟩ = some (.int .i64 z) := (k5.cell (p := ⟨w4.heap.size, n5, none⟩) (by simp) (by simp; omega)).trans (show (w4.alloc (.cells #[.int .i64 q3, .int .i64 q4, .int .i64 (-1), .int .i64 140, .int .i64 139] 3)).cell? ⟨w4.heap.size, n5, none⟩ = _ from (by rw [World.cell?_alloc_at _ _ _ _ rfl]; simpa using hL1))) | skip); have g5 : (n5 : Int) < 5 := (by omega); clear k5 q51; obtain ⟨y0, v0⟩ := bz5 0 _ rfl; obtain ⟨y1, v1⟩ := bz5 1 _ rfl; obtain ⟨y2, v2⟩ := bz5 2 _ rfl; have lz5 := bz5.lt; have hL2 : (#[Value.int .i64 q3, Value.int .i64 q4, Value.int .i64 (-1), Value.int .i64 140, Value.int .i64 139] : Array Value)[n5]? = some (.int .i64 z) := (by simpa using hL1); have ne5 : w.heap.size ≠ w5.heap.size := (by omega); have ne4 : w.heap.size ≠ w4.heap.size := (by omega))
    | (go_simp; go_at_call 50; refine (pick_any 5 _ (w.heap.size + 1) a c1 l1 _ (by omega) (by omega) (by omega) (H3.out.below (by repeat (first | exact Below.refl _ _ | (refine Below.alloc ?_ (by first | omega | (simp; done) | (simp; omega)) _) | (refine Below.drew ?_))))).mono ?_; rintro e w4 ⟨q4, rfl, q40, q41, h4, k4⟩; have q41' := q41 (by omega); have kk4 : KeptOut (fun b => b = w.heap.size + 1) w3 w4 := KeptOut.trans (by repeat (first | exact KeptOut.refl _ _ | refine KeptOut.alloc ?_ _ | refine KeptOut.drew ?_)) k4; have H4 := Lib.hid h4; have bz4 := bz3.kept kk4 (by omega); have R4 := Lib.hid (R3.out.kept kk4 (fun k hk e => by have := lb k hk; simp at this; omega)); have B4 := kk4.below B3 B3.size (fun k hk => by omega); have z4 := kk4.size; clear h4 k4 q41)
    | (go_simp; go_at_call 50; refine (pick_any 5 _ (w.heap.size + 1) a c1 l1 p' (by omega) (by omega) (by omega) (H2.out.below (by repeat (first | exact Below.refl _ _ | (refine Below.alloc ?_ (by first | omega | (simp; done) | (simp; omega)) _) | (refine Below.drew ?_))))).mono ?_; rintro e w3 ⟨q3, rfl, q30, q31, h3, k3⟩; have q31' := q31 (by omega); have kk3 : KeptOut (fun b => b = w.heap.size + 1) w2 w3 := KeptOut.trans (by repeat (first | exact KeptOut.refl _ _ | refine KeptOut.alloc ?_ _ | refine KeptOut.drew ?_)) k3; have H3 := Lib.hid h3; have bz3 := bz2.kept kk3 (by omega); have R3 := Lib.hid (R2.out.kept kk3 (fun k hk e => by have := lb k hk; simp at this; omega)); have B3 := kk3.below B2 B2.size (fun k hk => by omega); have z3 := kk3.size; clear h3 k3 q31))
  all_goals
    go_wp2
    refine bodyPost_ret (v := .tuple #[.agg #[.slice a2 d.1.length ca2, .slice e2 d.2.1.length ce2, .int .i64 d.2.2], .int .i64 z]) (by simp [results, Try.results48, go_sem, y0, y1, y2, lz5]) rfl ⟨_, d, z, rfl, ?_, ax, hz1, hz2, fun k hk => by have := lb k hk; simp at this; omega, ?_⟩
    · exact R5.out.kept (S := fun k => k = w.heap.size) (by repeat (first | exact KeptOut.refl _ _ | refine KeptOut.alloc ?_ _ | refine KeptOut.drew ?_ | refine KeptOut.setCell ?_ (by exact rfl) _)) (fun k hk e => by have := lb k hk; simp at this; omega)
    · exact KeptOut.below (S := fun k => k = w.heap.size) B5 B5.size (by repeat (first | exact KeptOut.refl _ _ | refine KeptOut.alloc ?_ _ | refine KeptOut.drew ?_ | refine KeptOut.setCell ?_ (by exact rfl) _)) (fun k hk => by omega)
end Go.Proofs.Ytjbkhamfingoiaa
