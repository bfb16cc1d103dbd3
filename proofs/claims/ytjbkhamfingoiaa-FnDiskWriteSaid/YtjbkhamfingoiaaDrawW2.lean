import Derived.Test.YtjbkhamfingoiaaDrawWrite
/- A drawn disk with a block and a text. -/
namespace Go.Proofs.Ytjbkhamfingoiaa
open Go Go.RowKit

theorem many_int (s : ByteArray) (z : Int) (w : World) (hs : s.size ≤ 1048576) (h0 : 0 ≤ z) (h1 : z ≤ 1048576) :
    Calls Try.prog 49 #[.string s, .int .i64 z] w fun e w' => (∃ t : ByteArray, t.size = s.size * z.toNat ∧ e = .returned (.string t)) ∧ w = w' := by
  obtain ⟨n, rfl⟩ := Int.eq_ofNat_of_zero_le h0
  exact many_any s n w hs (by omega)
theorem four_at (a b : ByteArray) (n : Nat) (h : n < 4) (ha : a.size ≤ 201) (hb : b.size ≤ 201) : ∃ z : ByteArray, ([Value.string ⟨#[]⟩, Value.string ⟨#[110, 101, 119]⟩, Value.string a, Value.string b] : List Value)[n]? = some (.string z) ∧ z.size ≤ 201 := by
  rcases (show n = 0 ∨ n = 1 ∨ n = 2 ∨ n = 3 by omega) with rfl | rfl | rfl | rfl
  · exact ⟨_, rfl, by decide⟩
  · exact ⟨_, rfl, by decide⟩
  · exact ⟨_, rfl, ha⟩
  · exact ⟨_, rfl, hb⟩
def DrawWPost (w : World) (e : Ending) (w' : World) : Prop := ∃ u d n s, e = .returned (.tuple #[u, .int .i64 n, .string s]) ∧ DiskR w' u d ∧ AnyX d ∧ -1 ≤ n ∧ n ≤ 140 ∧ s.size ≤ 201 ∧ Below w.heap.size w w'

set_option maxRecDepth 100000 in
set_option maxHeartbeats 8000000 in
theorem drawWrite_any (a : Option Addr) (c : Nat) (l : List UInt8) (w : World) (hl : l.length ≤ c) (hc : c ≤ maxLen) (h : BytesS w a l) :
    Calls Try.prog 16 #[.slice a l.length c] w (DrawWPost w) := by
  go_enter Try.func16, Try.ntmps16
  go_wp2_with fail
  refine (open_any a c l _ hl hc (bytes_below (by repeat (first | exact Below.refl _ _ | (refine Below.alloc ?_ (by first | (simp; done) | (simp; omega)) _) | (refine Below.setCell ?_ (by first | (simp; done) | (simp; omega)) _) | (refine Below.drew ?_))) h)).mono ?_
  rintro e w1 ⟨c1, l1, rfl, h1, b1⟩
  rw [World.size_alloc] at h1 b1
  have bz := (Box.alloc w #[.slice none 0 0, .slice none 0 0, .int .i64 0] 26).below (by rw [World.size_alloc]; exact b1)
  have B1 : Below w.heap.size w w1 := (below_alloc w _).trans (b1.mono (by omega))
  have z1 : w.heap.size + 1 < w1.heap.size := h1.lt
  have H1 := Lib.hid h1
  clear h1 b1
  go_wp2_with fail
  refine (drawRead_any a c l _ hl hc (bytes_below B1 h)).mono ?_
  rintro e w2 ⟨u, d, n, rfl, r2, ax, n0, n1, lb, b2⟩
  obtain ⟨a2, ca2, e2, ce2, rfl, _⟩ := id r2
  have bd := Box.alloc w2 #[.slice a2 d.1.length ca2, .slice e2 d.2.1.length ce2, .int .i64 d.2.2] 26
  have AL := below_alloc w2 (.cells #[.slice a2 d.1.length ca2, .slice e2 d.2.1.length ce2, .int .i64 d.2.2] 26)
  have C2 := b2.trans (AL.mono b2.size)
  have R2 := Lib.hid (r2.below AL)
  have bz2 := bz.below C2
  have H2 := Lib.hid (H1.out.below C2)
  have B2 := B1.trans (C2.mono B1.size)
  have z2 := C2.size
  have z12 := b2.size
  clear r2 b2 bz AL
  go_wp2_with fail
  obtain ⟨wd, hwd⟩ : ∃ wd, wd = w2.alloc (.cells #[.slice a2 d.1.length ca2, .slice e2 d.2.1.length ce2, .int .i64 d.2.2] 26) := ⟨_, rfl⟩
  rw [← hwd] at bd C2 R2 bz2 H2 B2 z2 ⊢
  clear hwd
  obtain ⟨x0, -⟩ := bd 0 _ rfl
  obtain ⟨x1, -⟩ := bd 1 _ rfl
  obtain ⟨x2, -⟩ := bd 2 _ rfl
  have ld := bd.lt
  go_region_law (first
    | (go_simp; go_at_call 49; have ht0 := ht1; refine (many_int ⟨#[98]⟩ _ _ (by decide) (by decide) (by decide)).mono ?_; rintro e w4 ⟨⟨t2, ht2, rfl⟩, rfl⟩; clear ht0)
    | (go_simp; go_at_call 49; refine (many_int ⟨#[98]⟩ _ _ (by decide) (by decide) (by decide)).mono ?_; rintro e w3 ⟨⟨t1, ht1, rfl⟩, rfl⟩)
    | (go_simp; go_at_call 50; refine (pick_any 4 _ (w.heap.size + 1) a c1 l1 _ (by omega) (by omega) (by omega) (H2.out.below (by repeat (first | exact Below.refl _ _ | (refine Below.alloc ?_ (by first | omega | (simp; done) | (simp; omega)) _) | (refine Below.drew ?_))))).mono ?_; rintro e w5 ⟨q5, rfl, q50, q51, -, k5⟩; have q51' := q51 (by omega); obtain ⟨n5, hn5⟩ := Int.eq_ofNat_of_zero_le q50; subst hn5; have kk5 : KeptOut (fun b => b = w.heap.size + 1) wd w5 := KeptOut.trans (by repeat (first | exact KeptOut.refl _ _ | refine KeptOut.alloc ?_ _ | refine KeptOut.drew ?_)) k5; have bz5 := bz2.kept kk5 (by omega); have R5 := Lib.hid (R2.out.kept kk5 (fun k hk e => by have := lb k hk; omega)); have B5 := kk5.below B2 B2.size (fun k hk => by omega); have z5 := kk5.size; obtain ⟨sz, hL1, hz1⟩ := four_at t1 t2 n5 (by omega) (by rw [ht1]; decide) (by rw [ht2]; decide); have hA : (w5.alloc (.cells #[.string ⟨#[]⟩, .string ⟨#[110, 101, 119]⟩, .string t1, .string t2] 9)).cell? ⟨w5.heap.size, n5, none⟩ = some (.string sz) := (by rw [World.cell?_alloc_at _ _ _ _ rfl]; simpa using hL1); (first | (have hB : w5.cell? ⟨wd.heap.size, n5, none⟩ = some (.string sz) := (k5.cell (p := ⟨wd.heap.size, n5, none⟩) (by simp) (by simp; omega)).trans (show (wd.alloc (.cells #[.string ⟨#[]⟩, .string ⟨#[110, 101, 119]⟩, .string t1, .string t2] 9)).cell? ⟨wd.heap.size, n5, none⟩ = _ from (by rw [World.cell?_alloc_at _ _ _ _ rfl]; simpa using hL1))) | skip); have g5 : (n5 : Int) < 4 := (by omega); clear k5 q51; obtain ⟨y0, v0⟩ := bz5 0 _ rfl; obtain ⟨y1, v1⟩ := bz5 1 _ rfl; obtain ⟨y2, v2⟩ := bz5 2 _ rfl; have lz5 := bz5.lt; have hL2 : (#[Value.string ⟨#[]⟩, Value.string ⟨#[110, 101, 119]⟩, Value.string t1, Value.string t2] : Array Value)[n5]? = some (.string sz) := (by simpa using hL1); have ne5 : w.heap.size ≠ w5.heap.size := (by omega); have bd5 := bd.kept kk5 (by omega); obtain ⟨x0, -⟩ := bd5 0 _ rfl; obtain ⟨x1, -⟩ := bd5 1 _ rfl; obtain ⟨x2, -⟩ := bd5 2 _ rfl; have ld5 := bd5.lt))
  all_goals
    go_wp2
    refine bodyPost_ret (v := .tuple #[.agg #[.slice a2 d.1.length ca2, .slice e2 d.2.1.length ce2, .int .i64 d.2.2], .int .i64 n, .string sz]) (by simp [results, Try.results16, go_sem, y0, y1, y2, lz5]) rfl ⟨_, d, n, sz, rfl, ?_, ax, n0, n1, hz1, ?_⟩
    · exact R5.out.kept (S := fun k => k = w.heap.size) (by repeat (first | exact KeptOut.refl _ _ | refine KeptOut.alloc ?_ _ | refine KeptOut.drew ?_ | refine KeptOut.setCell ?_ (by exact rfl) _)) (fun k hk e => by have := lb k hk; omega)
    · exact KeptOut.below (S := fun k => k = w.heap.size) B5 B5.size (by repeat (first | exact KeptOut.refl _ _ | refine KeptOut.alloc ?_ _ | refine KeptOut.drew ?_ | refine KeptOut.setCell ?_ (by exact rfl) _)) (fun k hk => by omega)
end Go.Proofs.Ytjbkhamfingoiaa
