import Derived.Test.YtgjfflfldddebaaDoorBloomJ
/- Whether a key may be among those of bits, of the program: BloomMay. -/
namespace Go.Proofs.YtgjfflfldddebaaDoor
open Go Go.RowKit

theorem bloomRead_is (s : ByteArray) (w : World) : Calls Tryd.prog 43 #[.string s] w fun e w' => Below w.heap.size w w' ∧ ((decide (s.size = 16) && figOk s) = true ∧ e = .returned (.tuple #[.agg #[.int .u8 (vN s 0 : Nat), .int .u8 (vN s 1 : Nat), .int .u8 (vN s 2 : Nat), .int .u8 (vN s 3 : Nat), .int .u8 (vN s 4 : Nat), .int .u8 (vN s 5 : Nat), .int .u8 (vN s 6 : Nat), .int .u8 (vN s 7 : Nat), .int .u8 (vN s 8 : Nat), .int .u8 (vN s 9 : Nat), .int .u8 (vN s 10 : Nat), .int .u8 (vN s 11 : Nat), .int .u8 (vN s 12 : Nat), .int .u8 (vN s 13 : Nat), .int .u8 (vN s 14 : Nat), .int .u8 (vN s 15 : Nat)], .bool true]) ∨ (decide (s.size = 16) && figOk s) = false ∧ e = .returned (.tuple #[.agg #[.int .u8 0, .int .u8 0, .int .u8 0, .int .u8 0, .int .u8 0, .int .u8 0, .int .u8 0, .int .u8 0, .int .u8 0, .int .u8 0, .int .u8 0, .int .u8 0, .int .u8 0, .int .u8 0, .int .u8 0, .int .u8 0], .bool false])) :=
  (bloomRead_any s w).mono fun _ _ ⟨b, h⟩ => ⟨b, h.elim (fun ⟨h1, _, h2⟩ => .inl ⟨h1, h2⟩) (fun ⟨h1, h2⟩ => .inr ⟨h1, h2⟩)⟩
theorem may_is {P : Nat} {s x u : ByteArray} {q : Bool} (hu : shaS x = u) (hq : allV s u = q) (hm : x.size ≤ 549755813888) (w : World) (ht : HashT w) (hbx : Box w P [.int .u8 (vN s 0 : Nat), .int .u8 (vN s 1 : Nat), .int .u8 (vN s 2 : Nat), .int .u8 (vN s 3 : Nat), .int .u8 (vN s 4 : Nat), .int .u8 (vN s 5 : Nat), .int .u8 (vN s 6 : Nat), .int .u8 (vN s 7 : Nat), .int .u8 (vN s 8 : Nat), .int .u8 (vN s 9 : Nat), .int .u8 (vN s 10 : Nat), .int .u8 (vN s 11 : Nat), .int .u8 (vN s 12 : Nat), .int .u8 (vN s 13 : Nat), .int .u8 (vN s 14 : Nat), .int .u8 (vN s 15 : Nat)]) :
    Calls Tryd.prog 44 #[.pointer (some ⟨P, 0, none⟩), .string x] w fun e w' => e = .returned (.bool q) ∧ Below w.heap.size w w' := by
  subst hq
  exact may_any P s x u hu hm w ht hbx
set_option maxRecDepth 100000 in
set_option maxHeartbeats 8000000 in
theorem implBloomMay_any (s x : ByteArray) (hm : x.size ≤ 549755813888) (w : World) (ht : HashT w) :
    Calls Tryd.prog 19 #[.string s, .string x] w fun e w' => e = .returned (.bool (mayB s x)) ∧ Below w.heap.size w w' := by
  have HT := Lib.hid ht
  clear ht
  go_enter Tryd.func19, Tryd.ntmps19
  go_wp2_with fail
  refine (bloomRead_is s _).mono ?_
  rintro e w2 ⟨b2, ⟨h, rfl⟩ | ⟨h, rfl⟩⟩
  · have B2 := Lib.hid b2
    obtain ⟨u, hu⟩ : ∃ u, shaS x = u := ⟨_, rfl⟩
    obtain ⟨q, hq⟩ : ∃ q, allV s u = q := ⟨_, rfl⟩
    have HU := Lib.hid hu
    have HQ := Lib.hid hq
    have HR := Lib.hid (show q = mayB s x by unfold mayB; rw [h, hu, hq]; rfl)
    clear b2 h hu hq
    go_wp2_with fail
    have X3 := Box.alloc w2 #[.int .u8 (vN s 0 : Nat), .int .u8 (vN s 1 : Nat), .int .u8 (vN s 2 : Nat), .int .u8 (vN s 3 : Nat), .int .u8 (vN s 4 : Nat), .int .u8 (vN s 5 : Nat), .int .u8 (vN s 6 : Nat), .int .u8 (vN s 7 : Nat), .int .u8 (vN s 8 : Nat), .int .u8 (vN s 9 : Nat), .int .u8 (vN s 10 : Nat), .int .u8 (vN s 11 : Nat), .int .u8 (vN s 12 : Nat), .int .u8 (vN s 13 : Nat), .int .u8 (vN s 14 : Nat), .int .u8 (vN s 15 : Nat)] 60
    refine (may_is HU.out HQ.out hm _ (HT.out.below (B2.out.trans ((below_alloc _ _).mono B2.out.size))) X3).mono ?_
    rintro e w4 ⟨rfl, b4⟩
    have B4 := Lib.hid (B2.out.trans (((below_alloc w2 _).trans (b4.mono (by rw [World.size_alloc]; omega))).mono B2.out.size))
    clear b4 X3
    go_wp2
    go_ret
    exact ⟨by rw [← HR.out]; rfl, B4.out⟩
  · have B2 := Lib.hid b2
    have HR := Lib.hid (show true = mayB s x by unfold mayB; rw [h]; rfl)
    clear b2 h
    go_wp2
    go_ret
    exact ⟨by rw [← HR.out]; rfl, B2.out.trans ((below_alloc _ _).mono B2.out.size)⟩
end Go.Proofs.YtgjfflfldddebaaDoor
