import Derived.Test.YtjbkhamfingoiaaDiskNew
/- The walk of FnExactDiskNew. -/
namespace Go.Proofs.Ytjbkhamfingoiaa
open Go Go.RowKit

theorem diskBlk_agg {a b : Value} {n : Int} {k : Nat} : diskBlk (.agg #[a, b, .int .i64 n]) k ↔ a.ownBlock = some k ∨ b.ownBlock = some k := Iff.rfl

set_option maxRecDepth 100000 in
set_option maxHeartbeats 1000000 in
theorem fnExactDiskNewWalk (w : World) :
    Calls Try.prog 8 #[] w fun e w' => e = .returned (.bool true) ∧ Below w.heap.size w w' := by
  have hn1 : newDisk.1.length ≤ 1048576 := by simp [newDisk]
  have hn2 : newDisk.2.1.length ≤ 1048576 := by simp [newDisk]
  have ok := newDisk_ok
  have okm := marksDisk_ok 1 newDisk (by omega) (by omega) hn1 hn2
  obtain ⟨d, hd⟩ : ∃ d, d = newDisk := ⟨_, rfl⟩
  rw [← hd] at hn1 hn2 ok okm
  have HD := Lib.hid hd
  clear hd
  go_enter Try.func8, Try.ntmps8
  -- 1: u1 := spec
  go_wp2_with fail
  refine (specDiskNew_any _).mono ?_
  rintro e w1 ⟨u1, rfl, o1, b1⟩
  rw [← HD.out] at o1
  have G1 : Below w.heap.size w w1 := b1
  obtain ⟨a1, ca1, e1, ce1, rfl, _⟩ := id o1
  have L1 := Lib.hid (fun k hk => o1.lt (k := k) hk)
  -- 2: u2 := impl
  go_wp2_with fail
  refine (implDiskNew_any _).mono ?_
  rintro e w2 ⟨u2, rfl, o2, b2⟩
  rw [← HD.out] at o2
  simp only [World.size_alloc] at o2
  have B2 : Below w1.heap.size w1 w2 := (below_alloc w1 _).trans (b2.mono (by simp))
  have Z2 : w1.heap.size + 1 ≤ w2.heap.size := by have := b2.size; simpa using this
  have G2 : Below w.heap.size w w2 := G1.trans (B2.mono G1.size)
  have Y1 := G1.size
  replace o1 := o1.below B2
  have X1 := (Box.alloc w1 #[.slice a1 d.1.length ca1, .slice e1 d.2.1.length ce1, .int .i64 d.2.2] 26).below b2
  obtain ⟨a2, ca2, e2, ce2, rfl, _⟩ := id o2
  have L2 := Lib.hid (fun k hk => o2.lt (k := k) hk)
  -- 3: eqDisk(u2, u1)
  have X1f0 := (X1 0 _ rfl).1
  have X1f1 := (X1 1 _ rfl).1
  have X1f2 := (X1 2 _ rfl).1
  have X1l := X1.lt
  go_wp2_with fail
  refine (eqDisk_any _ _ d _ ((o2.read ok).below (below_alloc _ _)) ((o1.read ok).below (below_alloc _ _))).mono ?_
  rintro e w3 ⟨rfl, b3⟩
  have B3 : Below w2.heap.size w2 w3 := (below_alloc w2 _).trans (b3.mono (by simp))
  have Z3 : w2.heap.size + 1 ≤ w3.heap.size := by have := b3.size; simpa using this
  have G3 : Below w.heap.size w w3 := G2.trans (B3.mono G2.size)
  replace o1 := o1.below B3
  replace o2 := o2.below B3
  replace X1 := X1.below B3
  have X2 := (Box.alloc w2 #[.slice a2 d.1.length ca2, .slice e2 d.2.1.length ce2, .int .i64 d.2.2] 26).below b3
  -- 4: mark(u2, 1)
  clear X1f0 X1f1 X1f2 X1l
  have X1f0 := (X1 0 _ rfl).1
  have X1f1 := (X1 1 _ rfl).1
  have X1f2 := (X1 2 _ rfl).1
  have X2f0 := (X2 0 _ rfl).1
  have X2f1 := (X2 1 _ rfl).1
  have X2f2 := (X2 2 _ rfl).1
  go_wp2_with fail
  refine (markDisk_any _ _ d 1 _ o2 (by omega) (by omega) hn1 hn2).mono ?_
  rintro e w4 ⟨rfl, m2, b4⟩
  have Z4 := b4.size
  have G4 : Below w.heap.size w w4 := b4.below G3 G3.size (fun k hk => by have := L2.out k hk; omega)
  replace o1 := o1.kept b4 (fun k h1 h2 => by have h3 := L1.out k h1; have h4 := L2.out k h2; omega)
  replace X1 := X1.kept b4 (fun h2 => by have h4 := L2.out _ h2; omega)
  replace X2 := X2.kept b4 (fun h2 => by have h4 := L2.out _ h2; omega)
  -- 5: held(u2, 1)
  clear X1f0 X1f1 X1f2 X2f0 X2f1 X2f2
  have X1f0 := (X1 0 _ rfl).1
  have X1f1 := (X1 1 _ rfl).1
  have X1f2 := (X1 2 _ rfl).1
  have X2f0 := (X2 0 _ rfl).1
  have X2f1 := (X2 1 _ rfl).1
  have X2f2 := (X2 2 _ rfl).1
  go_wp2_with fail
  refine (heldDisk_any _ d 1 _ (m2.read okm) (by omega) (by omega) hn1 hn2).mono ?_
  rintro e w5 ⟨rfl, b5⟩
  have Z5 := b5.size
  have G5 : Below w.heap.size w w5 := G4.trans (b5.mono G4.size)
  replace o1 := o1.below b5
  replace m2 := m2.below b5
  replace X1 := X1.below b5
  replace X2 := X2.below b5
  -- 6: u3 := impl
  clear X1f0 X1f1 X1f2 X2f0 X2f1 X2f2
  go_wp2_with fail
  refine (implDiskNew_any _).mono ?_
  rintro e w6 ⟨u3, rfl, o3, b6⟩
  rw [← HD.out] at o3
  have Z6 := b6.size
  have G6 : Below w.heap.size w w6 := G5.trans (b6.mono G5.size)
  replace o1 := o1.below b6
  replace m2 := m2.below b6
  replace X1 := X1.below b6
  replace X2 := X2.below b6
  obtain ⟨a3, ca3, e3, ce3, rfl, _⟩ := id o3
  -- 7: eqDisk(u3, u1)
  have X1f0 := (X1 0 _ rfl).1
  have X1f1 := (X1 1 _ rfl).1
  have X1f2 := (X1 2 _ rfl).1
  have X1l := X1.lt
  go_wp2_with fail
  refine (eqDisk_any _ _ d _ ((o3.read ok).below (below_alloc _ _)) ((o1.read ok).below (below_alloc _ _))).mono ?_
  rintro e w7 ⟨rfl, b7⟩
  have B7 : Below w6.heap.size w6 w7 := (below_alloc w6 _).trans (b7.mono (by simp))
  have Z7 : w6.heap.size + 1 ≤ w7.heap.size := by have := b7.size; simpa using this
  have G7 : Below w.heap.size w w7 := G6.trans (B7.mono G6.size)
  replace m2 := m2.below B7
  replace X1 := X1.below B7
  replace X2 := X2.below B7
  -- 8: held(u2, 1)
  clear X1f0 X1f1 X1f2 X1l
  have X2f0 := (X2 0 _ rfl).1
  have X2f1 := (X2 1 _ rfl).1
  have X2f2 := (X2 2 _ rfl).1
  go_wp2_with fail
  refine (heldDisk_any _ d 1 _ (m2.read okm) (by omega) (by omega) hn1 hn2).mono ?_
  rintro e w8 ⟨rfl, b8⟩
  have G8 : Below w.heap.size w w8 := G7.trans (b8.mono G7.size)
  go_wp2
  go_ret
  exact ⟨rfl, G8⟩
end Go.Proofs.Ytjbkhamfingoiaa
