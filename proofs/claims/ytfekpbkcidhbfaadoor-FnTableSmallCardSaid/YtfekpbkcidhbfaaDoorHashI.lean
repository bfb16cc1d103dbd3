import Derived.Test.YtfekpbkcidhbfaaDoorMixAll
import Derived.Test.YtfekpbkcidhbfaaDoorHashEnd
import Derived.Deep.RegionHeld3
import Derived.Deep.RegionWith
/- HashSum of the program. -/
namespace Go.Proofs.YtfekpbkcidhbfaaDoor
open Go Go.RowKit

/-- the two tables of SHA-256 lie as the program's text says -/
def HashT (w : World) : Prop := w.rangeAt 0 0 (uvs H0.list) ∧ w.rangeAt 3 0 (uvs K64)
theorem HashT.below {w w' : World} (h : HashT w) (hb : Below w.heap.size w w') : HashT w' :=
  ⟨range_kept h.1 (S := fun _ => False) (.of_below hb) (fun h => h), range_kept h.2 (S := fun _ => False) (.of_below hb) (fun h => h)⟩
theorem HashT.cell {w : World} (h : HashT w) (j : Nat) (v : Value) (hv : (uvs H0.list)[j]? = some v) : w.cell? ⟨0, j, none⟩ = some v := by
  have := h.1 j v hv
  rwa [Nat.zero_add] at this
theorem HashT.lt {w : World} (h : HashT w) : 0 < w.heap.size ∧ 3 < w.heap.size := by
  have h1 := World.block_lt_of_cell? w _ (h.1 0 _ rfl)
  have h2 := World.block_lt_of_cell? w _ (h.2 0 _ rfl)
  exact ⟨by simpa using h1, by simpa using h2⟩

set_option maxRecDepth 100000 in
set_option maxHeartbeats 1000000 in
theorem implHash_any (s : ByteArray) (w : World) (hm : s.size ≤ 549755813888) (ht : HashT w) :
    Calls Tryd.prog 49 #[.string s] w fun e w' => e = .returned (.string (shaS s)) ∧ Below w.heap.size w w' := by
  have x0 := ht.cell 0 _ rfl
  have x1 := ht.cell 1 _ rfl
  have x2 := ht.cell 2 _ rfl
  have x3 := ht.cell 3 _ rfl
  have x4 := ht.cell 4 _ rfl
  have x5 := ht.cell 5 _ rfl
  have x6 := ht.cell 6 _ rfl
  have x7 := ht.cell 7 _ rfl
  unfold uv at x0 x1 x2 x3 x4 x5 x6 x7
  have HT := Lib.hid ht
  have hlt := ht.lt
  clear ht
  obtain ⟨A, hA⟩ : ∃ A, A = s.size - s.size % 64 := ⟨_, rfl⟩
  obtain ⟨m, hm64⟩ : ∃ m, A = 64 * m := ⟨s.size / 64, by omega⟩
  have hAs : A ≤ s.size := by omega
  have HA := Lib.hid hA
  have HM := Lib.hid hm64
  have E1 := Lib.hid (show (s.extract 0 A).data.toList = s.data.toList.take A by rw [Lib.extract_data]; simp)
  have E2 := Lib.hid (show (s.extract A s.size).data.toList = s.data.toList.drop A by rw [Lib.extract_data]; rw [List.take_of_length_le (by simp)])
  have Z1 := Lib.hid (show (s.extract 0 A).size = 64 * m by rw [ByteArray.size_extract]; omega)
  have Z2 := Lib.hid (show (s.extract A s.size).size = s.size - A by rw [ByteArray.size_extract]; omega)
  have hsz0 : (0 : Int) ≤ (s.size : Int) := by omega
  have hszm : (s.size : Int) ≤ 549755813888 := by omega
  clear hA hm64
  go_enter Tryd.func49, Tryd.ntmps49
  go_wp2_with fail
  rw [← HA.out]
  refine (mixAll_any w.heap.size H0 (s.extract 0 A) m Z1.out (by rw [Z1.out]; have := HM.out; omega) _ (Box.alloc w (uvs H0.list).toArray 95) (by omega) (range_kept HT.out.2 (S := fun _ => False) (.of_below (below_alloc _ _)) (fun h => h))).mono ?_
  rintro e w1 ⟨rfl, hb1, hk1⟩
  rw [E1.out] at hb1
  have HB1 := Lib.hid hb1
  have bel1 : Below w.heap.size w w1 := hk1.below (below_alloc _ _) (by simp) (fun k e => by omega)
  have HK1 := Lib.hid hk1
  clear hb1 hk1
  have hsz1 := bel1.size
  have BEL1 := Lib.hid bel1
  clear bel1 x0 x1 x2 x3 x4 x5 x6 x7
  have EZ := endB_len s.size
  have zl := zeros_lt s.size
  have ZT := Lib.hid (show ((s.extract A s.size) ++ (⟨(endB s.size).toArray⟩ : ByteArray)).size = 64 * ((s.size - A + 9 + zerosN s.size) / 64) by
    have h1 : (⟨(endB s.size).toArray⟩ : ByteArray).size = 9 + zerosN s.size := by show (endB s.size).toArray.size = _; rw [List.size_toArray, EZ]
    have h2 := whole_len s.size
    have h3 := HM.out
    rw [ByteArray.size_append, Z2.out, h1]
    omega)
  have ZB := Lib.hid (show ((s.extract A s.size) ++ (⟨(endB s.size).toArray⟩ : ByteArray)).size ≤ 1099511627776 by
    have h1 : (⟨(endB s.size).toArray⟩ : ByteArray).size = 9 + zerosN s.size := by show (endB s.size).toArray.size = _; rw [List.size_toArray, EZ]
    rw [ByteArray.size_append, Z2.out, h1]
    omega)
  have ET := Lib.hid (show ((s.extract A s.size) ++ (⟨(endB s.size).toArray⟩ : ByteArray)).data.toList = s.data.toList.drop A ++ endB s.size by
    rw [ByteArray.data_append, Array.toList_append, E2.out])
  have EF := Lib.hid (show shaS s = ⟨(figS (blks (blks H0 (s.data.toList.take A) m) (s.data.toList.drop A ++ endB s.size) ((s.size - A + 9 + zerosN s.size) / 64))).toArray⟩ by
    unfold shaS shaL
    have hl : s.data.toList.length = s.size := by simp
    have ht : (s.data.toList.take A).length = 64 * m := by rw [List.length_take, hl, HM.out] ; have := HM.out; omega
    have h3 := HM.out
    rw [← blks_cat H0 _ _ m _ ht, ← List.append_assoc, List.take_append_drop, hl, show (s.size + 9 + zerosN s.size) / 64 = m + (s.size - A + 9 + zerosN s.size) / 64 by omega])
  obtain ⟨X, hX⟩ : ∃ X : ByteArray, X = ⟨(endB s.size).toArray⟩ := ⟨_, rfl⟩
  have hXs : X.size = 9 + zerosN s.size := by rw [hX]; show (endB s.size).toArray.size = _; rw [List.size_toArray, EZ]
  rw [← hX] at ZT ZB ET
  have HX := Lib.hid hX
  have hcast : ((s.size : Int) - (s.size : Int) % 64) = (A : Int) := by have := HA.out; omega
  have t1 : ¬ 9223372036854775807 < s.size - A + X.size := by omega
  have hA1 : (A : Int) ≤ (s.size : Int) := by omega
  have hA0 : (0 : Int) ≤ (A : Int) := by omega
  have HC := Lib.hid hcast
  clear EZ hX hXs hcast
  go_wp2
  rw [HC.out]
  go_region_with (first
    | (go_at_call 68; refine (hashEnd_any s.size (by omega) _).mono ?_; rintro e w2 ⟨rfl, b2⟩; rw [← HX.out]; have c2 : Below w1.heap.size w1 w2 := ⟨b2.os, b2.tape, b2.output, b2.size, b2.block⟩)
    | (go_at_call 67; refine (mixAll_any w.heap.size _ _ _ ZT.out ZB.out _ (HB1.out.below c2) (by omega) (range_kept HT.out.2 (S := fun _ => False) (.of_below (BEL1.out.trans (c2.mono hsz1))) (fun h => h))).mono ?_; rintro e w3 ⟨rfl, hb3, hk3⟩))
  have HB3 := Lib.hid hb3
  have K3 := Lib.hid ((HK1.out.trans (.of_below c2)).trans hk3)
  have zw2 := c2.size
  have zw3 := hk3.size
  clear hb3 hk3 b2 c2
  go_wp2_with fail
  refine (figures_any w.heap.size _ _ HB3.out).mono ?_
  rintro e w4 ⟨rfl, b4⟩
  rw [ET.out, ← EF.out]
  go_wp2
  go_ret
  exact ⟨rfl, (K3.out.below (below_alloc _ _) (by simp) (fun k e => by omega)).trans (b4.mono (by omega))⟩
end Go.Proofs.YtfekpbkcidhbfaaDoor
