import Derived.Test.YtjbkhamfingoiaaDiskD
/- DiskNew of the program and of the specification: 140 empty blocks, in memory of their own. -/
namespace Go.Proofs.Ytjbkhamfingoiaa
open Go Go.RowKit

def newDisk : DiskD := (List.replicate 140 ⟨#[]⟩, [], -1)

theorem newDisk_ok : OkDisk newDisk := by
  refine ⟨by simp [newDisk, maxLen], ?_, by simp [newDisk], by simp [newDisk]⟩
  intro s hs
  simp only [newDisk, List.mem_replicate] at hs
  rw [hs.2]
  simp [ByteArray.size]

set_option maxRecDepth 100000 in
set_option maxHeartbeats 800000 in
theorem specDiskNew_any (w : World) :
    Calls Try.prog 34 #[] w fun e w' => ∃ u, e = .returned u ∧ DiskO w' w.heap.size u newDisk ∧ Below w.heap.size w w' := by
  obtain ⟨i0, hi, hz0, hz1, hz2⟩ := info_parts infoStr
  go_enter Try.func34, Try.ntmps34
  go_wp2_with (refine wpList_make_full _ rfl _ _ 23 rfl w.heap.size 9 i0 (.string ⟨#[]⟩) 1 Try.underlying23 hi hz0 hz1 .i64 .i64 140 140 140 rfl rfl rfl rfl (by rw [hz2]; omega) (by unfold maxLen; omega) (by simp) ?_; intro w1 hown hgrow; have BX := (Box.alloc w #[.slice none 0 0, .slice none 0 0, .int .i64 0] 26).below (below_of_grown hgrow); have c0 := BX 0 _ rfl; have c1 := BX 1 _ rfl; have c2 := BX 2 _ rfl)
  have hz := hgrow.size
  simp only [World.size_alloc] at hz
  have B1 : Below w.heap.size w w1 := Below.trans (by repeat (first | exact Below.refl _ _ | (refine Below.alloc ?_ (by first | (simp; done) | (simp; omega)) _) | (refine Below.setCell ?_ (by first | (simp; done) | (simp; omega)) _) | (refine Below.drew ?_))) ((below_of_grown hgrow).mono (by simp))
  have K := ((KeptOut.refl (fun k => k = w.heap.size) w1).setCell (p := ⟨w.heap.size, 0, none⟩) rfl (Value.slice (some ⟨w.heap.size + 1, 0, none⟩) 140 140)).setCell (p := ⟨w.heap.size, 1, none⟩) rfl (Value.slice none 0 0)
  have K2 := K.setCell (p := ⟨w.heap.size, 2, none⟩) rfl (Value.int .i64 (-1))
  have o1 := hown
  simp only [World.size_alloc] at o1
  refine bodyPost_ret (v := .agg #[.slice (some ⟨w.heap.size + 1, 0, none⟩) 140 140, .slice none 0 0, .int .i64 (-1)]) (by simp [results, Try.results34, go_sem, c0, c1, c2]) rfl ⟨_, rfl, ⟨some ⟨w.heap.size + 1, 0, none⟩, 140, none, 0, by simp [newDisk], ?_, ?_, ?_⟩, K2.below B1 B1.size (fun k hk => by omega)⟩
  · have h := own_kept o1 K2 (fun k hk => by obtain ⟨p, hp, rfl⟩ := slice_blk hk; simp at hp; subst hp; simp)
    rw [show (madeCells (Value.string ⟨#[]⟩).cells (140 * 1)).toList = newDisk.1.map Value.string from by rw [Nat.mul_one]; show (madeCells #[Value.string ⟨#[]⟩] 140).toList = _; rw [toList_madeCells_one]; simp [newDisk]] at h
    simpa [newDisk] using h
  · exact World.ownsRow_nil _ _ _ _
  · intro x y _ hy
    obtain ⟨q, hq, _⟩ := slice_blk hy
    cases hq

set_option maxRecDepth 100000 in
set_option maxHeartbeats 800000 in
theorem implDiskNew_any (w : World) :
    Calls Try.prog 35 #[] w fun e w' => ∃ u, e = .returned u ∧ DiskO w' w.heap.size u newDisk ∧ Below w.heap.size w w' := by
  obtain ⟨i0, hi, hz0, hz1, hz2⟩ := info_parts infoStr
  go_enter Try.func35, Try.ntmps35
  go_wp2_with (refine wpList_make_full _ rfl _ _ 23 rfl w.heap.size 9 i0 (.string ⟨#[]⟩) 1 Try.underlying23 hi hz0 hz1 .i64 .i64 140 140 140 rfl rfl rfl rfl (by rw [hz2]; omega) (by unfold maxLen; omega) (by simp) ?_; intro w1 hown hgrow; have BX := (Box.alloc w #[.slice none 0 0, .slice none 0 0, .int .i64 0] 26).below (below_of_grown hgrow); have c0 := BX 0 _ rfl; have c1 := BX 1 _ rfl; have c2 := BX 2 _ rfl)
  have hz := hgrow.size
  simp only [World.size_alloc] at hz
  have B1 : Below w.heap.size w w1 := Below.trans (by repeat (first | exact Below.refl _ _ | (refine Below.alloc ?_ (by first | (simp; done) | (simp; omega)) _) | (refine Below.setCell ?_ (by first | (simp; done) | (simp; omega)) _) | (refine Below.drew ?_))) ((below_of_grown hgrow).mono (by simp))
  have K := ((KeptOut.refl (fun k => k = w.heap.size) w1).setCell (p := ⟨w.heap.size, 0, none⟩) rfl (Value.slice (some ⟨w.heap.size + 1, 0, none⟩) 140 140)).setCell (p := ⟨w.heap.size, 1, none⟩) rfl (Value.slice none 0 0)
  have K2 := K.setCell (p := ⟨w.heap.size, 2, none⟩) rfl (Value.int .i64 (-1))
  have o1 := hown
  simp only [World.size_alloc] at o1
  refine bodyPost_ret (v := .agg #[.slice (some ⟨w.heap.size + 1, 0, none⟩) 140 140, .slice none 0 0, .int .i64 (-1)]) (by simp [results, Try.results35, go_sem, c0, c1, c2]) rfl ⟨_, rfl, ⟨some ⟨w.heap.size + 1, 0, none⟩, 140, none, 0, by simp [newDisk], ?_, ?_, ?_⟩, K2.below B1 B1.size (fun k hk => by omega)⟩
  · have h := own_kept o1 K2 (fun k hk => by obtain ⟨p, hp, rfl⟩ := slice_blk hk; simp at hp; subst hp; simp)
    rw [show (madeCells (Value.string ⟨#[]⟩).cells (140 * 1)).toList = newDisk.1.map Value.string from by rw [Nat.mul_one]; show (madeCells #[Value.string ⟨#[]⟩] 140).toList = _; rw [toList_madeCells_one]; simp [newDisk]] at h
    simpa [newDisk] using h
  · exact World.ownsRow_nil _ _ _ _
  · intro x y _ hy
    obtain ⟨q, hq, _⟩ := slice_blk hy
    cases hq

end Go.Proofs.Ytjbkhamfingoiaa
