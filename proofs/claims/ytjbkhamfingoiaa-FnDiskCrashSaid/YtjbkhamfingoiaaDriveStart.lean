import Derived.Test.YtjbkhamfingoiaaDrive
import Derived.Laws.CopyOwn
/- diskStart: a disk at work, made of a disk; it shares nothing with it. -/
namespace Go.Proofs.Ytjbkhamfingoiaa
open Go Go.RowKit

theorem Box.of_heap {w : World} {b : Nat} {cs : List Value} {t : TypeId} (h : w.heap[b]? = some (.cells cs.toArray t (0, 0))) : Box w b cs := by
  intro i v hv
  refine ⟨?_, ?_⟩
  · simp [World.cell?, h, hv]
  · simp [World.frozen?, h]

/-- the cells of a disk at work that was just made -/
def freshDrive (n : Int) : List Value := List.replicate 140 (.string ⟨#[]⟩) ++ [ptrTo none, ptrTo none, .int .i64 n]
set_option maxRecDepth 100000 in
theorem zero_drive (n : Int) : Try.zeroCells91.setIfInBounds 142 (.int .i64 n) = (freshDrive n).toArray := by rfl
theorem fresh_splice (n : Int) (cs : List Value) (h : cs.length = 140) : splice (freshDrive n) 0 cs = cs ++ [ptrTo none, ptrTo none, .int .i64 n] := by
  simp only [splice, freshDrive, List.take_zero, List.nil_append, Nat.zero_add, h]
  rw [List.drop_append_of_le_length (by simp)]
  simp

set_option maxRecDepth 100000 in
set_option maxHeartbeats 800000 in
theorem start_any (v : Value) (d : DiskD) (w : World) (hv : DiskR w v d) (hd : d.1.length = 140) :
    Calls Try.prog 51 #[v] w fun e w' => ∃ P nb, e = .returned (.iface 85 (.pointer (some ⟨P, 0, none⟩))) ∧ Drive w' w.heap.size P nb d ∧ Below w.heap.size w w' := by
  obtain ⟨a, ca, b, cb, rfl, hs, hw, hok⟩ := hv
  obtain ⟨ds, dw, dl⟩ := d
  simp only at hs hw hok hd
  dsimp only
  obtain ⟨i0, hi, hz0, hz1, hz2⟩ := info_parts infoStr
  obtain ⟨cs, hcs⟩ : ∃ cs, cs = ds.map Value.string := ⟨_, rfl⟩
  have hcl : cs.length = 140 := by rw [hcs]; simp [hd]
  obtain ⟨sb, so, rfl, hsc⟩ := hs.2.2.resolve_left (by intro e; rw [e] at hd; simp at hd)
  rw [hd]
  have HD := Lib.hid hd
  have HC := Lib.hid hcs
  clear hcs hd
  go_enter Try.func51, Try.ntmps51
  go_wp2
  rw [zero_drive]
  obtain ⟨w1, hw1⟩ : ∃ w1, w1 = ((w.alloc (Obj.cells #[Value.slice (some ⟨sb, so, none⟩) 140 ca, Value.slice b dw.length cb, Value.int IntKind.i64 dl] 26)).alloc (Obj.cells (freshDrive dl).toArray 91)) := ⟨_, rfl⟩
  rw [← hw1]
  have B1 : Below w.heap.size w w1 := by rw [hw1]; exact (by repeat (first | exact Below.refl _ _ | (refine Below.alloc ?_ (by first | (simp; done) | (simp; omega)) _) | (refine Below.setCell ?_ (by first | (simp; done) | (simp; omega)) _) | (refine Below.drew ?_)))
  have hg1 : w1.heap[w.heap.size + 1]? = some (Obj.cells (freshDrive dl).toArray 91 (0, 0)) := by
    rw [hw1]
    have e := Array.getElem?_push_size (xs := (w.alloc (Obj.cells #[Value.slice (some ⟨sb, so, none⟩) 140 ca, Value.slice b dw.length cb, Value.int IntKind.i64 dl] 26)).heap) (x := Obj.cells (freshDrive dl).toArray 91 (0, 0))
    rw [show (w.alloc (Obj.cells #[Value.slice (some ⟨sb, so, none⟩) 140 ca, Value.slice b dw.length cb, Value.int IntKind.i64 dl] 26)).heap.size = w.heap.size + 1 from by simp] at e
    exact e
  have k0 : Box w1 w.heap.size [Value.slice (some ⟨sb, so, none⟩) 140 ca, Value.slice b dw.length cb, Value.int IntKind.i64 dl] := by rw [hw1]; exact (Box.alloc w _ _).below (below_alloc _ _)
  have hz1 : w1.heap.size = w.heap.size + 2 := by rw [hw1]; simp
  clear hw1
  have k00 := (k0 0 _ rfl).1
  have hsrc : ∀ j v, cs[j]? = some v → w1.cell? ((⟨sb, so, none⟩ : Addr).add j) = some v := by
    intro j v hv
    rw [HC.out] at hv
    simp only [List.getElem?_map, Option.map_eq_some_iff] at hv
    obtain ⟨x, hx, rfl⟩ := hv
    obtain ⟨hj, rfl⟩ := List.getElem?_eq_some_iff.1 hx
    have h0 := hsc j hj
    rw [addr_add, B1.cell (by have := World.block_lt_of_cell? w _ h0; simpa using this)]
    exact h0
  have HS := Lib.hid hsrc
  clear hsrc
  go_region_law (refine step_copy_splice rfl (.tmp 13) (.tmp 15) 23 23 rfl 9 Try.underlying23 (by kernel_rfl) (some ⟨w.heap.size + 1, 0, none⟩) (some ⟨sb, so, none⟩) 140 140 140 ca (by simp [Act.eval]) (by simp [Act.eval]) (w.heap.size + 1) 0 (freshDrive dl) 91 hg1 cs hcl (fun _ => ⟨rfl, _, rfl, HS.out⟩) (by rw [hcl]; simp [freshDrive]) (by rw [HC.out]; simp [Value.oneCell']) (w.heap.size + 1) w1 ((Below.refl _ _).drew) (Nat.le_refl _) ?_; intro w2 hg2 hb2)
  have B2 : Below w.heap.size w w2 := B1.trans (hb2.mono (by omega))
  have hb2' : Below w1.heap.size w1 w2 ∨ True := .inr trivial
  have k01 : w2.cell? ⟨w.heap.size, 1, none⟩ = some (Value.slice b dw.length cb) := by
    rw [hb2.cell (p := ⟨w.heap.size, 1, none⟩) (by simp)]; exact (k0 1 _ rfl).1
  have D2 : Drive w2 w.heap.size (w.heap.size + 1) [] (ds, [], dl) := by
    refine ⟨HD.out, rfl, by omega, by simp, by simp, ?_, by simp⟩
    have h := Box.of_heap hg2.out
    rw [fresh_splice dl cs hcl, HC.out] at h
    exact h
  have HD2 := Lib.hid D2
  clear D2 hb2' hg2 hg1 HS k0
  have hl := hw.1
  unfold maxLen at hl
  go_wp2
  go_loopw [20] (fun i wr => ∃ k : Nat, k ≤ dw.length ∧ i = .int .i64 k ∧ ∃ nb, Drive wr w.heap.size (w.heap.size + 1) nb (ds, dw.take k, dl) ∧ Below w.heap.size w wr) (fun i _ => dw.length - (intOf i).toNat)
  case atStart => exact ⟨0, Nat.zero_le _, rfl, [], HD2.out, B2⟩
  case round =>
    obtain ⟨k, hk, rfl, nb, hdr, hbel⟩ := hrel
    have HR := Lib.hid hdr
    clear hdr
    by_cases hlt : k < dw.length
    · obtain ⟨bb, ob, rfl, hcb⟩ := hw.2.resolve_left (by intro e; subst e; simp at hlt)
      obtain ⟨c0, c1⟩ := cellsWait hbel hcb k hlt
      go_wp2_with fail
      have cv0 : (wr.alloc (Obj.cells #[Value.int IntKind.i64 dw[k].fst, Value.string dw[k].snd] 43)).cell? ⟨wr.heap.size, 0, none⟩ = some (.int .i64 dw[k].1) := by simp [go_sem]
      have cv1 : (wr.alloc (Obj.cells #[Value.int IntKind.i64 dw[k].fst, Value.string dw[k].snd] 43)).cell? ⟨wr.heap.size, 1, none⟩ = some (.string dw[k].2) := by simp [go_sem]
      have hnq := HR.out.nodeLt
      have hPq := HR.out.box.lt'
      go_region_held3 (fun w' => w'.cell? ⟨wr.heap.size, 0, none⟩ = some (.int .i64 dw[k].1) ∧ w'.cell? ⟨wr.heap.size, 1, none⟩ = some (.string dw[k].2)) (first | exact ⟨cv0, cv1⟩ | exact ⟨e0, e1⟩) ((go_at_call 72; refine (push_any w.heap.size (w.heap.size + 1) nb _ _ _ _ (HR.out.below (by repeat (first | exact Below.refl _ _ | (refine Below.alloc ?_ (by first | (simp; done) | (simp; omega)) _) | (refine Below.setCell ?_ (by first | (simp; done) | (simp; omega)) _) | (refine Below.drew ?_))))).mono ?_; rintro e w3 ⟨rfl, dr3, k3⟩; have hno : ¬ driveBlk (w.heap.size + 1) nb wr.heap.size := (fun h => h.elim (fun h => by omega) (fun h => by have := hnq _ h; omega)); have e0 := (k3.cell (p := ⟨wr.heap.size, 0, none⟩) (by simp) hno).trans cv0; have e1 := (k3.cell (p := ⟨wr.heap.size, 1, none⟩) (by simp) hno).trans cv1))
      have b3 : Below w.heap.size w w3 := k3.below ((hbel.alloc hbel.size _).drew) (by have := hbel.size; simp; omega) HR.out.own
      have hz3 := k3.size
      rw [← List.take_succ_eq_append_getElem hlt] at dr3
      go_wp2
      go_roundw
      case rel => exact ⟨k + 1, by omega, by go_num, _, dr3, b3⟩
      case measure => simp [intOf]; omega
    · go_wp2
      go_ret
      refine ⟨_, nb, rfl, ?_, hbel⟩
      have := HR.out
      rw [List.take_of_length_le (by omega)] at this
      exact this
end Go.Proofs.Ytjbkhamfingoiaa
