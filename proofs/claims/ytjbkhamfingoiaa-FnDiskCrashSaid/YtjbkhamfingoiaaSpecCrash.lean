import Derived.Test.YtjbkhamfingoiaaSpecTurn
/- l2Crash of the model. -/
namespace Go.Proofs.Ytjbkhamfingoiaa
open Go Go.RowKit

theorem own_diskO {w : World} {base : Nat} {a : Option Addr} {c n : Nat} {l : List ByteArray} (hn : l.length = n) (h : w.ownsRow base 9 1 (.slice a n c) n (l.map .string)) (z : Int) :
    DiskO w base (.agg #[.slice a n c, .slice none 0 0, .int .i64 z]) (l, [], z) := by
  subst hn
  exact ⟨a, c, none, 0, rfl, h, World.ownsRow_nil _ _ _ _, fun x y _ hy => by cases hy⟩

set_option maxRecDepth 100000 in
set_option maxHeartbeats 800000 in
theorem l2Crash_any (v : Value) (d : DiskD) (m : Nat) (w : World) (hm : m ≤ 9223372036854775807) (hv : DiskR w v d) (h140 : d.1.length = 140) (hat : ∀ x ∈ d.2.1, 0 ≤ x.1 ∧ x.1 ≤ 139) :
    Calls Try.prog 59 #[v, .int .i64 m] w (TopPost w (dCrash m d)) := by
  obtain ⟨a, ca, b, cb, rfl, hs, hw, hok⟩ := hv
  obtain ⟨ds, dw, dl⟩ := d
  simp only at hs hw hok h140 hat
  have hsrc := Lib.hid (src_str hs)
  have HS := Lib.hid hs
  have HWs := Lib.hid hw
  have H140 := Lib.hid h140
  have hds : 0 < ds.length := by omega
  have hds2 : ds.length ≤ 1048576 := by omega
  have HT := Lib.hid hat
  have hl2 := hw.1
  unfold maxLen at hl2
  clear h140 hat
  dsimp only
  obtain ⟨i0, hi, hz0, hz1, hz2⟩ := info_parts infoStr
  have h1c := str_one ds
  go_enter Try.func59, Try.ntmps59
  go_wp2_with (at_builtin; refine wpList_append_src _ rfl (.tmp 7) (.tmp 9) 23 rfl (w.heap.size + 2) 9 i0 (.string ⟨#[]⟩) 1 16 Try.underlying23 hi hz0 hz1 hz2 rfl (by decide) (.slice (some ⟨_, 0, none⟩) 0 0) 0 [] rfl (own_lit0 _ _ _ _ (by simp) (by simp)) a ds.length ca (ds.map .string) rfl (hsrc.out.below (by repeat (first | exact Below.refl _ _ | (refine Below.alloc ?_ (by first | (simp; done) | (simp; omega)) _) | (refine Below.setCell ?_ (by first | (simp; done) | (simp; omega)) _) | (refine Below.drew ?_)))) h1c (by unfold maxLen; omega) (by omega) (by simp) ?_; intro v1 w1 o1 g1 _; rw [Nat.zero_add, List.nil_append] at o1; obtain ⟨g, c1, rfl⟩ := own_shape_pos o1 hds; have B1 : Below ((w.alloc (Obj.cells #[Value.slice a ds.length ca, Value.slice b dw.length cb, Value.int IntKind.i64 dl] 26)).alloc (Obj.cells #[Value.slice none 0 0, Value.slice none 0 0, Value.int IntKind.i64 0] 26)).heap.size ((w.alloc (Obj.cells #[Value.slice a ds.length ca, Value.slice b dw.length cb, Value.int IntKind.i64 dl] 26)).alloc (Obj.cells #[Value.slice none 0 0, Value.slice none 0 0, Value.int IntKind.i64 0] 26)) w1 := below_app (below_alloc _ _) (by simp) g1 (by simp); have O1 := Lib.hid o1; have z1 := B1.size; simp only [World.size_alloc] at z1; clear o1 g1; obtain ⟨YX, YZ, Y0, T0⟩ := two_box B1; obtain ⟨x0, f0⟩ := YX 0 _ rfl; obtain ⟨x1, f1⟩ := YX 1 _ rfl; obtain ⟨x2, f2⟩ := YX 2 _ rfl; obtain ⟨y0, e0⟩ := YZ 0 _ rfl; obtain ⟨y1, e1⟩ := YZ 1 _ rfl; obtain ⟨y2, e2⟩ := YZ 2 _ rfl)
  obtain ⟨hg1, hg2⟩ := O1.out.lt g rfl
  go_loopw [6] (fun v6 wr => ∃ j : Nat, j ≤ dw.length ∧ v6 = .int .i64 j ∧ wr.ownsRow (w.heap.size + 2) 9 1 (.slice (some ⟨g, 0, none⟩) ds.length c1) ds.length ((upTo (bitB m) dw ds j).map .string) ∧ Box wr w.heap.size [.slice a ds.length ca, .slice b dw.length cb, .int .i64 dl] ∧ Box wr (w.heap.size + 1) [.slice none 0 0, .slice none 0 0, .int .i64 0] ∧ Box wr w1.heap.size [.slice (some ⟨g, 0, none⟩) ds.length c1, .slice none 0 0, .int .i64 (-1)] ∧ Below w.heap.size w wr) (fun v6 _ => dw.length - (intOf v6).toNat)
  case atStart =>
    exact ⟨0, Nat.zero_le _, rfl, O1.out.alloc _, YX.below (below_alloc _ _), YZ.below (below_alloc _ _), Box.alloc w1 _ _, Y0.alloc Y0.size _⟩
  case round =>
    clear x0 x1 x2 f0 f1 f2 y0 y1 y2 e0 e1 e2
    obtain ⟨j, hj, rfl, hown, PX, PZ, PL, hbel⟩ := hrel
    have HO := Lib.hid hown
    have hg3 := (hown.lt g rfl).2
    clear hown
    obtain ⟨x1, f1⟩ := PX 1 _ rfl
    obtain ⟨l0, f0⟩ := PL 0 _ rfl
    by_cases hlt : j < dw.length
    · cases hbit : bitB m j
      · have HB := Lib.hid hbit
        have HU := Lib.hid (upTo_no (f := bitB m) (bl := ds) hlt hbit)
        clear hbit
        go_wp2_with fail
        refine (l2Bit_any m j _ hm (by unfold maxLen; omega)).mono ?_
        rintro e w2 ⟨rfl, rfl⟩
        rw [HB.out]
        go_wp2
        go_roundw
        case rel => exact ⟨j + 1, by omega, by go_num, by rw [HU.out]; exact HO.out, PX, PZ, PL, hbel⟩
        case measure => simp [intOf]; omega
      · have HB := Lib.hid hbit
        have HU := Lib.hid (upTo_yes (f := bitB m) (bl := ds) hlt hbit)
        clear hbit
        obtain ⟨bb, ob, rfl, hcb⟩ := HWs.out.2.resolve_left (by intro e; subst e; simp at hlt)
        obtain ⟨q0, q1⟩ := cellsWait hbel hcb j hlt
        obtain ⟨n, hn⟩ := Int.eq_ofNat_of_zero_le (HT.out _ (List.getElem_mem hlt)).1
        have hn2 : n < ds.length := by have := (HT.out _ (List.getElem_mem hlt)).2; have := H140.out; omega
        have hbb : bb < w.heap.size := by have := World.block_lt_of_cell? w _ (hcb j hlt 0 _ rfl); simpa using this
        rw [hn] at q0
        obtain ⟨s0, cy⟩ : ∃ v, wr.cell? ⟨g, n, none⟩ = some v := ⟨_, (HO.out.cellAt n (by omega)).trans (List.getElem?_eq_getElem (by have := HO.out.1; omega))⟩
        have fy : wr.frozen? ⟨g, n, none⟩ = false := HO.out.frozenAt n
        have HN := Lib.hid hn
        have hn3 : (n : Int) < (ds.length : Int) := by omega
        have hn4 : (0 : Int) ≤ (n : Int) := by omega
        have hj3 : (j : Int) < (dw.length : Int) := by omega
        clear hn
        have hbw : w.heap.size < wr.heap.size := by omega
        have hbw1 : w1.heap.size < wr.heap.size := PL.lt
        have KS : ∀ w' : World, KeptOut (fun k => k = g) wr w' → w'.cell? ⟨w1.heap.size, 0, none⟩ = some (.slice (some ⟨g, 0, none⟩) ds.length c1) ∧ w'.cell? ⟨w.heap.size, 1, none⟩ = some (.slice (some ⟨bb, ob, none⟩) dw.length cb) ∧ w'.cell? ⟨bb, ob + j * 2, none⟩ = some (.int .i64 (n : Int)) ∧ w'.cell? ⟨bb, ob + j * 2 + 1, none⟩ = some (.string dw[j].2) :=
          fun w' h => ⟨(h.cell (p := ⟨w1.heap.size, 0, none⟩) hbw1 (fun e => by simp at e; omega)).trans l0, (h.cell (p := ⟨w.heap.size, 1, none⟩) hbw (fun e => by simp at e; omega)).trans x1, (h.cell (p := ⟨bb, ob + j * 2, none⟩) (by simp; omega) (fun e => by simp at e; omega)).trans q0, (h.cell (p := ⟨bb, ob + j * 2 + 1, none⟩) (by simp; omega) (fun e => by simp at e; omega)).trans q1⟩
        go_wp2_with fail
        refine (l2Bit_any m j _ hm (by unfold maxLen; omega)).mono ?_
        rintro e w2 ⟨rfl, rfl⟩
        rw [HB.out]
        go_wp2
        go_region_held3 (fun w' => w'.cell? ⟨w1.heap.size, 0, none⟩ = some (.slice (some ⟨g, 0, none⟩) ds.length c1) ∧ w'.cell? ⟨w.heap.size, 1, none⟩ = some (.slice (some ⟨bb, ob, none⟩) dw.length cb) ∧ w'.cell? ⟨bb, ob + j * 2, none⟩ = some (.int .i64 (n : Int)) ∧ w'.cell? ⟨bb, ob + j * 2 + 1, none⟩ = some (.string dw[j].2))
          ((refine KS _ ?_; (repeat (first | exact KeptOut.refl _ _ | refine KeptOut.drew ?_ | refine KeptOut.setCell ?_ (by exact rfl) _)))) (fail)
        clear hn3 hn4 l0 x1 q0 q1 KS
        go_wp2
        go_roundw
        case rel =>
          have K := (KeptOut.refl (fun k => k = g) wr).setCell (p := ⟨g, n, none⟩) rfl (.string dw[j].2)
          refine ⟨j + 1, by omega, by go_num, ?_, PX.other _ (by simp; omega), PZ.other _ (by simp; omega), PL.other _ (by simp; omega), K.drew.below hbel hbel.size (fun k hk => by omega)⟩
          have h := (HO.out.stored n (.string dw[j].2)).1
          rw [HU.out]
          unfold setAt
          rw [HN.out, List.map_set]
          exact h
        case measure => simp [intOf]; omega
    · have e : j = dw.length := by omega
      subst e
      have HW := Lib.hid (show dCrash m (ds, dw, dl) = (upTo (bitB m) dw ds dw.length, [], -1) from rfl)
      have HUL := Lib.hid (upTo_len (bitB m) dw ds dw.length)
      obtain ⟨l1, -⟩ := PL 1 _ rfl
      obtain ⟨l2, -⟩ := PL 2 _ rfl
      obtain ⟨y0, z0⟩ := PZ 0 _ rfl
      obtain ⟨y1, z1⟩ := PZ 1 _ rfl
      obtain ⟨y2, z2⟩ := PZ 2 _ rfl
      have hbw : w.heap.size + 1 < wr.heap.size := by omega
      have hbw1 : w1.heap.size < wr.heap.size := PL.lt
      go_wp2
      have K := (((KeptOut.refl (fun k => k = w.heap.size + 1) wr).setCell (p := ⟨w.heap.size + 1, 0, none⟩) rfl (.slice (some ⟨g, 0, none⟩) ds.length c1)).setCell (p := ⟨w.heap.size + 1, 1, none⟩) rfl (.slice none 0 0)).setCell (p := ⟨w.heap.size + 1, 2, none⟩) rfl (.int .i64 (-1))
      have B3 := K.below hbel hbel.size (fun k hk => by omega)
      have O3 := own_kept HO.out K (fun k hk h => by have := (HO.out.lt k hk).1; omega)
      have R := own_diskO (HUL.out) O3 (-1)
      exact bodyPost_ret (v := .agg #[.slice (some ⟨g, 0, none⟩) ds.length c1, .slice none 0 0, .int .i64 (-1)]) (by simp [results, Try.results59, go_sem, y0, y1, y2]) rfl ⟨_, rfl, by rw [HW.out]; exact R.mono (by omega), B3⟩
end Go.Proofs.Ytjbkhamfingoiaa
