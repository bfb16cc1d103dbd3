import Derived.Test.YtfekpbkcidhbfaaDoorPadded
import Derived.Test.YtfekpbkcidhbfaaDoorSpread
import Derived.StillTailTactics
import Derived.Deep.RegionHeld3
/- l1Words of the model. -/
namespace Go.Proofs.YtfekpbkcidhbfaaDoor
open Go Go.RowKit

theorem infoU32 : (Tryd.prog.info? 92).map (fun i => (i.zero, i.size, i.bytes)) = some (some (.int .u32 0), 1, 4) := by kernel_rfl
/-- it answers words of its own -/
def WordsP (w : World) (l : List W32) (e : Ending) (w' : World) : Prop := ∃ v, e = .returned v ∧ OwnsM w' w.heap.size 92 1 v l.length (uvs l) ∧ Below w.heap.size w w'
theorem uvs_snoc (l : List W32) (x : W32) : uvs (l ++ [x]) = uvs l ++ [uv x] := by simp [uvs]
theorem sched_next (l : List UInt8) (k : Nat) : sched l (k + 1) = sched l k ++ [nextW l k] := rfl
/-- a slice of bytes that came in -/
def BytesB (w : World) (b o : Nat) (l : List UInt8) : Prop := ∀ j, (h : j < l.length) → w.cell? ⟨b, o + j, none⟩ = some (.int .u8 (l[j].toNat : Int))
theorem BytesB.below {w w' : World} {b o : Nat} {l : List UInt8} (h : BytesB w b o l) (hb : Below w.heap.size w w') : BytesB w' b o l := fun j hj => by
  have h0 := h j hj
  rw [hb.cell (by have := World.block_lt_of_cell? w _ h0; simpa using this)]
  exact h0
theorem byteW_get (l : List UInt8) (j : Nat) (h : j < l.length) : ((byteW l j).toNat : Int) = (l[j].toNat : Int) := by
  unfold byteW
  rw [show l.getD j 0 = l[j] by simp [List.getD, List.getElem?_eq_getElem h]]
  simp
theorem words_or (l : List UInt8) (p i : Nat) (h0 : p < l.length) (h1 : p + 1 < l.length) (h2 : p + 2 < l.length) (h3 : p + 3 < l.length) (hp : p = 4 * i) :
    bits .or .u32 (bits .or .u32 (bits .or .u32 (IntKind.u32.wrap (IntKind.u32.wrap (l[p].toNat : Int) * 16777216)) (IntKind.u32.wrap (IntKind.u32.wrap (l[p + 1].toNat : Int) * 65536))) (IntKind.u32.wrap (IntKind.u32.wrap (l[p + 2].toNat : Int) * 256))) (IntKind.u32.wrap (l[p + 3].toNat : Int)) = ((wordW l i).toNat : Int) := by
  rw [← byteW_get l p h0, ← byteW_get l (p + 1) h1, ← byteW_get l (p + 2) h2, ← byteW_get l (p + 3) h3]
  simp only [uv_wr]
  have e24 : ∀ x : W32, IntKind.u32.wrap ((x.toNat : Int) * 16777216) = ((x <<< 24).toNat : Int) := fun x => uv_shl x 24
  have e16 : ∀ x : W32, IntKind.u32.wrap ((x.toNat : Int) * 65536) = ((x <<< 16).toNat : Int) := fun x => uv_shl x 16
  have e8 : ∀ x : W32, IntKind.u32.wrap ((x.toNat : Int) * 256) = ((x <<< 8).toNat : Int) := fun x => uv_shl x 8
  rw [e24, e16, e8, uv_or, uv_or, uv_or, hp]
  rfl
theorem cell_bel {w w' : World} (hb : Below w.heap.size w w') {a : Addr} {v : Value} (h : w.cell? a = some v) : w'.cell? a = some v := by
  rw [hb.cell (World.block_lt_of_cell? w _ h)]; exact h
theorem cell_two {B : Nat} {w wr w2 : World} (hb : Below B w wr) (hb2 : Below B w w2) {a : Addr} {v : Value} (hlt : a.block < B) (h : wr.cell? a = some v) : w2.cell? a = some v := (hb2.cell hlt).trans ((hb.cell hlt).symm.trans h)
theorem sched_get (l : List UInt8) {i j : Nat} (h : j < i) : (uvs (sched l i))[j]? = some (uv ((sched l i).getD j 0)) := by
  have hj : j < (sched l i).length := by rw [sched_len]; exact h
  simp [uvs, List.getD, List.getElem?_eq_getElem hj]
theorem bel_d (w : World) (o : Obj) : Below w.heap.size w (w.alloc o).drew := (below_alloc w o).drew

set_option maxRecDepth 100000 in
set_option maxHeartbeats 2000000 in
theorem l1Words_any (bb bo bc : Nat) (l : List UInt8) (hl : l.length = 64) (w : World) (hc : BytesB w bb bo l) :
    Calls Tryd.prog 96 #[.slice (some ⟨bb, bo, none⟩) 64 bc] w (WordsP w (sched l 64)) := by
  obtain ⟨i0, hi, hz0, hz1, hz2⟩ := info_parts infoU32
  have HC := Lib.hid hc
  have HL := Lib.hid hl
  clear hc hl
  go_enter Tryd.func96, Tryd.ntmps96
  go_wp2_with (refine wpList_make_own _ rfl _ _ 113 rfl w.heap.size 92 i0 (.int .u32 0) 1 Tryd.underlying113 hi hz0 hz1 .i64 .i64 64 64 rfl rfl rfl (by rw [hz2]; omega) (by unfold maxLen; omega) (by simp) ?_; intro w1 o1 g1)
  have B1 := Lib.hid (below_of_grown g1)
  have O1 := Lib.hid (OwnsM.of o1)
  clear o1 g1
  go_loopg [3, 4] 16 (fun g v v4 wr => ∃ k : Nat, k + g = 16 ∧ v4 = .int .i64 k ∧ OwnsM wr w.heap.size 92 1 v k (uvs (sched l k)) ∧ Below w.heap.size w wr)
  case atStart => exact ⟨0, by omega, rfl, O1.out, B1.out⟩
  case round =>
    clear O1 B1
    obtain ⟨k, hk, rfl, ho, hbel⟩ := hrel
    have HO := Lib.hid ho
    have HB := Lib.hid hbel
    have hbz := hbel.size
    have HK := Lib.hid hk
    obtain ⟨a, c, rfl⟩ := ho.shp
    clear ho hbel
    by_cases hlt : k < 16
    · have hki : (k : Int) < 16 := by omega
      obtain ⟨p, hp⟩ : ∃ p, p = 4 * k := ⟨_, rfl⟩
      have hpi : (4 : Int) * (k : Int) = (p : Int) := by omega
      have HPI := Lib.hid hpi
      have hbb : bb < w.heap.size := by have := World.block_lt_of_cell? w _ (HC.out 0 (by rw [HL.out]; omega)); simpa using this
      have HWN := Lib.hid (show nextW l k = wordW l k by unfold nextW; rw [if_pos hlt])
      have q0 : p < l.length := by rw [HL.out]; omega
      have q1 : p + 1 < l.length := by rw [HL.out]; omega
      have q2 : p + 2 < l.length := by rw [HL.out]; omega
      have q3 : p + 3 < l.length := by rw [HL.out]; omega
      have c0 := (HC.out.below HB.out) p q0
      have c1 := (HC.out.below HB.out) (p + 1) q1
      have c2 := (HC.out.below HB.out) (p + 2) q2
      have c3 := (HC.out.below HB.out) (p + 3) q3
      have HV := Lib.hid (words_or l p k q0 q1 q2 q3 hp)
      generalize l[p] = x0 at c0 HV
      generalize l[p + 1] = x1 at c1 HV
      generalize l[p + 2] = x2 at c2 HV
      generalize l[p + 3] = x3 at c3 HV
      obtain ⟨p1, e1⟩ : ∃ p1, p1 = p + 1 := ⟨_, rfl⟩
      obtain ⟨p2, e2⟩ : ∃ p2, p2 = p + 2 := ⟨_, rfl⟩
      obtain ⟨p3, e3⟩ : ∃ p3, p3 = p + 3 := ⟨_, rfl⟩
      rw [← e1] at c1
      rw [← e2] at c2
      rw [← e3] at c3
      have hw0 : IntKind.i64.wrap (p : Int) = (p : Int) := wrapN (by omega)
      have hw1 : IntKind.i64.wrap ((p : Int) + 1) = (p1 : Int) := by rw [show (p : Int) + 1 = (p1 : Int) by omega]; exact wrapN (by omega)
      have hw2 : IntKind.i64.wrap ((p : Int) + 2) = (p2 : Int) := by rw [show (p : Int) + 2 = (p2 : Int) by omega]; exact wrapN (by omega)
      have hw3 : IntKind.i64.wrap ((p : Int) + 3) = (p3 : Int) := by rw [show (p : Int) + 3 = (p3 : Int) by omega]; exact wrapN (by omega)
      have hp0 : (0 : Int) ≤ (p : Int) := by omega
      have hp64 : (p : Int) < 64 := by omega
      have hq1 : (p1 : Int) < 64 := by omega
      have hq2 : (p2 : Int) < 64 := by omega
      have hq3 : (p3 : Int) < 64 := by omega
      have hm1 : (0 : Int) ≤ (p1 : Int) := by omega
      have hm2 : (0 : Int) ≤ (p2 : Int) := by omega
      have hm3 : (0 : Int) ≤ (p3 : Int) := by omega
      clear e1 e2 e3
      clear hp hk q0 q1 q2 q3
      go_wp2
      refine wp_region_held_drew (S := fun W => W.cell? ⟨bb, bo + p, none⟩ = some (.int .u8 (x0.toNat : Int)) ∧ W.cell? ⟨bb, bo + p1, none⟩ = some (.int .u8 (x1.toNat : Int)) ∧ W.cell? ⟨bb, bo + p2, none⟩ = some (.int .u8 (x2.toNat : Int)) ∧ W.cell? ⟨bb, bo + p3, none⟩ = some (.int .u8 (x3.toNat : Int))) (by kernel_rfl) (⟨c0, c1, c2, c3⟩) (fun hHeld => ?_)
      refine wpAnyH_take (i := 0) (oi := { dst := some 15, op := Op.move (Operand.tmp 3), type := 113, pos := "l1_hash.go:57", after := _, guard := none }) (v := ?_) rfl (by kernel_rfl) (by kernel_rfl) (by kernel_rfl) (fun _ _ _ h => h) (Or.inl ⟨by rfl, ?_⟩) (by assumption) ?_
      rotate_left
      · (intro w hSw; (try dsimp only at hSw); go_simp; (try with_reducible rfl))
      simp only [Act.put, List.setIfInBounds_toArray, List.set_cons_zero, List.set_cons_succ]
      refine wpAnyH_take (i := 1) (oi := { dst := some 16, op := Op.move (Operand.tmp 0), type := 29, pos := "l1_hash.go:57", after := _, guard := none }) (v := ?_) rfl (by kernel_rfl) (by kernel_rfl) (by kernel_rfl) (fun _ _ _ h => h) (Or.inl ⟨by rfl, ?_⟩) (by assumption) ?_
      rotate_left
      · (intro w hSw; (try dsimp only at hSw); go_simp; (try with_reducible rfl))
      simp only [Act.put, List.setIfInBounds_toArray, List.set_cons_zero, List.set_cons_succ]
      refine wpAnyH_take (i := 2) (oi := { dst := some 17, op := Op.move (Operand.tmp 4), type := 3, pos := "l1_hash.go:57", after := _, guard := none }) (v := ?_) rfl (by kernel_rfl) (by kernel_rfl) (by kernel_rfl) (fun _ _ _ h => h) (Or.inl ⟨by rfl, ?_⟩) (by assumption) ?_
      rotate_left
      · (intro w hSw; (try dsimp only at hSw); go_simp; (try with_reducible rfl))
      simp only [Act.put, List.setIfInBounds_toArray, List.set_cons_zero, List.set_cons_succ]
      refine wpAnyH_take (i := 3) (oi := { dst := some 18, op := Op.binOp BinOp.mul 3 (Operand.const (Value.int IntKind.i64 4)) (Operand.tmp 17) 3, type := 3, pos := "l1_hash.go:57", after := _, guard := none }) (v := ?_) rfl (by kernel_rfl) (by kernel_rfl) (by kernel_rfl) (fun _ _ _ h => h) (Or.inl ⟨by rfl, ?_⟩) (by assumption) ?_
      rotate_left
      · (intro w hSw; (try dsimp only at hSw); go_simp; (try with_reducible rfl))
      simp only [Act.put, List.setIfInBounds_toArray, List.set_cons_zero, List.set_cons_succ]
      refine wpAnyH_take (i := 4) (oi := { dst := some 19, op := Op.indexAddr 29 (Operand.tmp 16) (Operand.tmp 18), type := 0, pos := "l1_hash.go:57", after := _, guard := none }) (v := ?_) rfl (by kernel_rfl) (by kernel_rfl) (by kernel_rfl) (fun _ _ _ h => h) (Or.inl ⟨by rfl, ?_⟩) (by assumption) ?_
      rotate_left
      · (intro w hSw; (try dsimp only at hSw); go_simp; (try with_reducible rfl))
      simp only [Act.put, List.setIfInBounds_toArray, List.set_cons_zero, List.set_cons_succ]
      refine wpAnyH_take (i := 5) (oi := { dst := some 20, op := Op.load 5 (Operand.tmp 19), type := 5, pos := "l1_hash.go:57", after := _, guard := none }) (v := ?_) rfl (by kernel_rfl) (by kernel_rfl) (by kernel_rfl) (fun _ _ _ h => h) (Or.inl ⟨by rfl, ?_⟩) (by assumption) ?_
      rotate_left
      · (intro w hSw; (try dsimp only at hSw); go_simp; (try with_reducible rfl))
      simp only [Act.put, List.setIfInBounds_toArray, List.set_cons_zero, List.set_cons_succ]
      refine wpAnyH_take (i := 6) (oi := { dst := some 21, op := Op.convert 5 92 (Operand.tmp 20), type := 92, pos := "l1_hash.go:57", after := _, guard := none }) (v := ?_) rfl (by kernel_rfl) (by kernel_rfl) (by kernel_rfl) (fun _ _ _ h => h) (Or.inl ⟨by rfl, ?_⟩) (by assumption) ?_
      rotate_left
      · (intro w hSw; (try dsimp only at hSw); go_simp; (try with_reducible rfl))
      simp only [Act.put, List.setIfInBounds_toArray, List.set_cons_zero, List.set_cons_succ]
      refine wpAnyH_take (i := 7) (oi := { dst := some 22, op := Op.binOp BinOp.shl 92 (Operand.tmp 21) (Operand.const (Value.int IntKind.u64 24)) 111, type := 92, pos := "l1_hash.go:57", after := _, guard := none }) (v := ?_) rfl (by kernel_rfl) (by kernel_rfl) (by kernel_rfl) (fun _ _ _ h => h) (Or.inl ⟨by rfl, ?_⟩) (by assumption) ?_
      rotate_left
      · (intro w hSw; (try dsimp only at hSw); go_simp; (try with_reducible rfl))
      simp only [Act.put, List.setIfInBounds_toArray, List.set_cons_zero, List.set_cons_succ]
      refine wpAnyH_take (i := 8) (oi := { dst := some 23, op := Op.move (Operand.tmp 0), type := 29, pos := "l1_hash.go:57", after := _, guard := none }) (v := ?_) rfl (by kernel_rfl) (by kernel_rfl) (by kernel_rfl) (fun _ _ _ h => h) (Or.inl ⟨by rfl, ?_⟩) (by assumption) ?_
      rotate_left
      · (intro w hSw; (try dsimp only at hSw); go_simp; (try with_reducible rfl))
      simp only [Act.put, List.setIfInBounds_toArray, List.set_cons_zero, List.set_cons_succ]
      refine wpAnyH_take (i := 9) (oi := { dst := some 24, op := Op.move (Operand.tmp 4), type := 3, pos := "l1_hash.go:57", after := _, guard := none }) (v := ?_) rfl (by kernel_rfl) (by kernel_rfl) (by kernel_rfl) (fun _ _ _ h => h) (Or.inl ⟨by rfl, ?_⟩) (by assumption) ?_
      rotate_left
      · (intro w hSw; (try dsimp only at hSw); go_simp; (try with_reducible rfl))
      simp only [Act.put, List.setIfInBounds_toArray, List.set_cons_zero, List.set_cons_succ]
      refine wpAnyH_take (i := 10) (oi := { dst := some 25, op := Op.binOp BinOp.mul 3 (Operand.const (Value.int IntKind.i64 4)) (Operand.tmp 24) 3, type := 3, pos := "l1_hash.go:57", after := _, guard := none }) (v := ?_) rfl (by kernel_rfl) (by kernel_rfl) (by kernel_rfl) (fun _ _ _ h => h) (Or.inl ⟨by rfl, ?_⟩) (by assumption) ?_
      rotate_left
      · (intro w hSw; (try dsimp only at hSw); go_simp; (try with_reducible rfl))
      simp only [Act.put, List.setIfInBounds_toArray, List.set_cons_zero, List.set_cons_succ]
      refine wpAnyH_take (i := 11) (oi := { dst := some 26, op := Op.binOp BinOp.add 3 (Operand.tmp 25) (Operand.const (Value.int IntKind.i64 1)) 3, type := 3, pos := "l1_hash.go:57", after := _, guard := none }) (v := ?_) rfl (by kernel_rfl) (by kernel_rfl) (by kernel_rfl) (fun _ _ _ h => h) (Or.inl ⟨by rfl, ?_⟩) (by assumption) ?_
      rotate_left
      · (intro w hSw; (try dsimp only at hSw); go_simp; (try with_reducible rfl))
      simp only [Act.put, List.setIfInBounds_toArray, List.set_cons_zero, List.set_cons_succ]
      refine wpAnyH_take (i := 12) (oi := { dst := some 27, op := Op.indexAddr 29 (Operand.tmp 23) (Operand.tmp 26), type := 0, pos := "l1_hash.go:57", after := _, guard := none }) (v := ?_) rfl (by kernel_rfl) (by kernel_rfl) (by kernel_rfl) (fun _ _ _ h => h) (Or.inl ⟨by rfl, ?_⟩) (by assumption) ?_
      rotate_left
      · (intro w hSw; (try dsimp only at hSw); go_simp; (try with_reducible rfl))
      simp only [Act.put, List.setIfInBounds_toArray, List.set_cons_zero, List.set_cons_succ]
      refine wpAnyH_take (i := 13) (oi := { dst := some 28, op := Op.load 5 (Operand.tmp 27), type := 5, pos := "l1_hash.go:57", after := _, guard := none }) (v := ?_) rfl (by kernel_rfl) (by kernel_rfl) (by kernel_rfl) (fun _ _ _ h => h) (Or.inl ⟨by rfl, ?_⟩) (by assumption) ?_
      rotate_left
      · (intro w hSw; (try dsimp only at hSw); go_simp; (try with_reducible rfl))
      simp only [Act.put, List.setIfInBounds_toArray, List.set_cons_zero, List.set_cons_succ]
      refine wpAnyH_take (i := 14) (oi := { dst := some 29, op := Op.convert 5 92 (Operand.tmp 28), type := 92, pos := "l1_hash.go:57", after := _, guard := none }) (v := ?_) rfl (by kernel_rfl) (by kernel_rfl) (by kernel_rfl) (fun _ _ _ h => h) (Or.inl ⟨by rfl, ?_⟩) (by assumption) ?_
      rotate_left
      · (intro w hSw; (try dsimp only at hSw); go_simp; (try with_reducible rfl))
      simp only [Act.put, List.setIfInBounds_toArray, List.set_cons_zero, List.set_cons_succ]
      refine wpAnyH_take (i := 15) (oi := { dst := some 30, op := Op.binOp BinOp.shl 92 (Operand.tmp 29) (Operand.const (Value.int IntKind.u64 16)) 111, type := 92, pos := "l1_hash.go:57", after := _, guard := none }) (v := ?_) rfl (by kernel_rfl) (by kernel_rfl) (by kernel_rfl) (fun _ _ _ h => h) (Or.inl ⟨by rfl, ?_⟩) (by assumption) ?_
      rotate_left
      · (intro w hSw; (try dsimp only at hSw); go_simp; (try with_reducible rfl))
      simp only [Act.put, List.setIfInBounds_toArray, List.set_cons_zero, List.set_cons_succ]
      refine wpAnyH_take (i := 16) (oi := { dst := some 31, op := Op.binOp BinOp.or 92 (Operand.tmp 22) (Operand.tmp 30) 92, type := 92, pos := "l1_hash.go:57", after := _, guard := none }) (v := ?_) rfl (by kernel_rfl) (by kernel_rfl) (by kernel_rfl) (fun _ _ _ h => h) (Or.inl ⟨by rfl, ?_⟩) (by assumption) ?_
      rotate_left
      · (intro w hSw; (try dsimp only at hSw); go_simp; (try with_reducible rfl))
      simp only [Act.put, List.setIfInBounds_toArray, List.set_cons_zero, List.set_cons_succ]
      refine wpAnyH_take (i := 17) (oi := { dst := some 32, op := Op.move (Operand.tmp 0), type := 29, pos := "l1_hash.go:57", after := _, guard := none }) (v := ?_) rfl (by kernel_rfl) (by kernel_rfl) (by kernel_rfl) (fun _ _ _ h => h) (Or.inl ⟨by rfl, ?_⟩) (by assumption) ?_
      rotate_left
      · (intro w hSw; (try dsimp only at hSw); go_simp; (try with_reducible rfl))
      simp only [Act.put, List.setIfInBounds_toArray, List.set_cons_zero, List.set_cons_succ]
      refine wpAnyH_take (i := 18) (oi := { dst := some 33, op := Op.move (Operand.tmp 4), type := 3, pos := "l1_hash.go:57", after := _, guard := none }) (v := ?_) rfl (by kernel_rfl) (by kernel_rfl) (by kernel_rfl) (fun _ _ _ h => h) (Or.inl ⟨by rfl, ?_⟩) (by assumption) ?_
      rotate_left
      · (intro w hSw; (try dsimp only at hSw); go_simp; (try with_reducible rfl))
      simp only [Act.put, List.setIfInBounds_toArray, List.set_cons_zero, List.set_cons_succ]
      refine wpAnyH_take (i := 19) (oi := { dst := some 34, op := Op.binOp BinOp.mul 3 (Operand.const (Value.int IntKind.i64 4)) (Operand.tmp 33) 3, type := 3, pos := "l1_hash.go:57", after := _, guard := none }) (v := ?_) rfl (by kernel_rfl) (by kernel_rfl) (by kernel_rfl) (fun _ _ _ h => h) (Or.inl ⟨by rfl, ?_⟩) (by assumption) ?_
      rotate_left
      · (intro w hSw; (try dsimp only at hSw); go_simp; (try with_reducible rfl))
      simp only [Act.put, List.setIfInBounds_toArray, List.set_cons_zero, List.set_cons_succ]
      refine wpAnyH_take (i := 20) (oi := { dst := some 35, op := Op.binOp BinOp.add 3 (Operand.tmp 34) (Operand.const (Value.int IntKind.i64 2)) 3, type := 3, pos := "l1_hash.go:57", after := _, guard := none }) (v := ?_) rfl (by kernel_rfl) (by kernel_rfl) (by kernel_rfl) (fun _ _ _ h => h) (Or.inl ⟨by rfl, ?_⟩) (by assumption) ?_
      rotate_left
      · (intro w hSw; (try dsimp only at hSw); go_simp; (try with_reducible rfl))
      simp only [Act.put, List.setIfInBounds_toArray, List.set_cons_zero, List.set_cons_succ]
      refine wpAnyH_take (i := 21) (oi := { dst := some 36, op := Op.indexAddr 29 (Operand.tmp 32) (Operand.tmp 35), type := 0, pos := "l1_hash.go:57", after := _, guard := none }) (v := ?_) rfl (by kernel_rfl) (by kernel_rfl) (by kernel_rfl) (fun _ _ _ h => h) (Or.inl ⟨by rfl, ?_⟩) (by assumption) ?_
      rotate_left
      · (intro w hSw; (try dsimp only at hSw); go_simp; (try with_reducible rfl))
      simp only [Act.put, List.setIfInBounds_toArray, List.set_cons_zero, List.set_cons_succ]
      refine wpAnyH_take (i := 22) (oi := { dst := some 37, op := Op.load 5 (Operand.tmp 36), type := 5, pos := "l1_hash.go:57", after := _, guard := none }) (v := ?_) rfl (by kernel_rfl) (by kernel_rfl) (by kernel_rfl) (fun _ _ _ h => h) (Or.inl ⟨by rfl, ?_⟩) (by assumption) ?_
      rotate_left
      · (intro w hSw; (try dsimp only at hSw); go_simp; (try with_reducible rfl))
      simp only [Act.put, List.setIfInBounds_toArray, List.set_cons_zero, List.set_cons_succ]
      refine wpAnyH_take (i := 23) (oi := { dst := some 38, op := Op.convert 5 92 (Operand.tmp 37), type := 92, pos := "l1_hash.go:57", after := _, guard := none }) (v := ?_) rfl (by kernel_rfl) (by kernel_rfl) (by kernel_rfl) (fun _ _ _ h => h) (Or.inl ⟨by rfl, ?_⟩) (by assumption) ?_
      rotate_left
      · (intro w hSw; (try dsimp only at hSw); go_simp; (try with_reducible rfl))
      simp only [Act.put, List.setIfInBounds_toArray, List.set_cons_zero, List.set_cons_succ]
      refine wpAnyH_take (i := 24) (oi := { dst := some 39, op := Op.binOp BinOp.shl 92 (Operand.tmp 38) (Operand.const (Value.int IntKind.u64 8)) 111, type := 92, pos := "l1_hash.go:57", after := _, guard := none }) (v := ?_) rfl (by kernel_rfl) (by kernel_rfl) (by kernel_rfl) (fun _ _ _ h => h) (Or.inl ⟨by rfl, ?_⟩) (by assumption) ?_
      rotate_left
      · (intro w hSw; (try dsimp only at hSw); go_simp; (try with_reducible rfl))
      simp only [Act.put, List.setIfInBounds_toArray, List.set_cons_zero, List.set_cons_succ]
      refine wpAnyH_take (i := 25) (oi := { dst := some 40, op := Op.binOp BinOp.or 92 (Operand.tmp 31) (Operand.tmp 39) 92, type := 92, pos := "l1_hash.go:57", after := _, guard := none }) (v := ?_) rfl (by kernel_rfl) (by kernel_rfl) (by kernel_rfl) (fun _ _ _ h => h) (Or.inl ⟨by rfl, ?_⟩) (by assumption) ?_
      rotate_left
      · (intro w hSw; (try dsimp only at hSw); go_simp; (try with_reducible rfl))
      simp only [Act.put, List.setIfInBounds_toArray, List.set_cons_zero, List.set_cons_succ]
      refine wpAnyH_take (i := 26) (oi := { dst := some 41, op := Op.move (Operand.tmp 0), type := 29, pos := "l1_hash.go:57", after := _, guard := none }) (v := ?_) rfl (by kernel_rfl) (by kernel_rfl) (by kernel_rfl) (fun _ _ _ h => h) (Or.inl ⟨by rfl, ?_⟩) (by assumption) ?_
      rotate_left
      · (intro w hSw; (try dsimp only at hSw); go_simp; (try with_reducible rfl))
      simp only [Act.put, List.setIfInBounds_toArray, List.set_cons_zero, List.set_cons_succ]
      refine wpAnyH_take (i := 27) (oi := { dst := some 42, op := Op.move (Operand.tmp 4), type := 3, pos := "l1_hash.go:57", after := _, guard := none }) (v := ?_) rfl (by kernel_rfl) (by kernel_rfl) (by kernel_rfl) (fun _ _ _ h => h) (Or.inl ⟨by rfl, ?_⟩) (by assumption) ?_
      rotate_left
      · (intro w hSw; (try dsimp only at hSw); go_simp; (try with_reducible rfl))
      simp only [Act.put, List.setIfInBounds_toArray, List.set_cons_zero, List.set_cons_succ]
      refine wpAnyH_take (i := 28) (oi := { dst := some 43, op := Op.binOp BinOp.mul 3 (Operand.const (Value.int IntKind.i64 4)) (Operand.tmp 42) 3, type := 3, pos := "l1_hash.go:57", after := _, guard := none }) (v := ?_) rfl (by kernel_rfl) (by kernel_rfl) (by kernel_rfl) (fun _ _ _ h => h) (Or.inl ⟨by rfl, ?_⟩) (by assumption) ?_
      rotate_left
      · (intro w hSw; (try dsimp only at hSw); go_simp; (try with_reducible rfl))
      simp only [Act.put, List.setIfInBounds_toArray, List.set_cons_zero, List.set_cons_succ]
      refine wpAnyH_take (i := 29) (oi := { dst := some 44, op := Op.binOp BinOp.add 3 (Operand.tmp 43) (Operand.const (Value.int IntKind.i64 3)) 3, type := 3, pos := "l1_hash.go:57", after := _, guard := none }) (v := ?_) rfl (by kernel_rfl) (by kernel_rfl) (by kernel_rfl) (fun _ _ _ h => h) (Or.inl ⟨by rfl, ?_⟩) (by assumption) ?_
      rotate_left
      · (intro w hSw; (try dsimp only at hSw); go_simp; (try with_reducible rfl))
      simp only [Act.put, List.setIfInBounds_toArray, List.set_cons_zero, List.set_cons_succ]
      refine wpAnyH_take (i := 30) (oi := { dst := some 45, op := Op.indexAddr 29 (Operand.tmp 41) (Operand.tmp 44), type := 0, pos := "l1_hash.go:57", after := _, guard := none }) (v := ?_) rfl (by kernel_rfl) (by kernel_rfl) (by kernel_rfl) (fun _ _ _ h => h) (Or.inl ⟨by rfl, ?_⟩) (by assumption) ?_
      rotate_left
      · (intro w hSw; (try dsimp only at hSw); go_simp; (try with_reducible rfl))
      simp only [Act.put, List.setIfInBounds_toArray, List.set_cons_zero, List.set_cons_succ]
      refine wpAnyH_take (i := 31) (oi := { dst := some 46, op := Op.load 5 (Operand.tmp 45), type := 5, pos := "l1_hash.go:57", after := _, guard := none }) (v := ?_) rfl (by kernel_rfl) (by kernel_rfl) (by kernel_rfl) (fun _ _ _ h => h) (Or.inl ⟨by rfl, ?_⟩) (by assumption) ?_
      rotate_left
      · (intro w hSw; (try dsimp only at hSw); go_simp; (try with_reducible rfl))
      simp only [Act.put, List.setIfInBounds_toArray, List.set_cons_zero, List.set_cons_succ]
      refine wpAnyH_take (i := 32) (oi := { dst := some 47, op := Op.convert 5 92 (Operand.tmp 46), type := 92, pos := "l1_hash.go:57", after := _, guard := none }) (v := ?_) rfl (by kernel_rfl) (by kernel_rfl) (by kernel_rfl) (fun _ _ _ h => h) (Or.inl ⟨by rfl, ?_⟩) (by assumption) ?_
      rotate_left
      · (intro w hSw; (try dsimp only at hSw); go_simp; (try with_reducible rfl))
      simp only [Act.put, List.setIfInBounds_toArray, List.set_cons_zero, List.set_cons_succ]
      refine wpAnyH_take (i := 33) (oi := { dst := some 48, op := Op.binOp BinOp.or 92 (Operand.tmp 40) (Operand.tmp 47) 92, type := 92, pos := "l1_hash.go:57", after := _, guard := none }) (v := ?_) rfl (by kernel_rfl) (by kernel_rfl) (by kernel_rfl) (fun _ _ _ h => h) (Or.inl ⟨by rfl, ?_⟩) (by assumption) ?_
      rotate_left
      · (intro w hSw; (try dsimp only at hSw); go_simp; (try with_reducible rfl))
      simp only [Act.put, List.setIfInBounds_toArray, List.set_cons_zero, List.set_cons_succ]
      rw [HV.out]
      refine wpAnyH_ready (rs := [34]) (by kernel_rfl) (by simp) ?_
      refine AllReadyH.cons (o := { dst := some 49, op := Op.buildSlice 113 1 #[(0, Operand.tmp 48)], type := 113, pos := "l1_hash.go:57", after := _, guard := none }) rfl (fun K hK => ?_) AllReadyH.nil
      go_simp
      refine hK.out _ _ ?_ (fun hHeld => ?_)
      · exact ⟨cell_bel (bel_d _ _) c0, cell_bel (bel_d _ _) c1, cell_bel (bel_d _ _) c2, cell_bel (bel_d _ _) c3⟩
      clear hK K
      (try simp only [Act.put, List.setIfInBounds_toArray, List.set_cons_zero, List.set_cons_succ])
      refine wpAnyH_ready (rs := [35]) (by kernel_rfl) (by simp) ?_
      refine AllReadyH.cons (o := { dst := some 50, op := Op.call { callee := Callee.builtin Builtin.append, args := #[Operand.tmp 15, Operand.tmp 49], argTypes := #[113, 113] }, type := 113, pos := "l1_hash.go:57", after := _, guard := none }) rfl (fun K hK => ?_) AllReadyH.nil
      refine step_append_ownM _ rfl (.tmp 15) (.tmp 49) 113 rfl w.heap.size 92 i0 (.int .u32 0) 1 4 Tryd.underlying113 hi hz0 hz1 hz2 rfl (by decide) (.slice a k c) k (uvs (sched l k)) rfl ((HO.out.alloc _).below ((Below.refl _ _).drew)) ⟨wr.heap.size, 0, none⟩ 1 1 [uv (wordW l k)] rfl rfl (cells_one _ _ _) (fun u hu => by simp at hu; subst hu; rfl) (by unfold maxLen; omega) (by omega) (by simp; omega) ?_
      intro v2 w2 o2 g2 _
      have B2 : Below w.heap.size w w2 := ((HB.out.alloc hbz _).drew).grown g2 (by simp; omega) (fun q hq => (HO.out.lt q hq).1)
      have O2 := Lib.hid (ownsM_cast (m := k + 1) (ys := uvs (sched l (k + 1))) o2 rfl (by rw [sched_next, uvs_snoc, HWN.out]))
      clear o2 g2
      refine hK.out _ _ ?_ (fun hHeld => ?_)
      · exact ⟨cell_two HB.out B2 hbb c0, cell_two HB.out B2 hbb c1, cell_two HB.out B2 hbb c2, cell_two HB.out B2 hbb c3⟩
      clear hK K
      (try simp only [Act.put, List.setIfInBounds_toArray, List.set_cons_zero, List.set_cons_succ])
      refine wpAnyH_take (i := 36) (oi := { dst := some 3, op := Op.assign (Operand.tmp 50), type := 113, pos := "l1_hash.go:57", after := _, guard := none }) (v := ?_) rfl (by kernel_rfl) (by kernel_rfl) (by kernel_rfl) (fun _ _ _ h => h) (Or.inl ⟨by rfl, ?_⟩) (by assumption) ?_
      rotate_left
      · (intro w hSw; (try dsimp only at hSw); go_simp; (try with_reducible rfl))
      simp only [Act.put, List.setIfInBounds_toArray, List.set_cons_zero, List.set_cons_succ]
      refine wpAnyH_done (by kernel_rfl) ?_ _
      have HB2 := Lib.hid B2
      clear B2 hHeld c0 c1 c2 c3
      go_wp2
      go_roundg (gk - 1)
      case measure => have := HK.out; omega
      case rel => exact ⟨k + 1, by have := HK.out; omega, by go_num, O2.out, HB2.out⟩
    · obtain rfl : k = 16 := by omega
      clear hk
      go_wp2
      go_loopg [3, 5] 48 (fun g v v5 wr => ∃ i : Nat, i + g = 64 ∧ 16 ≤ i ∧ v5 = .int .i64 i ∧ OwnsM wr w.heap.size 92 1 v i (uvs (sched l i)) ∧ Below w.heap.size w wr)
      case atStart => exact ⟨16, by omega, by omega, rfl, HO.out, HB.out⟩
      case round =>
        clear HO HB hbz HK
        obtain ⟨i, hi, hi16, rfl, ho, hbel⟩ := hrel
        obtain ⟨g0, c0, rfl, hbg, hglt, hnc, hcm, hcell⟩ := ho.at (by omega)
        have HO := Lib.hid ho
        have HB := Lib.hid hbel
        have hbz := hbel.size
        have HI := Lib.hid hi
        have hi64 : i ≤ 64 := by omega
        clear ho hbel hi
        by_cases hl : i < 64
        · have hi64 : (i : Int) < 64 := by omega
          have hi00 : (0 : Int) ≤ (i : Int) := by omega
          obtain ⟨q15, hq15⟩ : ∃ q, q = i - 15 := ⟨_, rfl⟩
          have hk15 : (i : Int) - 15 = (q15 : Int) := by omega
          have hv15 : IntKind.i64.wrap (q15 : Int) = (q15 : Int) := wrapN (by omega)
          have hu15 : (0 : Int) ≤ (q15 : Int) := by omega
          have ht15 : (q15 : Int) < (i : Int) := by omega
          obtain ⟨far, hfar⟩ : ∃ x, x = (sched l i).getD q15 0 := ⟨_, rfl⟩
          have y15 : wr.cell? ⟨g0, q15, none⟩ = some (.int .u32 (far.toNat : Int)) := by
            rw [hcell q15 _ (sched_get l (show q15 < i by omega)), hfar]; rfl
          obtain ⟨q2, hq2⟩ : ∃ q, q = i - 2 := ⟨_, rfl⟩
          have hk2 : (i : Int) - 2 = (q2 : Int) := by omega
          have hv2 : IntKind.i64.wrap (q2 : Int) = (q2 : Int) := wrapN (by omega)
          have hu2 : (0 : Int) ≤ (q2 : Int) := by omega
          have ht2 : (q2 : Int) < (i : Int) := by omega
          obtain ⟨near, hnear⟩ : ∃ x, x = (sched l i).getD q2 0 := ⟨_, rfl⟩
          have y2 : wr.cell? ⟨g0, q2, none⟩ = some (.int .u32 (near.toNat : Int)) := by
            rw [hcell q2 _ (sched_get l (show q2 < i by omega)), hnear]; rfl
          obtain ⟨q16, hq16⟩ : ∃ q, q = i - 16 := ⟨_, rfl⟩
          have hk16 : (i : Int) - 16 = (q16 : Int) := by omega
          have hv16 : IntKind.i64.wrap (q16 : Int) = (q16 : Int) := wrapN (by omega)
          have hu16 : (0 : Int) ≤ (q16 : Int) := by omega
          have ht16 : (q16 : Int) < (i : Int) := by omega
          obtain ⟨wa, hwa⟩ : ∃ x, x = (sched l i).getD q16 0 := ⟨_, rfl⟩
          have y16 : wr.cell? ⟨g0, q16, none⟩ = some (.int .u32 (wa.toNat : Int)) := by
            rw [hcell q16 _ (sched_get l (show q16 < i by omega)), hwa]; rfl
          obtain ⟨q7, hq7⟩ : ∃ q, q = i - 7 := ⟨_, rfl⟩
          have hk7 : (i : Int) - 7 = (q7 : Int) := by omega
          have hv7 : IntKind.i64.wrap (q7 : Int) = (q7 : Int) := wrapN (by omega)
          have hu7 : (0 : Int) ≤ (q7 : Int) := by omega
          have ht7 : (q7 : Int) < (i : Int) := by omega
          obtain ⟨wb, hwb⟩ : ∃ x, x = (sched l i).getD q7 0 := ⟨_, rfl⟩
          have y7 : wr.cell? ⟨g0, q7, none⟩ = some (.int .u32 (wb.toNat : Int)) := by
            rw [hcell q7 _ (sched_get l (show q7 < i by omega)), hwb]; rfl
          have HW := Lib.hid (show nextW l i = wa + sg0 far + wb + sg1 near by unfold nextW; rw [if_neg (by omega), hwa, hwb, hfar, hnear, hq16, hq15, hq7, hq2])
          have Y16 := Lib.hid (show (uvs (sched l i))[q16]? = some (uv wa) by rw [sched_get l (show q16 < i by omega), hwa])
          have Y7 := Lib.hid (show (uvs (sched l i))[q7]? = some (uv wb) by rw [sched_get l (show q7 < i by omega), hwb])
          clear hcell hq15 hq2 hq16 hq7 hfar hnear hwa hwb
          go_wp2_with (go_at_call 98; refine (turn_p _ _ (by decide) _).mono ?_; rintro e w1 ⟨rfl, q1, rfl⟩)
          have y16n : (wr.drewN q1).cell? ⟨g0, q16, none⟩ = some (.int .u32 (wa.toNat : Int)) := y16
          have y7n : (wr.drewN q1).cell? ⟨g0, q7, none⟩ = some (.int .u32 (wb.toNat : Int)) := y7
          have HV := Lib.hid (show IntKind.u32.wrap (IntKind.u32.wrap (IntKind.u32.wrap ((wa.toNat : Int) + bits .xor .u32 (bits .xor .u32 ((rotr far 7).toNat : Int) ((rotr far 18).toNat : Int)) ((far.toNat : Int) / 8)) + (wb.toNat : Int)) + bits .xor .u32 (bits .xor .u32 ((rotr near 17).toNat : Int) ((rotr near 19).toNat : Int)) ((near.toNat : Int) / 1024)) = ((nextW l i).toNat : Int) by
            have e3 : (far.toNat : Int) / (8 : Int) = ((far >>> 3).toNat : Int) := uv_div far 3
            have e10 : (near.toNat : Int) / (1024 : Int) = ((near >>> 10).toNat : Int) := uv_div near 10
            rw [e3, e10, HW.out]
            simp only [uv_xor, uv_add]
            rfl)
          refine wp_region_held_drew (S := fun W => W.cell? ⟨g0, q16, none⟩ = some (.int .u32 (wa.toNat : Int)) ∧ W.cell? ⟨g0, q7, none⟩ = some (.int .u32 (wb.toNat : Int))) (by kernel_rfl) (⟨y16n, y7n⟩) (fun hHeld => ?_)
          refine wpAnyH_take (i := 0) (oi := { dst := some 81, op := Op.move (Operand.tmp 3), type := 113, pos := "l1_hash.go:64", after := _, guard := none }) (v := ?_) rfl (by kernel_rfl) (by kernel_rfl) (by kernel_rfl) (fun _ _ _ h => h) (Or.inl ⟨by rfl, ?_⟩) (by assumption) ?_
          rotate_left
          · (intro w hSw; (try dsimp only at hSw); go_simp; (try with_reducible rfl))
          simp only [Act.put, List.setIfInBounds_toArray, List.set_cons_zero, List.set_cons_succ]
          refine wpAnyH_take (i := 1) (oi := { dst := some 82, op := Op.move (Operand.tmp 3), type := 113, pos := "l1_hash.go:64", after := _, guard := none }) (v := ?_) rfl (by kernel_rfl) (by kernel_rfl) (by kernel_rfl) (fun _ _ _ h => h) (Or.inl ⟨by rfl, ?_⟩) (by assumption) ?_
          rotate_left
          · (intro w hSw; (try dsimp only at hSw); go_simp; (try with_reducible rfl))
          simp only [Act.put, List.setIfInBounds_toArray, List.set_cons_zero, List.set_cons_succ]
          refine wpAnyH_take (i := 2) (oi := { dst := some 83, op := Op.move (Operand.tmp 5), type := 3, pos := "l1_hash.go:64", after := _, guard := none }) (v := ?_) rfl (by kernel_rfl) (by kernel_rfl) (by kernel_rfl) (fun _ _ _ h => h) (Or.inl ⟨by rfl, ?_⟩) (by assumption) ?_
          rotate_left
          · (intro w hSw; (try dsimp only at hSw); go_simp; (try with_reducible rfl))
          simp only [Act.put, List.setIfInBounds_toArray, List.set_cons_zero, List.set_cons_succ]
          refine wpAnyH_take (i := 3) (oi := { dst := some 84, op := Op.binOp BinOp.sub 3 (Operand.tmp 83) (Operand.const (Value.int IntKind.i64 16)) 3, type := 3, pos := "l1_hash.go:64", after := _, guard := none }) (v := ?_) rfl (by kernel_rfl) (by kernel_rfl) (by kernel_rfl) (fun _ _ _ h => h) (Or.inl ⟨by rfl, ?_⟩) (by assumption) ?_
          rotate_left
          · (intro w hSw; (try dsimp only at hSw); go_simp; (try with_reducible rfl))
          simp only [Act.put, List.setIfInBounds_toArray, List.set_cons_zero, List.set_cons_succ]
          refine wpAnyH_take (i := 4) (oi := { dst := some 85, op := Op.indexAddr 113 (Operand.tmp 82) (Operand.tmp 84), type := 0, pos := "l1_hash.go:64", after := _, guard := none }) (v := ?_) rfl (by kernel_rfl) (by kernel_rfl) (by kernel_rfl) (fun _ _ _ h => h) (Or.inl ⟨by rfl, ?_⟩) (by assumption) ?_
          rotate_left
          · (intro w hSw; (try dsimp only at hSw); go_simp; (try with_reducible rfl))
          simp only [Act.put, List.setIfInBounds_toArray, List.set_cons_zero, List.set_cons_succ]
          refine wpAnyH_take (i := 5) (oi := { dst := some 86, op := Op.load 92 (Operand.tmp 85), type := 92, pos := "l1_hash.go:64", after := _, guard := none }) (v := ?_) rfl (by kernel_rfl) (by kernel_rfl) (by kernel_rfl) (fun _ _ _ h => h) (Or.inl ⟨by rfl, ?_⟩) (by assumption) ?_
          rotate_left
          · (intro w hSw; (try dsimp only at hSw); go_simp; (try with_reducible rfl))
          simp only [Act.put, List.setIfInBounds_toArray, List.set_cons_zero, List.set_cons_succ]
          refine wpAnyH_take (i := 6) (oi := { dst := some 87, op := Op.move (Operand.tmp 8), type := 92, pos := "l1_hash.go:64", after := _, guard := none }) (v := ?_) rfl (by kernel_rfl) (by kernel_rfl) (by kernel_rfl) (fun _ _ _ h => h) (Or.inl ⟨by rfl, ?_⟩) (by assumption) ?_
          rotate_left
          · (intro w hSw; (try dsimp only at hSw); go_simp; (try with_reducible rfl))
          simp only [Act.put, List.setIfInBounds_toArray, List.set_cons_zero, List.set_cons_succ]
          refine wpAnyH_take (i := 7) (oi := { dst := some 88, op := Op.binOp BinOp.add 92 (Operand.tmp 86) (Operand.tmp 87) 92, type := 92, pos := "l1_hash.go:64", after := _, guard := none }) (v := ?_) rfl (by kernel_rfl) (by kernel_rfl) (by kernel_rfl) (fun _ _ _ h => h) (Or.inl ⟨by rfl, ?_⟩) (by assumption) ?_
          rotate_left
          · (intro w hSw; (try dsimp only at hSw); go_simp; (try with_reducible rfl))
          simp only [Act.put, List.setIfInBounds_toArray, List.set_cons_zero, List.set_cons_succ]
          refine wpAnyH_take (i := 8) (oi := { dst := some 89, op := Op.move (Operand.tmp 3), type := 113, pos := "l1_hash.go:64", after := _, guard := none }) (v := ?_) rfl (by kernel_rfl) (by kernel_rfl) (by kernel_rfl) (fun _ _ _ h => h) (Or.inl ⟨by rfl, ?_⟩) (by assumption) ?_
          rotate_left
          · (intro w hSw; (try dsimp only at hSw); go_simp; (try with_reducible rfl))
          simp only [Act.put, List.setIfInBounds_toArray, List.set_cons_zero, List.set_cons_succ]
          refine wpAnyH_take (i := 9) (oi := { dst := some 90, op := Op.move (Operand.tmp 5), type := 3, pos := "l1_hash.go:64", after := _, guard := none }) (v := ?_) rfl (by kernel_rfl) (by kernel_rfl) (by kernel_rfl) (fun _ _ _ h => h) (Or.inl ⟨by rfl, ?_⟩) (by assumption) ?_
          rotate_left
          · (intro w hSw; (try dsimp only at hSw); go_simp; (try with_reducible rfl))
          simp only [Act.put, List.setIfInBounds_toArray, List.set_cons_zero, List.set_cons_succ]
          refine wpAnyH_take (i := 10) (oi := { dst := some 91, op := Op.binOp BinOp.sub 3 (Operand.tmp 90) (Operand.const (Value.int IntKind.i64 7)) 3, type := 3, pos := "l1_hash.go:64", after := _, guard := none }) (v := ?_) rfl (by kernel_rfl) (by kernel_rfl) (by kernel_rfl) (fun _ _ _ h => h) (Or.inl ⟨by rfl, ?_⟩) (by assumption) ?_
          rotate_left
          · (intro w hSw; (try dsimp only at hSw); go_simp; (try with_reducible rfl))
          simp only [Act.put, List.setIfInBounds_toArray, List.set_cons_zero, List.set_cons_succ]
          refine wpAnyH_take (i := 11) (oi := { dst := some 92, op := Op.indexAddr 113 (Operand.tmp 89) (Operand.tmp 91), type := 0, pos := "l1_hash.go:64", after := _, guard := none }) (v := ?_) rfl (by kernel_rfl) (by kernel_rfl) (by kernel_rfl) (fun _ _ _ h => h) (Or.inl ⟨by rfl, ?_⟩) (by assumption) ?_
          rotate_left
          · (intro w hSw; (try dsimp only at hSw); go_simp; (try with_reducible rfl))
          simp only [Act.put, List.setIfInBounds_toArray, List.set_cons_zero, List.set_cons_succ]
          refine wpAnyH_take (i := 12) (oi := { dst := some 93, op := Op.load 92 (Operand.tmp 92), type := 92, pos := "l1_hash.go:64", after := _, guard := none }) (v := ?_) rfl (by kernel_rfl) (by kernel_rfl) (by kernel_rfl) (fun _ _ _ h => h) (Or.inl ⟨by rfl, ?_⟩) (by assumption) ?_
          rotate_left
          · (intro w hSw; (try dsimp only at hSw); go_simp; (try with_reducible rfl))
          simp only [Act.put, List.setIfInBounds_toArray, List.set_cons_zero, List.set_cons_succ]
          refine wpAnyH_take (i := 13) (oi := { dst := some 94, op := Op.binOp BinOp.add 92 (Operand.tmp 88) (Operand.tmp 93) 92, type := 92, pos := "l1_hash.go:64", after := _, guard := none }) (v := ?_) rfl (by kernel_rfl) (by kernel_rfl) (by kernel_rfl) (fun _ _ _ h => h) (Or.inl ⟨by rfl, ?_⟩) (by assumption) ?_
          rotate_left
          · (intro w hSw; (try dsimp only at hSw); go_simp; (try with_reducible rfl))
          simp only [Act.put, List.setIfInBounds_toArray, List.set_cons_zero, List.set_cons_succ]
          refine wpAnyH_take (i := 14) (oi := { dst := some 95, op := Op.move (Operand.tmp 9), type := 92, pos := "l1_hash.go:64", after := _, guard := none }) (v := ?_) rfl (by kernel_rfl) (by kernel_rfl) (by kernel_rfl) (fun _ _ _ h => h) (Or.inl ⟨by rfl, ?_⟩) (by assumption) ?_
          rotate_left
          · (intro w hSw; (try dsimp only at hSw); go_simp; (try with_reducible rfl))
          simp only [Act.put, List.setIfInBounds_toArray, List.set_cons_zero, List.set_cons_succ]
          refine wpAnyH_take (i := 15) (oi := { dst := some 96, op := Op.binOp BinOp.add 92 (Operand.tmp 94) (Operand.tmp 95) 92, type := 92, pos := "l1_hash.go:64", after := _, guard := none }) (v := ?_) rfl (by kernel_rfl) (by kernel_rfl) (by kernel_rfl) (fun _ _ _ h => h) (Or.inl ⟨by rfl, ?_⟩) (by assumption) ?_
          rotate_left
          · (intro w hSw; (try dsimp only at hSw); go_simp; (try with_reducible rfl))
          simp only [Act.put, List.setIfInBounds_toArray, List.set_cons_zero, List.set_cons_succ]
          rw [HV.out]
          refine wpAnyH_ready (rs := [16]) (by kernel_rfl) (by simp) ?_
          refine AllReadyH.cons (o := { dst := some 97, op := Op.buildSlice 113 1 #[(0, Operand.tmp 96)], type := 113, pos := "l1_hash.go:64", after := _, guard := none }) rfl (fun K hK => ?_) AllReadyH.nil
          go_simp
          refine hK.out _ _ ?_ (fun hHeld => ?_)
          · exact ⟨cell_bel (bel_d _ _) y16n, cell_bel (bel_d _ _) y7n⟩
          clear hK K
          (try simp only [Act.put, List.setIfInBounds_toArray, List.set_cons_zero, List.set_cons_succ])
          refine wpAnyH_ready (rs := [17]) (by kernel_rfl) (by simp) ?_
          refine AllReadyH.cons (o := { dst := some 98, op := Op.call { callee := Callee.builtin Builtin.append, args := #[Operand.tmp 81, Operand.tmp 97], argTypes := #[113, 113] }, type := 113, pos := "l1_hash.go:64", after := _, guard := none }) rfl (fun K hK => ?_) AllReadyH.nil
          refine step_append_ownM _ rfl (.tmp 81) (.tmp 97) 113 rfl w.heap.size 92 i0 (.int .u32 0) 1 4 Tryd.underlying113 hi hz0 hz1 hz2 rfl (by decide) (.slice (some ⟨g0, 0, none⟩) i c0) i (uvs (sched l i)) rfl ((HO.out.below (belDrewH (Below.refl _ _) _)).alloc _) ⟨wr.heap.size, 0, none⟩ 1 1 [uv (nextW l i)] rfl rfl (cells_one _ _ _) (fun u hu => by simp at hu; subst hu; rfl) (by unfold maxLen; omega) (by omega) (by simp; omega) ?_
          intro v2 w2 o2 g2 m2
          have B2 := Lib.hid (show Below w.heap.size w w2 from ((belDrewH HB.out _).alloc hbz _).grown g2 (by simp; omega) (fun q hq => (HO.out.lt q hq).1))
          have O2 := Lib.hid (ownsM_cast (m := i + 1) (ys := uvs (sched l (i + 1))) o2 rfl (by rw [sched_next, uvs_snoc]))
          clear o2 g2
          refine hK.out _ _ ?_ (fun hHeld => ?_)
          · exact ⟨m2 g0 q16 _ rfl (by rw [Y16.out]; rfl), m2 g0 q7 _ rfl (by rw [Y7.out]; rfl)⟩
          clear hK K
          (try simp only [Act.put, List.setIfInBounds_toArray, List.set_cons_zero, List.set_cons_succ])
          refine wpAnyH_take (i := 18) (oi := { dst := some 3, op := Op.assign (Operand.tmp 98), type := 113, pos := "l1_hash.go:64", after := _, guard := none }) (v := ?_) rfl (by kernel_rfl) (by kernel_rfl) (by kernel_rfl) (fun _ _ _ h => h) (Or.inl ⟨by rfl, ?_⟩) (by assumption) ?_
          rotate_left
          · (intro w hSw; (try dsimp only at hSw); go_simp; (try with_reducible rfl))
          simp only [Act.put, List.setIfInBounds_toArray, List.set_cons_zero, List.set_cons_succ]
          refine wpAnyH_done (by kernel_rfl) ?_ _
          clear hHeld m2
          go_wp2
          go_roundg (gk - 1)
          case measure => have := HI.out; omega
          case rel => exact ⟨i + 1, by have := HI.out; omega, by omega, by go_num, O2.out, B2.out⟩
        · obtain rfl : i = 64 := by omega
          go_wp2
          go_ret
          exact ⟨_, rfl, ownsM_cast HO.out (by rw [sched_len]) rfl, HB.out⟩
end Go.Proofs.YtfekpbkcidhbfaaDoor
