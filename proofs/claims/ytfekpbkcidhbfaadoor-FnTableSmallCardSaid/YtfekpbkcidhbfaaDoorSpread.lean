import Derived.Test.YtfekpbkcidhbfaaDoorMix
import Derived.Deep.RegionHeld3
/- The words of one block, by the program. -/
namespace Go.Proofs.YtfekpbkcidhbfaaDoor
open Go Go.RowKit

/-- the first i words, and noughts behind them -/
def padS (l : List UInt8) (i : Nat) : List W32 := sched l i ++ List.replicate (64 - i) 0
theorem padS_len (l : List UInt8) {i : Nat} (h : i ≤ 64) : (padS l i).length = 64 := by simp [padS, sched_len]; omega
theorem padS_get (l : List UInt8) {i j : Nat} (h : j < i) : (uvs (padS l i))[j]? = some (uv ((sched l i).getD j 0)) := by
  simp only [uvs, padS, List.getElem?_map]
  rw [List.getElem?_append_left (by rw [sched_len]; exact h)]
  simp [List.getD, List.getElem?_eq_getElem (show j < (sched l i).length by rw [sched_len]; exact h)]
theorem padS_at (l : List UInt8) {i : Nat} (h : i < 64) : ∃ v, (uvs (padS l i))[i]? = some v := ⟨_, List.getElem?_eq_getElem (by rw [uvs_len, padS_len l (by omega)]; exact h)⟩
/-- the word number i -/
def nextW (l : List UInt8) (i : Nat) : W32 := if i < 16 then wordW l i else (sched l i).getD (i-16) 0 + sg0 ((sched l i).getD (i-15) 0) + (sched l i).getD (i-7) 0 + sg1 ((sched l i).getD (i-2) 0)
theorem padS_next (l : List UInt8) {i : Nat} (h : i < 64) : (uvs (padS l i)).set i (uv (nextW l i)) = uvs (padS l (i + 1)) := by
  have e : padS l (i + 1) = (padS l i).set i (nextW l i) := by
    unfold padS
    rw [show 64 - i = (64 - (i + 1)) + 1 by omega, List.replicate_succ, List.set_append_right _ _ (by rw [sched_len]; exact Nat.le_refl _), sched_len, Nat.sub_self, List.set_cons_zero]
    show (sched l i ++ [nextW l i]) ++ _ = _
    rw [List.append_assoc]; rfl
  rw [e]
  simp [uvs, List.map_set]
theorem byteW_at (s : ByteArray) (j : Nat) (h : j < s.size) : ((byteW s.data.toList j).toNat : Int) = (s[j].toNat : Int) := by
  have e : s.data.toList.getD j 0 = s[j] := by
    simp [List.getD, List.getElem?_eq_getElem (show j < s.data.toList.length by simpa using h)]
    rfl
  unfold byteW
  rw [e]
  simp

theorem below_cells {B b : Nat} {a : World} (hb : B ≤ b) : ∀ (vs : List Value) (o : Nat) (w : World), Below B a w → Below B a (w.setCells b o vs)
  | [], _, _, h => h
  | v :: r, o, w, h => below_cells hb r (o + 1) _ (h.setCell (by exact hb) v)
theorem wrapN {n : Nat} (h : n ≤ 9223372036854775807) : IntKind.i64.wrap (n : Int) = (n : Int) := by
  unfold IntKind.wrap
  simp [IntKind.bits, IntKind.signed]
  omega

theorem Box.there {w : World} {b : Nat} {cs ds : List Value} (h : Box w b cs) (hl : ds.length = cs.length) : w.there b 0 ds.toArray.size := fun j hj => by
  have hj2 : j < cs.length := by rw [List.size_toArray] at hj; omega
  have h2 := h j cs[j] (List.getElem?_eq_getElem hj2)
  rw [Nat.zero_add]
  exact ⟨by rw [h2.1]; rfl, h2.2⟩
theorem padS_all (l : List UInt8) : padS l 64 = sched l 64 := by
  unfold padS
  rw [Nat.sub_self, List.replicate_zero, List.append_nil]
theorem results_row {P : Program} {fn : Func} {a : Tmp} {t : TypeId} (h : fn.results = #[.cell a t]) (tmps : Array Value) (w : World) (b : Nat) (hx : tmps.getD a undef = .pointer (some ⟨b, 0, none⟩)) (v : Value)
    (hl : (loadVar t ⟨b, 0, none⟩).run P w = .ok v w) : (results fn tmps).run P w = .ok v w := by
  have hx2 : tmps[a]?.getD undef = .pointer (some ⟨b, 0, none⟩) := by simpa using hx
  simp [results, h, hx2, asAddr, hl]

set_option maxRecDepth 100000 in
set_option maxHeartbeats 2000000 in
theorem spread_any (s : ByteArray) (hs : s.size = 64) (w : World) :
    Calls Tryd.prog 80 #[.string s] w fun e w' => e = .returned (.agg (uvs (sched s.data.toList 64)).toArray) ∧ Below w.heap.size w w' := by
  go_enter Tryd.func80, Tryd.ntmps80
  go_wp2
  go_loopw [11] (fun v wr => ∃ i : Nat, i ≤ 16 ∧ v = .int .i64 i ∧ Box wr (w.heap.size + 1) (uvs (padS s.data.toList i)) ∧ Box wr w.heap.size (uvs (List.replicate 64 0)) ∧ Below w.heap.size w wr) (fun v _ => 16 - (intOf v).toNat)
  case atStart =>
    have h1 := Box.alloc w (uvs (List.replicate 64 0)).toArray 105
    have h2 := Box.alloc (w.alloc (.cells (uvs (List.replicate 64 0)).toArray 105)) (uvs (List.replicate 64 0)).toArray 105
    rw [World.size_alloc] at h2
    exact ⟨0, Nat.zero_le _, rfl, h2, h1.below (below_alloc _ _), (below_alloc w _).alloc (by simp) _⟩
  case round =>
    obtain ⟨i, hi, rfl, hx, hz, hbel⟩ := hrel
    have HX := Lib.hid hx
    have HZ := Lib.hid hz
    by_cases hlt : i < 16
    · obtain ⟨v, hv⟩ := padS_at s.data.toList (show i < 64 by omega)
      obtain ⟨x0, f0⟩ := hx i v hv
      have HN := Lib.hid (padS_next s.data.toList (show i < 64 by omega))
      have HW := Lib.hid (show nextW s.data.toList i = wordW s.data.toList i by unfold nextW; rw [if_pos hlt])
      have hzs := hbel.size
      obtain ⟨p, hp⟩ : ∃ p, p = 4 * i := ⟨_, rfl⟩
      have hpi : (4 : Int) * (i : Int) = (p : Int) := by omega
      have hp0 : p < s.size := by omega
      have hp1 : p + 1 < s.size := by omega
      have hp2 : p + 2 < s.size := by omega
      have hp3 : p + 3 < s.size := by omega
      have HPP := Lib.hid hp
      obtain ⟨p1, hp1e⟩ : ∃ p1, p1 = p + 1 := ⟨_, rfl⟩
      obtain ⟨p2, hp2e⟩ : ∃ p2, p2 = p + 2 := ⟨_, rfl⟩
      obtain ⟨p3, hp3e⟩ : ∃ p3, p3 = p + 3 := ⟨_, rfl⟩
      rw [← hp1e] at hp1
      rw [← hp2e] at hp2
      rw [← hp3e] at hp3
      have hw1 : IntKind.i64.wrap ((p : Int) + 1) = (p1 : Int) := by rw [show (p : Int) + 1 = (p1 : Int) by omega]; exact wrapN (by omega)
      have hw2 : IntKind.i64.wrap ((p : Int) + 2) = (p2 : Int) := by rw [show (p : Int) + 2 = (p2 : Int) by omega]; exact wrapN (by omega)
      have hw3 : IntKind.i64.wrap ((p : Int) + 3) = (p3 : Int) := by rw [show (p : Int) + 3 = (p3 : Int) by omega]; exact wrapN (by omega)
      have hi64 : (i : Int) < 64 := by omega
      have hi00 : (0 : Int) ≤ (i : Int) := by omega
      have hpn : (0 : Int) ≤ (p : Int) := by omega
      have hq0 : (p : Int) < 64 := by omega
      have hq1 : (p1 : Int) < 64 := by omega
      have hq2 : (p2 : Int) < 64 := by omega
      have hq3 : (p3 : Int) < 64 := by omega
      have hm1 : (0 : Int) ≤ (p1 : Int) := by omega
      have hm2 : (0 : Int) ≤ (p2 : Int) := by omega
      have hm3 : (0 : Int) ≤ (p3 : Int) := by omega
      have HV := Lib.hid (show bits .or .u32 (bits .or .u32 (bits .or .u32 (IntKind.u32.wrap (IntKind.u32.wrap (s[p].toNat : Int) * 16777216)) (IntKind.u32.wrap (IntKind.u32.wrap (s[p1].toNat : Int) * 65536))) (IntKind.u32.wrap (IntKind.u32.wrap (s[p2].toNat : Int) * 256))) (IntKind.u32.wrap (s[p3].toNat : Int)) = ((nextW s.data.toList i).toNat : Int) by
        rw [← byteW_at s p hp0, ← byteW_at s p1 hp1, ← byteW_at s p2 hp2, ← byteW_at s p3 hp3]
        simp only [uv_wr]
        have e24 : ∀ x : W32, IntKind.u32.wrap ((x.toNat : Int) * 16777216) = ((x <<< 24).toNat : Int) := fun x => uv_shl x 24
        have e16 : ∀ x : W32, IntKind.u32.wrap ((x.toNat : Int) * 65536) = ((x <<< 16).toNat : Int) := fun x => uv_shl x 16
        have e8 : ∀ x : W32, IntKind.u32.wrap ((x.toNat : Int) * 256) = ((x <<< 8).toNat : Int) := fun x => uv_shl x 8
        rw [e24, e16, e8, uv_or, uv_or, uv_or, HW.out, hp1e, hp2e, hp3e, hp]
        rfl)
      have HV' := Lib.hid (show Value.int IntKind.u32 (bits .or .u32 (bits .or .u32 (bits .or .u32 (IntKind.u32.wrap (IntKind.u32.wrap (s[p].toNat : Int) * 16777216)) (IntKind.u32.wrap (IntKind.u32.wrap (s[p1].toNat : Int) * 65536))) (IntKind.u32.wrap (IntKind.u32.wrap (s[p2].toNat : Int) * 256))) (IntKind.u32.wrap (s[p3].toNat : Int))) = uv (nextW s.data.toList i) by rw [HV.out]; rfl)
      clear hp1e hp2e hp3e
      clear hx hz hv hp
      go_wp2
      refine wp_region_held_drew (S := fun _ => True) (by kernel_rfl) trivial (fun hHeld => ?_)
      refine wpAnyH_take (i := 0) (oi := { dst := some 16, op := Op.move (Operand.tmp 4), type := 3, pos := "l1_hash.go:73", after := _, guard := none }) (v := ?_) rfl (by kernel_rfl) (by kernel_rfl) (by kernel_rfl) (fun _ _ _ h => h) (Or.inl ⟨by rfl, ?_⟩) (by assumption) ?_
      rotate_left
      · (intro w hSw; (try dsimp only at hSw); go_simp; (try with_reducible rfl))
      simp only [Act.put, List.setIfInBounds_toArray, List.set_cons_zero, List.set_cons_succ]
      refine wpAnyH_take (i := 1) (oi := { dst := some 17, op := Op.move (Operand.tmp 0), type := 9, pos := "l1_hash.go:73", after := _, guard := none }) (v := ?_) rfl (by kernel_rfl) (by kernel_rfl) (by kernel_rfl) (fun _ _ _ h => h) (Or.inl ⟨by rfl, ?_⟩) (by assumption) ?_
      rotate_left
      · (intro w hSw; (try dsimp only at hSw); go_simp; (try with_reducible rfl))
      simp only [Act.put, List.setIfInBounds_toArray, List.set_cons_zero, List.set_cons_succ]
      refine wpAnyH_take (i := 2) (oi := { dst := some 18, op := Op.move (Operand.tmp 5), type := 3, pos := "l1_hash.go:73", after := _, guard := none }) (v := ?_) rfl (by kernel_rfl) (by kernel_rfl) (by kernel_rfl) (fun _ _ _ h => h) (Or.inl ⟨by rfl, ?_⟩) (by assumption) ?_
      rotate_left
      · (intro w hSw; (try dsimp only at hSw); go_simp; (try with_reducible rfl))
      simp only [Act.put, List.setIfInBounds_toArray, List.set_cons_zero, List.set_cons_succ]
      refine wpAnyH_take (i := 3) (oi := { dst := some 19, op := Op.index 9 (Operand.tmp 17) (Operand.tmp 18), type := 5, pos := "l1_hash.go:73", after := _, guard := none }) (v := ?_) rfl (by kernel_rfl) (by kernel_rfl) (by kernel_rfl) (fun _ _ _ h => h) (Or.inl ⟨by rfl, ?_⟩) (by assumption) ?_
      rotate_left
      · (intro w hSw; (try dsimp only at hSw); go_simp; (try with_reducible rfl))
      simp only [Act.put, List.setIfInBounds_toArray, List.set_cons_zero, List.set_cons_succ]
      refine wpAnyH_take (i := 4) (oi := { dst := some 20, op := Op.convert 5 92 (Operand.tmp 19), type := 92, pos := "l1_hash.go:73", after := _, guard := none }) (v := ?_) rfl (by kernel_rfl) (by kernel_rfl) (by kernel_rfl) (fun _ _ _ h => h) (Or.inl ⟨by rfl, ?_⟩) (by assumption) ?_
      rotate_left
      · (intro w hSw; (try dsimp only at hSw); go_simp; (try with_reducible rfl))
      simp only [Act.put, List.setIfInBounds_toArray, List.set_cons_zero, List.set_cons_succ]
      refine wpAnyH_take (i := 5) (oi := { dst := some 21, op := Op.binOp BinOp.shl 92 (Operand.tmp 20) (Operand.const (Value.int IntKind.u64 24)) 111, type := 92, pos := "l1_hash.go:73", after := _, guard := none }) (v := ?_) rfl (by kernel_rfl) (by kernel_rfl) (by kernel_rfl) (fun _ _ _ h => h) (Or.inl ⟨by rfl, ?_⟩) (by assumption) ?_
      rotate_left
      · (intro w hSw; (try dsimp only at hSw); go_simp; (try with_reducible rfl))
      simp only [Act.put, List.setIfInBounds_toArray, List.set_cons_zero, List.set_cons_succ]
      refine wpAnyH_take (i := 6) (oi := { dst := some 22, op := Op.move (Operand.tmp 0), type := 9, pos := "l1_hash.go:73", after := _, guard := none }) (v := ?_) rfl (by kernel_rfl) (by kernel_rfl) (by kernel_rfl) (fun _ _ _ h => h) (Or.inl ⟨by rfl, ?_⟩) (by assumption) ?_
      rotate_left
      · (intro w hSw; (try dsimp only at hSw); go_simp; (try with_reducible rfl))
      simp only [Act.put, List.setIfInBounds_toArray, List.set_cons_zero, List.set_cons_succ]
      refine wpAnyH_take (i := 7) (oi := { dst := some 23, op := Op.move (Operand.tmp 5), type := 3, pos := "l1_hash.go:73", after := _, guard := none }) (v := ?_) rfl (by kernel_rfl) (by kernel_rfl) (by kernel_rfl) (fun _ _ _ h => h) (Or.inl ⟨by rfl, ?_⟩) (by assumption) ?_
      rotate_left
      · (intro w hSw; (try dsimp only at hSw); go_simp; (try with_reducible rfl))
      simp only [Act.put, List.setIfInBounds_toArray, List.set_cons_zero, List.set_cons_succ]
      refine wpAnyH_take (i := 8) (oi := { dst := some 24, op := Op.binOp BinOp.add 3 (Operand.tmp 23) (Operand.const (Value.int IntKind.i64 1)) 3, type := 3, pos := "l1_hash.go:73", after := _, guard := none }) (v := ?_) rfl (by kernel_rfl) (by kernel_rfl) (by kernel_rfl) (fun _ _ _ h => h) (Or.inl ⟨by rfl, ?_⟩) (by assumption) ?_
      rotate_left
      · (intro w hSw; (try dsimp only at hSw); go_simp; (try with_reducible rfl))
      simp only [Act.put, List.setIfInBounds_toArray, List.set_cons_zero, List.set_cons_succ]
      refine wpAnyH_take (i := 9) (oi := { dst := some 25, op := Op.index 9 (Operand.tmp 22) (Operand.tmp 24), type := 5, pos := "l1_hash.go:73", after := _, guard := none }) (v := ?_) rfl (by kernel_rfl) (by kernel_rfl) (by kernel_rfl) (fun _ _ _ h => h) (Or.inl ⟨by rfl, ?_⟩) (by assumption) ?_
      rotate_left
      · (intro w hSw; (try dsimp only at hSw); go_simp; (try with_reducible rfl))
      simp only [Act.put, List.setIfInBounds_toArray, List.set_cons_zero, List.set_cons_succ]
      refine wpAnyH_take (i := 10) (oi := { dst := some 26, op := Op.convert 5 92 (Operand.tmp 25), type := 92, pos := "l1_hash.go:73", after := _, guard := none }) (v := ?_) rfl (by kernel_rfl) (by kernel_rfl) (by kernel_rfl) (fun _ _ _ h => h) (Or.inl ⟨by rfl, ?_⟩) (by assumption) ?_
      rotate_left
      · (intro w hSw; (try dsimp only at hSw); go_simp; (try with_reducible rfl))
      simp only [Act.put, List.setIfInBounds_toArray, List.set_cons_zero, List.set_cons_succ]
      refine wpAnyH_take (i := 11) (oi := { dst := some 27, op := Op.binOp BinOp.shl 92 (Operand.tmp 26) (Operand.const (Value.int IntKind.u64 16)) 111, type := 92, pos := "l1_hash.go:73", after := _, guard := none }) (v := ?_) rfl (by kernel_rfl) (by kernel_rfl) (by kernel_rfl) (fun _ _ _ h => h) (Or.inl ⟨by rfl, ?_⟩) (by assumption) ?_
      rotate_left
      · (intro w hSw; (try dsimp only at hSw); go_simp; (try with_reducible rfl))
      simp only [Act.put, List.setIfInBounds_toArray, List.set_cons_zero, List.set_cons_succ]
      refine wpAnyH_take (i := 12) (oi := { dst := some 28, op := Op.binOp BinOp.or 92 (Operand.tmp 21) (Operand.tmp 27) 92, type := 92, pos := "l1_hash.go:73", after := _, guard := none }) (v := ?_) rfl (by kernel_rfl) (by kernel_rfl) (by kernel_rfl) (fun _ _ _ h => h) (Or.inl ⟨by rfl, ?_⟩) (by assumption) ?_
      rotate_left
      · (intro w hSw; (try dsimp only at hSw); go_simp; (try with_reducible rfl))
      simp only [Act.put, List.setIfInBounds_toArray, List.set_cons_zero, List.set_cons_succ]
      refine wpAnyH_take (i := 13) (oi := { dst := some 29, op := Op.move (Operand.tmp 0), type := 9, pos := "l1_hash.go:73", after := _, guard := none }) (v := ?_) rfl (by kernel_rfl) (by kernel_rfl) (by kernel_rfl) (fun _ _ _ h => h) (Or.inl ⟨by rfl, ?_⟩) (by assumption) ?_
      rotate_left
      · (intro w hSw; (try dsimp only at hSw); go_simp; (try with_reducible rfl))
      simp only [Act.put, List.setIfInBounds_toArray, List.set_cons_zero, List.set_cons_succ]
      refine wpAnyH_take (i := 14) (oi := { dst := some 30, op := Op.move (Operand.tmp 5), type := 3, pos := "l1_hash.go:73", after := _, guard := none }) (v := ?_) rfl (by kernel_rfl) (by kernel_rfl) (by kernel_rfl) (fun _ _ _ h => h) (Or.inl ⟨by rfl, ?_⟩) (by assumption) ?_
      rotate_left
      · (intro w hSw; (try dsimp only at hSw); go_simp; (try with_reducible rfl))
      simp only [Act.put, List.setIfInBounds_toArray, List.set_cons_zero, List.set_cons_succ]
      refine wpAnyH_take (i := 15) (oi := { dst := some 31, op := Op.binOp BinOp.add 3 (Operand.tmp 30) (Operand.const (Value.int IntKind.i64 2)) 3, type := 3, pos := "l1_hash.go:73", after := _, guard := none }) (v := ?_) rfl (by kernel_rfl) (by kernel_rfl) (by kernel_rfl) (fun _ _ _ h => h) (Or.inl ⟨by rfl, ?_⟩) (by assumption) ?_
      rotate_left
      · (intro w hSw; (try dsimp only at hSw); go_simp; (try with_reducible rfl))
      simp only [Act.put, List.setIfInBounds_toArray, List.set_cons_zero, List.set_cons_succ]
      refine wpAnyH_take (i := 16) (oi := { dst := some 32, op := Op.index 9 (Operand.tmp 29) (Operand.tmp 31), type := 5, pos := "l1_hash.go:73", after := _, guard := none }) (v := ?_) rfl (by kernel_rfl) (by kernel_rfl) (by kernel_rfl) (fun _ _ _ h => h) (Or.inl ⟨by rfl, ?_⟩) (by assumption) ?_
      rotate_left
      · (intro w hSw; (try dsimp only at hSw); go_simp; (try with_reducible rfl))
      simp only [Act.put, List.setIfInBounds_toArray, List.set_cons_zero, List.set_cons_succ]
      refine wpAnyH_take (i := 17) (oi := { dst := some 33, op := Op.convert 5 92 (Operand.tmp 32), type := 92, pos := "l1_hash.go:73", after := _, guard := none }) (v := ?_) rfl (by kernel_rfl) (by kernel_rfl) (by kernel_rfl) (fun _ _ _ h => h) (Or.inl ⟨by rfl, ?_⟩) (by assumption) ?_
      rotate_left
      · (intro w hSw; (try dsimp only at hSw); go_simp; (try with_reducible rfl))
      simp only [Act.put, List.setIfInBounds_toArray, List.set_cons_zero, List.set_cons_succ]
      refine wpAnyH_take (i := 18) (oi := { dst := some 34, op := Op.binOp BinOp.shl 92 (Operand.tmp 33) (Operand.const (Value.int IntKind.u64 8)) 111, type := 92, pos := "l1_hash.go:73", after := _, guard := none }) (v := ?_) rfl (by kernel_rfl) (by kernel_rfl) (by kernel_rfl) (fun _ _ _ h => h) (Or.inl ⟨by rfl, ?_⟩) (by assumption) ?_
      rotate_left
      · (intro w hSw; (try dsimp only at hSw); go_simp; (try with_reducible rfl))
      simp only [Act.put, List.setIfInBounds_toArray, List.set_cons_zero, List.set_cons_succ]
      refine wpAnyH_take (i := 19) (oi := { dst := some 35, op := Op.binOp BinOp.or 92 (Operand.tmp 28) (Operand.tmp 34) 92, type := 92, pos := "l1_hash.go:73", after := _, guard := none }) (v := ?_) rfl (by kernel_rfl) (by kernel_rfl) (by kernel_rfl) (fun _ _ _ h => h) (Or.inl ⟨by rfl, ?_⟩) (by assumption) ?_
      rotate_left
      · (intro w hSw; (try dsimp only at hSw); go_simp; (try with_reducible rfl))
      simp only [Act.put, List.setIfInBounds_toArray, List.set_cons_zero, List.set_cons_succ]
      refine wpAnyH_take (i := 20) (oi := { dst := some 36, op := Op.move (Operand.tmp 0), type := 9, pos := "l1_hash.go:73", after := _, guard := none }) (v := ?_) rfl (by kernel_rfl) (by kernel_rfl) (by kernel_rfl) (fun _ _ _ h => h) (Or.inl ⟨by rfl, ?_⟩) (by assumption) ?_
      rotate_left
      · (intro w hSw; (try dsimp only at hSw); go_simp; (try with_reducible rfl))
      simp only [Act.put, List.setIfInBounds_toArray, List.set_cons_zero, List.set_cons_succ]
      refine wpAnyH_take (i := 21) (oi := { dst := some 37, op := Op.move (Operand.tmp 5), type := 3, pos := "l1_hash.go:73", after := _, guard := none }) (v := ?_) rfl (by kernel_rfl) (by kernel_rfl) (by kernel_rfl) (fun _ _ _ h => h) (Or.inl ⟨by rfl, ?_⟩) (by assumption) ?_
      rotate_left
      · (intro w hSw; (try dsimp only at hSw); go_simp; (try with_reducible rfl))
      simp only [Act.put, List.setIfInBounds_toArray, List.set_cons_zero, List.set_cons_succ]
      refine wpAnyH_take (i := 22) (oi := { dst := some 38, op := Op.binOp BinOp.add 3 (Operand.tmp 37) (Operand.const (Value.int IntKind.i64 3)) 3, type := 3, pos := "l1_hash.go:73", after := _, guard := none }) (v := ?_) rfl (by kernel_rfl) (by kernel_rfl) (by kernel_rfl) (fun _ _ _ h => h) (Or.inl ⟨by rfl, ?_⟩) (by assumption) ?_
      rotate_left
      · (intro w hSw; (try dsimp only at hSw); go_simp; (try with_reducible rfl))
      simp only [Act.put, List.setIfInBounds_toArray, List.set_cons_zero, List.set_cons_succ]
      refine wpAnyH_take (i := 23) (oi := { dst := some 39, op := Op.index 9 (Operand.tmp 36) (Operand.tmp 38), type := 5, pos := "l1_hash.go:73", after := _, guard := none }) (v := ?_) rfl (by kernel_rfl) (by kernel_rfl) (by kernel_rfl) (fun _ _ _ h => h) (Or.inl ⟨by rfl, ?_⟩) (by assumption) ?_
      rotate_left
      · (intro w hSw; (try dsimp only at hSw); go_simp; (try with_reducible rfl))
      simp only [Act.put, List.setIfInBounds_toArray, List.set_cons_zero, List.set_cons_succ]
      refine wpAnyH_take (i := 24) (oi := { dst := some 40, op := Op.convert 5 92 (Operand.tmp 39), type := 92, pos := "l1_hash.go:73", after := _, guard := none }) (v := ?_) rfl (by kernel_rfl) (by kernel_rfl) (by kernel_rfl) (fun _ _ _ h => h) (Or.inl ⟨by rfl, ?_⟩) (by assumption) ?_
      rotate_left
      · (intro w hSw; (try dsimp only at hSw); go_simp; (try with_reducible rfl))
      simp only [Act.put, List.setIfInBounds_toArray, List.set_cons_zero, List.set_cons_succ]
      refine wpAnyH_take (i := 25) (oi := { dst := some 41, op := Op.binOp BinOp.or 92 (Operand.tmp 35) (Operand.tmp 40) 92, type := 92, pos := "l1_hash.go:73", after := _, guard := none }) (v := ?_) rfl (by kernel_rfl) (by kernel_rfl) (by kernel_rfl) (fun _ _ _ h => h) (Or.inl ⟨by rfl, ?_⟩) (by assumption) ?_
      rotate_left
      · (intro w hSw; (try dsimp only at hSw); go_simp; (try with_reducible rfl))
      simp only [Act.put, List.setIfInBounds_toArray, List.set_cons_zero, List.set_cons_succ]
      refine wpAnyH_take (i := 26) (oi := { dst := some 42, op := Op.indexAddr 105 (Operand.tmp 3) (Operand.tmp 16), type := 0, pos := "l1_hash.go:73", after := _, guard := none }) (v := ?_) rfl (by kernel_rfl) (by kernel_rfl) (by kernel_rfl) (fun _ _ _ h => h) (Or.inl ⟨by rfl, ?_⟩) (by assumption) ?_
      rotate_left
      · (intro w hSw; (try dsimp only at hSw); go_simp; (try with_reducible rfl))
      simp only [Act.put, List.setIfInBounds_toArray, List.set_cons_zero, List.set_cons_succ]
      refine wpAnyH_ready (rs := [27]) (by kernel_rfl) (by simp) ?_
      refine AllReadyH.cons (o := { dst := none, op := Op.store 92 (Operand.tmp 42) (Operand.tmp 41), type := 0, pos := "l1_hash.go:73", after := _, guard := none }) rfl (fun K hK => ?_) AllReadyH.nil
      go_simp
      refine hK.out _ _ ?_ (fun hHeld => ?_)
      · trivial
      clear hK K
      (try simp only [Act.put, List.setIfInBounds_toArray, List.set_cons_zero, List.set_cons_succ])
      refine wpAnyH_done (by kernel_rfl) ?_ _
      go_wp2
      go_roundw
      case rel =>
        refine ⟨i + 1, by omega, by go_num, ?_, ?_, ?_⟩
        · rw [← HN.out, ← HV'.out]
          exact (show Box wr.drew _ _ from HX.out).setH i _
        · exact HZ.out.kept (S := fun b => b = w.heap.size + 1) ((KeptOut.refl _ _ : KeptOut (fun b => b = w.heap.size + 1) wr wr).trans ((⟨rfl, rfl, rfl, Nat.le_refl _, fun _ _ _ => rfl⟩ : KeptOut (fun b => b = w.heap.size + 1) wr wr.drew).setCell rfl _)) (by omega)
        · exact (hbel.drew).setCell (by simp) _
      case measure => simp [intOf]; omega
    · obtain rfl : i = 16 := by omega
      clear hx hz
      go_wp2
      rename_i K2 hK2
      have HK2 := Lib.hid hK2
      clear hK2
      go_loopw [6] (fun v wr => ∃ i : Nat, 16 ≤ i ∧ i ≤ 64 ∧ v = .int .i64 i ∧ Box wr (w.heap.size + 1) (uvs (padS s.data.toList i)) ∧ Box wr w.heap.size (uvs (List.replicate 64 0)) ∧ Below w.heap.size w wr) (fun v _ => 64 - (intOf v).toNat)
      case atStart => exact ⟨16, Nat.le_refl _, by omega, rfl, HX.out, HZ.out, hbel⟩
      case round =>
        clear HX HZ hbel
        obtain ⟨i, hi16, hi64', rfl, hx, hz, hbel⟩ := hrel
        have HX := Lib.hid hx
        have HZ := Lib.hid hz
        have hzs := hbel.size
        by_cases hl : i < 64
        · obtain ⟨v, hv⟩ := padS_at s.data.toList hl
          obtain ⟨x0, f0⟩ := hx i v hv
          have HN := Lib.hid (padS_next s.data.toList hl)
          have hi64 : (i : Int) < 64 := by omega
          have hi00 : (0 : Int) ≤ (i : Int) := by omega
          obtain ⟨q15, hq15⟩ : ∃ q, q = i - 15 := ⟨_, rfl⟩
          have hk15 : (i : Int) - 15 = (q15 : Int) := by omega
          have hv15 : IntKind.i64.wrap (q15 : Int) = (q15 : Int) := wrapN (by omega)
          have hu15 : (0 : Int) ≤ (q15 : Int) := by omega
          have ht15 : (q15 : Int) < 64 := by omega
          obtain ⟨far, hfar⟩ : ∃ x, x = (sched s.data.toList i).getD q15 0 := ⟨_, rfl⟩
          have y15 : wr.cell? ⟨w.heap.size + 1, q15, none⟩ = some (.int .u32 (far.toNat : Int)) := by
            have := (HX.out q15 _ (padS_get s.data.toList (show q15 < i by omega))).1
            rw [this, hfar]; rfl
          obtain ⟨q2, hq2⟩ : ∃ q, q = i - 2 := ⟨_, rfl⟩
          have hk2 : (i : Int) - 2 = (q2 : Int) := by omega
          have hv2 : IntKind.i64.wrap (q2 : Int) = (q2 : Int) := wrapN (by omega)
          have hu2 : (0 : Int) ≤ (q2 : Int) := by omega
          have ht2 : (q2 : Int) < 64 := by omega
          obtain ⟨near, hnear⟩ : ∃ x, x = (sched s.data.toList i).getD q2 0 := ⟨_, rfl⟩
          have y2 : wr.cell? ⟨w.heap.size + 1, q2, none⟩ = some (.int .u32 (near.toNat : Int)) := by
            have := (HX.out q2 _ (padS_get s.data.toList (show q2 < i by omega))).1
            rw [this, hnear]; rfl
          obtain ⟨q16, hq16⟩ : ∃ q, q = i - 16 := ⟨_, rfl⟩
          have hk16 : (i : Int) - 16 = (q16 : Int) := by omega
          have hv16 : IntKind.i64.wrap (q16 : Int) = (q16 : Int) := wrapN (by omega)
          have hu16 : (0 : Int) ≤ (q16 : Int) := by omega
          have ht16 : (q16 : Int) < 64 := by omega
          obtain ⟨wa, hwa⟩ : ∃ x, x = (sched s.data.toList i).getD q16 0 := ⟨_, rfl⟩
          have y16 : wr.cell? ⟨w.heap.size + 1, q16, none⟩ = some (.int .u32 (wa.toNat : Int)) := by
            have := (HX.out q16 _ (padS_get s.data.toList (show q16 < i by omega))).1
            rw [this, hwa]; rfl
          obtain ⟨q7, hq7⟩ : ∃ q, q = i - 7 := ⟨_, rfl⟩
          have hk7 : (i : Int) - 7 = (q7 : Int) := by omega
          have hv7 : IntKind.i64.wrap (q7 : Int) = (q7 : Int) := wrapN (by omega)
          have hu7 : (0 : Int) ≤ (q7 : Int) := by omega
          have ht7 : (q7 : Int) < 64 := by omega
          obtain ⟨wb, hwb⟩ : ∃ x, x = (sched s.data.toList i).getD q7 0 := ⟨_, rfl⟩
          have y7 : wr.cell? ⟨w.heap.size + 1, q7, none⟩ = some (.int .u32 (wb.toNat : Int)) := by
            have := (HX.out q7 _ (padS_get s.data.toList (show q7 < i by omega))).1
            rw [this, hwb]; rfl
          have HW := Lib.hid (show nextW s.data.toList i = wa + sg0 far + wb + sg1 near by unfold nextW; rw [if_neg (by omega), hwa, hwb, hfar, hnear, hq16, hq15, hq7, hq2])
          have HV := Lib.hid (show Value.int IntKind.u32 ((((((wa.toNat : Int) + bits .xor .u32 (bits .xor .u32 ((rotr far 7).toNat : Int) ((rotr far 18).toNat : Int)) ((far.toNat : Int) / (8 : Int))) % 4294967296 + (wb.toNat : Int)) % 4294967296 + bits .xor .u32 (bits .xor .u32 ((rotr near 17).toNat : Int) ((rotr near 19).toNat : Int)) ((near.toNat : Int) / (1024 : Int))) % 4294967296)) = uv (nextW s.data.toList i) by
            have e3 : (far.toNat : Int) / (8 : Int) = ((far >>> 3).toNat : Int) := uv_div far 3
            have e10 : (near.toNat : Int) / (1024 : Int) = ((near >>> 10).toNat : Int) := uv_div near 10
            rw [e3, e10, HW.out]
            simp only [uv_xor, uv_addm]
            rfl)
          have hn16 : q16 < i := by omega
          have hn7 : q7 < i := by omega
          clear hx hz hv hq15 hq2 hq16 hq7 hfar hnear hwa hwb
          go_wp2
          go_quiet (fail)
          go_wp2_with (go_at_call 93; refine (rot_p _ _ (by decide) _).mono ?_; rintro e w1 ⟨rfl, q1, rfl⟩)
          refine wp_region_held_drew (S := fun w' => w'.cell? ⟨w.heap.size + 1, q16, none⟩ = some (.int .u32 (wa.toNat : Int)) ∧ w'.cell? ⟨w.heap.size + 1, q7, none⟩ = some (.int .u32 (wb.toNat : Int))) (by kernel_rfl) ⟨y16, y7⟩ (fun hHeld => ?_)
          refine wpAnyH_take (i := 0) (oi := { dst := some 72, op := Op.move (Operand.tmp 6), type := 3, pos := "l1_hash.go:79", after := _, guard := none }) (v := ?_) rfl (by kernel_rfl) (by kernel_rfl) (by kernel_rfl) (fun _ _ _ h => h) (Or.inl ⟨by rfl, ?_⟩) (by assumption) ?_
          rotate_left
          · (intro w hSw; (try dsimp only at hSw); go_simp; (try with_reducible rfl))
          simp only [Act.put, List.setIfInBounds_toArray, List.set_cons_zero, List.set_cons_succ]
          refine wpAnyH_take (i := 1) (oi := { dst := some 73, op := Op.move (Operand.tmp 6), type := 3, pos := "l1_hash.go:79", after := _, guard := none }) (v := ?_) rfl (by kernel_rfl) (by kernel_rfl) (by kernel_rfl) (fun _ _ _ h => h) (Or.inl ⟨by rfl, ?_⟩) (by assumption) ?_
          rotate_left
          · (intro w hSw; (try dsimp only at hSw); go_simp; (try with_reducible rfl))
          simp only [Act.put, List.setIfInBounds_toArray, List.set_cons_zero, List.set_cons_succ]
          refine wpAnyH_take (i := 2) (oi := { dst := some 74, op := Op.binOp BinOp.sub 3 (Operand.tmp 73) (Operand.const (Value.int IntKind.i64 16)) 3, type := 3, pos := "l1_hash.go:79", after := _, guard := none }) (v := ?_) rfl (by kernel_rfl) (by kernel_rfl) (by kernel_rfl) (fun _ _ _ h => h) (Or.inl ⟨by rfl, ?_⟩) (by assumption) ?_
          rotate_left
          · (intro w hSw; (try dsimp only at hSw); go_simp; (try with_reducible rfl))
          simp only [Act.put, List.setIfInBounds_toArray, List.set_cons_zero, List.set_cons_succ]
          refine wpAnyH_take (i := 3) (oi := { dst := some 75, op := Op.indexAddr 105 (Operand.tmp 3) (Operand.tmp 74), type := 0, pos := "l1_hash.go:79", after := _, guard := none }) (v := ?_) rfl (by kernel_rfl) (by kernel_rfl) (by kernel_rfl) (fun _ _ _ h => h) (Or.inl ⟨by rfl, ?_⟩) (by assumption) ?_
          rotate_left
          · (intro w hSw; (try dsimp only at hSw); go_simp; (try with_reducible rfl))
          simp only [Act.put, List.setIfInBounds_toArray, List.set_cons_zero, List.set_cons_succ]
          refine wpAnyH_take (i := 4) (oi := { dst := some 76, op := Op.load 92 (Operand.tmp 75), type := 92, pos := "l1_hash.go:79", after := _, guard := none }) (v := ?_) rfl (by kernel_rfl) (by kernel_rfl) (by kernel_rfl) (fun _ _ _ h => h) (Or.inl ⟨by rfl, ?_⟩) (by assumption) ?_
          rotate_left
          · (intro w hSw; (try dsimp only at hSw); go_simp; (try with_reducible rfl))
          simp only [Act.put, List.setIfInBounds_toArray, List.set_cons_zero, List.set_cons_succ]
          refine wpAnyH_take (i := 5) (oi := { dst := some 77, op := Op.move (Operand.tmp 9), type := 92, pos := "l1_hash.go:79", after := _, guard := none }) (v := ?_) rfl (by kernel_rfl) (by kernel_rfl) (by kernel_rfl) (fun _ _ _ h => h) (Or.inl ⟨by rfl, ?_⟩) (by assumption) ?_
          rotate_left
          · (intro w hSw; (try dsimp only at hSw); go_simp; (try with_reducible rfl))
          simp only [Act.put, List.setIfInBounds_toArray, List.set_cons_zero, List.set_cons_succ]
          refine wpAnyH_take (i := 6) (oi := { dst := some 78, op := Op.binOp BinOp.add 92 (Operand.tmp 76) (Operand.tmp 77) 92, type := 92, pos := "l1_hash.go:79", after := _, guard := none }) (v := ?_) rfl (by kernel_rfl) (by kernel_rfl) (by kernel_rfl) (fun _ _ _ h => h) (Or.inl ⟨by rfl, ?_⟩) (by assumption) ?_
          rotate_left
          · (intro w hSw; (try dsimp only at hSw); go_simp; (try with_reducible rfl))
          simp only [Act.put, List.setIfInBounds_toArray, List.set_cons_zero, List.set_cons_succ]
          refine wpAnyH_take (i := 7) (oi := { dst := some 79, op := Op.move (Operand.tmp 6), type := 3, pos := "l1_hash.go:79", after := _, guard := none }) (v := ?_) rfl (by kernel_rfl) (by kernel_rfl) (by kernel_rfl) (fun _ _ _ h => h) (Or.inl ⟨by rfl, ?_⟩) (by assumption) ?_
          rotate_left
          · (intro w hSw; (try dsimp only at hSw); go_simp; (try with_reducible rfl))
          simp only [Act.put, List.setIfInBounds_toArray, List.set_cons_zero, List.set_cons_succ]
          refine wpAnyH_take (i := 8) (oi := { dst := some 80, op := Op.binOp BinOp.sub 3 (Operand.tmp 79) (Operand.const (Value.int IntKind.i64 7)) 3, type := 3, pos := "l1_hash.go:79", after := _, guard := none }) (v := ?_) rfl (by kernel_rfl) (by kernel_rfl) (by kernel_rfl) (fun _ _ _ h => h) (Or.inl ⟨by rfl, ?_⟩) (by assumption) ?_
          rotate_left
          · (intro w hSw; (try dsimp only at hSw); go_simp; (try with_reducible rfl))
          simp only [Act.put, List.setIfInBounds_toArray, List.set_cons_zero, List.set_cons_succ]
          refine wpAnyH_take (i := 9) (oi := { dst := some 81, op := Op.indexAddr 105 (Operand.tmp 3) (Operand.tmp 80), type := 0, pos := "l1_hash.go:79", after := _, guard := none }) (v := ?_) rfl (by kernel_rfl) (by kernel_rfl) (by kernel_rfl) (fun _ _ _ h => h) (Or.inl ⟨by rfl, ?_⟩) (by assumption) ?_
          rotate_left
          · (intro w hSw; (try dsimp only at hSw); go_simp; (try with_reducible rfl))
          simp only [Act.put, List.setIfInBounds_toArray, List.set_cons_zero, List.set_cons_succ]
          refine wpAnyH_take (i := 10) (oi := { dst := some 82, op := Op.load 92 (Operand.tmp 81), type := 92, pos := "l1_hash.go:79", after := _, guard := none }) (v := ?_) rfl (by kernel_rfl) (by kernel_rfl) (by kernel_rfl) (fun _ _ _ h => h) (Or.inl ⟨by rfl, ?_⟩) (by assumption) ?_
          rotate_left
          · (intro w hSw; (try dsimp only at hSw); go_simp; (try with_reducible rfl))
          simp only [Act.put, List.setIfInBounds_toArray, List.set_cons_zero, List.set_cons_succ]
          refine wpAnyH_take (i := 11) (oi := { dst := some 83, op := Op.binOp BinOp.add 92 (Operand.tmp 78) (Operand.tmp 82) 92, type := 92, pos := "l1_hash.go:79", after := _, guard := none }) (v := ?_) rfl (by kernel_rfl) (by kernel_rfl) (by kernel_rfl) (fun _ _ _ h => h) (Or.inl ⟨by rfl, ?_⟩) (by assumption) ?_
          rotate_left
          · (intro w hSw; (try dsimp only at hSw); go_simp; (try with_reducible rfl))
          simp only [Act.put, List.setIfInBounds_toArray, List.set_cons_zero, List.set_cons_succ]
          refine wpAnyH_take (i := 12) (oi := { dst := some 84, op := Op.move (Operand.tmp 10), type := 92, pos := "l1_hash.go:79", after := _, guard := none }) (v := ?_) rfl (by kernel_rfl) (by kernel_rfl) (by kernel_rfl) (fun _ _ _ h => h) (Or.inl ⟨by rfl, ?_⟩) (by assumption) ?_
          rotate_left
          · (intro w hSw; (try dsimp only at hSw); go_simp; (try with_reducible rfl))
          simp only [Act.put, List.setIfInBounds_toArray, List.set_cons_zero, List.set_cons_succ]
          refine wpAnyH_take (i := 13) (oi := { dst := some 85, op := Op.binOp BinOp.add 92 (Operand.tmp 83) (Operand.tmp 84) 92, type := 92, pos := "l1_hash.go:79", after := _, guard := none }) (v := ?_) rfl (by kernel_rfl) (by kernel_rfl) (by kernel_rfl) (fun _ _ _ h => h) (Or.inl ⟨by rfl, ?_⟩) (by assumption) ?_
          rotate_left
          · (intro w hSw; (try dsimp only at hSw); go_simp; (try with_reducible rfl))
          simp only [Act.put, List.setIfInBounds_toArray, List.set_cons_zero, List.set_cons_succ]
          refine wpAnyH_take (i := 14) (oi := { dst := some 86, op := Op.indexAddr 105 (Operand.tmp 3) (Operand.tmp 72), type := 0, pos := "l1_hash.go:79", after := _, guard := none }) (v := ?_) rfl (by kernel_rfl) (by kernel_rfl) (by kernel_rfl) (fun _ _ _ h => h) (Or.inl ⟨by rfl, ?_⟩) (by assumption) ?_
          rotate_left
          · (intro w hSw; (try dsimp only at hSw); go_simp; (try with_reducible rfl))
          simp only [Act.put, List.setIfInBounds_toArray, List.set_cons_zero, List.set_cons_succ]
          refine wpAnyH_ready (rs := [15]) (by kernel_rfl) (by simp) ?_
          refine AllReadyH.cons (o := { dst := none, op := Op.store 92 (Operand.tmp 86) (Operand.tmp 85), type := 0, pos := "l1_hash.go:79", after := _, guard := none }) rfl (fun K hK => ?_) AllReadyH.nil
          go_simp
          refine hK.out _ _ ?_ (fun hHeld => ?_)
          · exact ⟨by rw [World.cell?_setCell_other _ _ _ _ (by first | (simp; done) | (simp; omega))]; exact y16, by rw [World.cell?_setCell_other _ _ _ _ (by first | (simp; done) | (simp; omega))]; exact y7⟩
          clear hK K
          (try simp only [Act.put, List.setIfInBounds_toArray, List.set_cons_zero, List.set_cons_succ])
          refine wpAnyH_done (by kernel_rfl) ?_ _
          go_wp2
          go_roundw
          case rel =>
            repeat apply Exists.intro
            refine ⟨⟨i + 1, by omega, by omega, rfl, ?_, ?_, ?_⟩, rfl⟩
            · rw [← HN.out, ← HV.out]
              exact (HX.out.below (belDrewH (Below.refl _ _) _)).setH i _
            · exact HZ.out.kept (S := fun b => b = w.heap.size + 1) (KeptOut.setCell (S := fun b => b = w.heap.size + 1) (KeptOut.of_below (belDrewH (Below.refl _ _) _)) rfl _) (by omega)
            · exact (belDrewH hbel _).setCell (by simp) _
          case measure => simp [intOf]; omega
        · obtain rfl : i = 64 := by omega
          have hrg : wr.rangeAt (w.heap.size + 1) 0 (uvs (padS s.data.toList 64)) := fun j v hv => by rw [Nat.zero_add]; exact (HX.out j v hv).1
          have HRG := Lib.hid hrg
          have hsz : (Tryd.prog.info? 105).map (·.size) = some (uvs (padS s.data.toList 64)).length := by rw [uvs_len, padS_len _ (Nat.le_refl _)]; kernel_rfl
          have HSZ := Lib.hid hsz
          have HTH := Lib.hid (Box.there (ds := uvs (padS s.data.toList 64)) hz (by rw [uvs_len, padS_len _ (Nat.le_refl _)]; simp [uvs]))
          clear hx hz hrg hsz
          go_wp2
          refine HK2.out _ _ ?_
          clear HK2
          repeat (refine wp_seq_k fun K hK => ?_)
          refine wp_region_lit ?_
          refine wpList_load_mid rfl 105 (.tmp 3) rfl (w.heap.size + 1) 0 rfl (uvs (padS s.data.toList 64)) _ HRG.out Tryd.underlying105 rfl HSZ.out ?_
          refine wpList_store_mid rfl 105 (.tmp 2) (.tmp 87) rfl w.heap.size 0 (uvs (padS s.data.toList 64)).toArray rfl rfl HTH.out (by simpa using HSZ.out) (all_oneCell_toArray (fun v hv => by simp only [uvs, List.mem_map] at hv; obtain ⟨x, _, rfl⟩ := hv; rfl)) ?_
          have R9 := World.rangeAt_setCells_same wr w.heap.size 0 (uvs (padS s.data.toList 64)).toArray.toList (by simpa using HTH.out)
          have B9 := below_cells (b := w.heap.size) (Nat.le_refl _) (uvs (padS s.data.toList 64)).toArray.toList 0 _ hbel
          generalize wr.setCells w.heap.size 0 (uvs (padS s.data.toList 64)).toArray.toList = W9 at R9 B9 ⊢
          have H9 := Lib.hid R9
          clear R9 HRG
          go_wp2
          refine bodyPost_ret (results_row Tryd.results80 _ _ w.heap.size rfl _ (run_loadVar_mid _ _ _ _ _ _ H9.out Tryd.underlying105 rfl (by simpa using HSZ.out))) rfl ⟨?_, B9⟩
          rw [padS_all]
end Go.Proofs.YtfekpbkcidhbfaaDoor
