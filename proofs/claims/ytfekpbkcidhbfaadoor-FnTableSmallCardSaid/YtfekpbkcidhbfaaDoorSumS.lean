import Derived.Test.YtfekpbkcidhbfaaDoorBlockB
import Derived.Laws.IdiomStrings
/- l1Sum of the model: the sum of bytes, as bytes. -/
namespace Go.Proofs.YtfekpbkcidhbfaaDoor
open Go Go.RowKit

theorem cells_at {l : List UInt8} {j : Nat} (h : j < l.length) : (Lib.byteCells l)[j]? = some (.int .u8 (l[j].toNat : Int)) := by
  simp [Lib.byteCells, h]
theorem blk_get (L : List UInt8) (k j : Nat) (h : j < (blk L k).length) (h2 : 64 * k + j < L.length) : (blk L k)[j] = L[64 * k + j] := by
  simp [blk]
theorem byte_four (x : W32) : Lib.byteCells (bytesW x) = [.int .u8 (IntKind.u8.wrap ((x.toNat : Int) / 16777216)), .int .u8 (IntKind.u8.wrap ((x.toNat : Int) / 65536)), .int .u8 (IntKind.u8.wrap ((x.toNat : Int) / 256)), .int .u8 (IntKind.u8.wrap (x.toNat : Int))] := by
  have e : ∀ n : Nat, ((UInt8.ofNat n).toNat : Int) = IntKind.u8.wrap (n : Int) := fun n => by
    rw [u8_ofNat]; unfold IntKind.wrap; simp [IntKind.bits, IntKind.signed]
  simp only [Lib.byteCells, bytesW, List.map_cons, List.map_nil, e]
  rfl
theorem cells_four (w : World) (a b c d : Value) (e : TypeId) : ∀ j u, [a, b, c, d][j]? = some u → ((w.alloc (.cells #[a, b, c, d] e)).drew).cell? ((⟨w.heap.size, 0, none⟩ : Addr).add j) = some u := by
  intro j u hj
  rw [addr_add, Nat.zero_add]
  show (w.alloc (.cells #[a, b, c, d] e)).cell? ⟨w.heap.size, j, none⟩ = some u
  exact (Box.alloc w #[a, b, c, d] e j u hj).1
theorem H0_cells : uvs H0.list = [.int .u32 1779033703, .int .u32 3144134277, .int .u32 1013904242, .int .u32 2773480762, .int .u32 1359893119, .int .u32 2600822924, .int .u32 528734635, .int .u32 1541459225] := rfl

set_option maxRecDepth 100000 in
set_option maxHeartbeats 2000000 in
theorem l1Sum_any (s : ByteArray) (hm : s.size ≤ 549755813888) (w : World) :
    Calls Tryd.prog 77 #[.string s] w fun e w' => e = .returned (.string ⟨(blks H0 (s.data.toList ++ endB s.size) ((s.size + 9 + zerosN s.size) / 64)).bytes.toArray⟩) ∧ Below w.heap.size w w' := by
  obtain ⟨i0, hi, hz0, hz1, hz2⟩ := info_parts infoU8b
  have zl := zeros_lt s.size
  have O0 := Lib.hid (OwnsM.of (World.ownsRow_lit (e := 92) (size := 1) w (uvs H0.list).toArray 8 (Nat.le_refl _) (by unfold maxLen; omega) rfl))
  have B0 := Lib.hid (below_alloc w (.cells (uvs H0.list).toArray 92))
  rw [H0_cells] at O0 B0
  obtain ⟨n, hn⟩ : ∃ n, s.size + 9 + zerosN s.size = 64 * n := ⟨(s.size + 9 + zerosN s.size) / 64, by have := whole_len s.size; omega⟩
  have HN := Lib.hid hn
  have hnd : (s.size + 9 + zerosN s.size) / 64 = n := by omega
  rw [hnd]
  have hn1 : 1 ≤ n := by omega
  have hnb : n ≤ 8589934594 := by omega
  have hl : (s.data.toList ++ endB s.size).length = 64 * n := by rw [List.length_append, endB_len, ← hn]; simp; omega
  have HL := Lib.hid hl
  clear hn hnd hl
  go_enter Tryd.func77, Tryd.ntmps77
  go_wp2_with fail
  generalize hw0 : (w.alloc (.cells #[Value.int .u32 1779033703, .int .u32 3144134277, .int .u32 1013904242, .int .u32 2773480762, .int .u32 1359893119, .int .u32 2600822924, .int .u32 528734635, .int .u32 1541459225] 92)) = w0
  refine (l1Padded_any s hm w0).mono ?_
  rintro e w1 ⟨v1, rfl, o1, b1⟩
  rw [HL.out] at o1
  obtain ⟨L, hL⟩ : ∃ L, L = s.data.toList ++ endB s.size := ⟨_, rfl⟩
  rw [← hL] at HL o1
  have HLe := Lib.hid hL
  clear hL
  obtain ⟨gb, cb, rfl, hgb, hgb2, hcb, hcb2, hcell⟩ := o1.at (by omega)
  have O1 := Lib.hid (show OwnsM w1 w.heap.size 92 1 (.slice (some ⟨w.heap.size, 0, none⟩) 8 8) 8 (uvs H0.list) by rw [← hw0] at b1; exact OwnsM.below O0.out b1)
  have B1 := Lib.hid (show Below w.heap.size w w1 by rw [← hw0] at b1; exact B0.out.trans (b1.mono (by simp)))
  have z1 := B1.out.size
  have HC := Lib.hid hcell
  clear o1 b1 hcell hw0 O0 B0
  go_wp2
  go_loopg [3, 5] n (fun q v3 v5 wr => ∃ k a : Nat, k + q = n ∧ Hid (a = 64 * k) ∧ v5 = .int .i64 a ∧ OwnsM wr w.heap.size 92 1 v3 8 (uvs (blks H0 L k).list) ∧ Below w1.heap.size w1 wr)
  case atStart => exact ⟨0, 0, by omega, Lib.hid rfl, rfl, O1.out, Below.refl _ _⟩
  case round =>
    clear O1
    obtain ⟨k, a, hk, HA, rfl, ho, hbel⟩ := hrel
    obtain ⟨gh, ch, rfl, hgh, hgh2, -, -, hch⟩ := ho.at (by omega)
    have HO := Lib.hid ho
    have HB := Lib.hid hbel
    have HW := Lib.hid (show WordsS wr gh 0 (blks H0 L k).list from .ofM hch)
    have hbz := hbel.size
    have HK := Lib.hid hk
    have ha64 : a ≤ 64 * n := by have := HA.out; omega
    clear ho hbel hch
    by_cases hq : gk = 0
    · have hkn : k = n := by omega
      subst hkn
      have hae : a = 64 * k := HA.out
      subst hae
      clear hk hq
      obtain ⟨wo, rfl⟩ : ∃ wo, wo = wr := ⟨_, rfl⟩
      have O0 := Lib.hid (own_litE wo 5 wo.heap.size rfl wo.heap.size (Nat.le_refl _))
      have BW := Lib.hid (B1.out.trans (HB.out.mono z1))
      obtain ⟨T, hT⟩ : ∃ T, T = blks H0 L k := ⟨_, rfl⟩
      rw [← hT] at HW
      have HTe := Lib.hid hT
      clear hT
      have HTl := Lib.hid (show T.list.length = 8 from rfl)
      have HTb := Lib.hid (show T.bytes = T.list.flatMap bytesW by simp [S8.bytes, S8.list])
      clear HO HB
      go_wp2
      go_loopg [6, 7] 8 (fun q v v7 wq => ∃ j : Nat, j + q = 8 ∧ v7 = .int .i64 j ∧ OwnsM wq wo.heap.size 5 1 v (4 * j) (Lib.byteCells ((T.list.take j).flatMap bytesW)) ∧ Below wo.heap.size wo wq)
      case atStart => exact ⟨0, by omega, rfl, O0.out, below_alloc _ _⟩
      case round =>
        clear O0
        obtain ⟨j, hj, rfl, ho, hbel⟩ := hrel
        have HO := Lib.hid ho
        have HB := Lib.hid hbel
        have hbz := hbel.size
        have HJ := Lib.hid hj
        have hj8 : j ≤ 8 := by omega
        by_cases hlt : j < 8
        · obtain ⟨a, c, rfl⟩ := ho.shp
          clear ho hbel hj
          have hki : (j : Int) < 8 := by omega
          have hk0 : (0 : Int) ≤ (j : Int) := by omega
          have yh := (HW.out.below HB.out) j (by show j < 8; exact hlt)
          rw [Nat.zero_add] at yh
          unfold uv at yh
          have EH := Lib.hid (show T.list[j]'(by show j < 8; exact hlt) = T.list.getD j 0 by simp [List.getD, List.getElem?_eq_getElem (show j < T.list.length by show j < 8; exact hlt)])
          rw [EH.out] at yh
          clear EH
          have HT1 := Lib.hid (show (T.list.take (j + 1)).flatMap bytesW = (T.list.take j).flatMap bytesW ++ bytesW (T.list.getD j 0) by
            rw [List.take_succ_eq_append_getElem (show j < T.list.length by rw [HTl.out]; exact hlt), List.flatMap_append]
            simp [List.getD, List.getElem?_eq_getElem (show j < T.list.length by rw [HTl.out]; exact hlt)])
          generalize T.list.getD j 0 = x at yh HT1
          have hgw : gh < wo.heap.size := hgh2
          go_wp2
          refine wp_region_held_drew (S := fun W => W.cell? ⟨gh, j, none⟩ = some (.int .u32 (x.toNat : Int))) (by kernel_rfl) (yh) (fun hHeld => ?_)
          refine wpAnyH_take (i := 0) (oi := { dst := some 29, op := Op.move (Operand.tmp 6), type := 29, pos := "l1_hash.go:102", after := _, guard := none }) (v := ?_) rfl (by kernel_rfl) (by kernel_rfl) (by kernel_rfl) (fun _ _ _ h => h) (Or.inl ⟨by rfl, ?_⟩) (by assumption) ?_
          rotate_left
          · (intro w hSw; (try dsimp only at hSw); go_simp; (try with_reducible rfl))
          simp only [Act.put, List.setIfInBounds_toArray, List.set_cons_zero, List.set_cons_succ]
          refine wpAnyH_take (i := 1) (oi := { dst := some 30, op := Op.move (Operand.tmp 3), type := 113, pos := "l1_hash.go:102", after := _, guard := none }) (v := ?_) rfl (by kernel_rfl) (by kernel_rfl) (by kernel_rfl) (fun _ _ _ h => h) (Or.inl ⟨by rfl, ?_⟩) (by assumption) ?_
          rotate_left
          · (intro w hSw; (try dsimp only at hSw); go_simp; (try with_reducible rfl))
          simp only [Act.put, List.setIfInBounds_toArray, List.set_cons_zero, List.set_cons_succ]
          refine wpAnyH_take (i := 2) (oi := { dst := some 31, op := Op.move (Operand.tmp 7), type := 3, pos := "l1_hash.go:102", after := _, guard := none }) (v := ?_) rfl (by kernel_rfl) (by kernel_rfl) (by kernel_rfl) (fun _ _ _ h => h) (Or.inl ⟨by rfl, ?_⟩) (by assumption) ?_
          rotate_left
          · (intro w hSw; (try dsimp only at hSw); go_simp; (try with_reducible rfl))
          simp only [Act.put, List.setIfInBounds_toArray, List.set_cons_zero, List.set_cons_succ]
          refine wpAnyH_take (i := 3) (oi := { dst := some 32, op := Op.indexAddr 113 (Operand.tmp 30) (Operand.tmp 31), type := 0, pos := "l1_hash.go:102", after := _, guard := none }) (v := ?_) rfl (by kernel_rfl) (by kernel_rfl) (by kernel_rfl) (fun _ _ _ h => h) (Or.inl ⟨by rfl, ?_⟩) (by assumption) ?_
          rotate_left
          · (intro w hSw; (try dsimp only at hSw); go_simp; (try with_reducible rfl))
          simp only [Act.put, List.setIfInBounds_toArray, List.set_cons_zero, List.set_cons_succ]
          refine wpAnyH_take (i := 4) (oi := { dst := some 33, op := Op.load 92 (Operand.tmp 32), type := 92, pos := "l1_hash.go:102", after := _, guard := none }) (v := ?_) rfl (by kernel_rfl) (by kernel_rfl) (by kernel_rfl) (fun _ _ _ h => h) (Or.inl ⟨by rfl, ?_⟩) (by assumption) ?_
          rotate_left
          · (intro w hSw; (try dsimp only at hSw); go_simp; (try with_reducible rfl))
          simp only [Act.put, List.setIfInBounds_toArray, List.set_cons_zero, List.set_cons_succ]
          refine wpAnyH_take (i := 5) (oi := { dst := some 34, op := Op.binOp BinOp.shr 92 (Operand.tmp 33) (Operand.const (Value.int IntKind.u64 24)) 111, type := 92, pos := "l1_hash.go:102", after := _, guard := none }) (v := ?_) rfl (by kernel_rfl) (by kernel_rfl) (by kernel_rfl) (fun _ _ _ h => h) (Or.inl ⟨by rfl, ?_⟩) (by assumption) ?_
          rotate_left
          · (intro w hSw; (try dsimp only at hSw); go_simp; (try with_reducible rfl))
          simp only [Act.put, List.setIfInBounds_toArray, List.set_cons_zero, List.set_cons_succ]
          refine wpAnyH_take (i := 6) (oi := { dst := some 35, op := Op.convert 92 5 (Operand.tmp 34), type := 5, pos := "l1_hash.go:102", after := _, guard := none }) (v := ?_) rfl (by kernel_rfl) (by kernel_rfl) (by kernel_rfl) (fun _ _ _ h => h) (Or.inl ⟨by rfl, ?_⟩) (by assumption) ?_
          rotate_left
          · (intro w hSw; (try dsimp only at hSw); go_simp; (try with_reducible rfl))
          simp only [Act.put, List.setIfInBounds_toArray, List.set_cons_zero, List.set_cons_succ]
          refine wpAnyH_take (i := 7) (oi := { dst := some 36, op := Op.move (Operand.tmp 3), type := 113, pos := "l1_hash.go:102", after := _, guard := none }) (v := ?_) rfl (by kernel_rfl) (by kernel_rfl) (by kernel_rfl) (fun _ _ _ h => h) (Or.inl ⟨by rfl, ?_⟩) (by assumption) ?_
          rotate_left
          · (intro w hSw; (try dsimp only at hSw); go_simp; (try with_reducible rfl))
          simp only [Act.put, List.setIfInBounds_toArray, List.set_cons_zero, List.set_cons_succ]
          refine wpAnyH_take (i := 8) (oi := { dst := some 37, op := Op.move (Operand.tmp 7), type := 3, pos := "l1_hash.go:102", after := _, guard := none }) (v := ?_) rfl (by kernel_rfl) (by kernel_rfl) (by kernel_rfl) (fun _ _ _ h => h) (Or.inl ⟨by rfl, ?_⟩) (by assumption) ?_
          rotate_left
          · (intro w hSw; (try dsimp only at hSw); go_simp; (try with_reducible rfl))
          simp only [Act.put, List.setIfInBounds_toArray, List.set_cons_zero, List.set_cons_succ]
          refine wpAnyH_take (i := 9) (oi := { dst := some 38, op := Op.indexAddr 113 (Operand.tmp 36) (Operand.tmp 37), type := 0, pos := "l1_hash.go:102", after := _, guard := none }) (v := ?_) rfl (by kernel_rfl) (by kernel_rfl) (by kernel_rfl) (fun _ _ _ h => h) (Or.inl ⟨by rfl, ?_⟩) (by assumption) ?_
          rotate_left
          · (intro w hSw; (try dsimp only at hSw); go_simp; (try with_reducible rfl))
          simp only [Act.put, List.setIfInBounds_toArray, List.set_cons_zero, List.set_cons_succ]
          refine wpAnyH_take (i := 10) (oi := { dst := some 39, op := Op.load 92 (Operand.tmp 38), type := 92, pos := "l1_hash.go:102", after := _, guard := none }) (v := ?_) rfl (by kernel_rfl) (by kernel_rfl) (by kernel_rfl) (fun _ _ _ h => h) (Or.inl ⟨by rfl, ?_⟩) (by assumption) ?_
          rotate_left
          · (intro w hSw; (try dsimp only at hSw); go_simp; (try with_reducible rfl))
          simp only [Act.put, List.setIfInBounds_toArray, List.set_cons_zero, List.set_cons_succ]
          refine wpAnyH_take (i := 11) (oi := { dst := some 40, op := Op.binOp BinOp.shr 92 (Operand.tmp 39) (Operand.const (Value.int IntKind.u64 16)) 111, type := 92, pos := "l1_hash.go:102", after := _, guard := none }) (v := ?_) rfl (by kernel_rfl) (by kernel_rfl) (by kernel_rfl) (fun _ _ _ h => h) (Or.inl ⟨by rfl, ?_⟩) (by assumption) ?_
          rotate_left
          · (intro w hSw; (try dsimp only at hSw); go_simp; (try with_reducible rfl))
          simp only [Act.put, List.setIfInBounds_toArray, List.set_cons_zero, List.set_cons_succ]
          refine wpAnyH_take (i := 12) (oi := { dst := some 41, op := Op.convert 92 5 (Operand.tmp 40), type := 5, pos := "l1_hash.go:102", after := _, guard := none }) (v := ?_) rfl (by kernel_rfl) (by kernel_rfl) (by kernel_rfl) (fun _ _ _ h => h) (Or.inl ⟨by rfl, ?_⟩) (by assumption) ?_
          rotate_left
          · (intro w hSw; (try dsimp only at hSw); go_simp; (try with_reducible rfl))
          simp only [Act.put, List.setIfInBounds_toArray, List.set_cons_zero, List.set_cons_succ]
          refine wpAnyH_take (i := 13) (oi := { dst := some 42, op := Op.move (Operand.tmp 3), type := 113, pos := "l1_hash.go:102", after := _, guard := none }) (v := ?_) rfl (by kernel_rfl) (by kernel_rfl) (by kernel_rfl) (fun _ _ _ h => h) (Or.inl ⟨by rfl, ?_⟩) (by assumption) ?_
          rotate_left
          · (intro w hSw; (try dsimp only at hSw); go_simp; (try with_reducible rfl))
          simp only [Act.put, List.setIfInBounds_toArray, List.set_cons_zero, List.set_cons_succ]
          refine wpAnyH_take (i := 14) (oi := { dst := some 43, op := Op.move (Operand.tmp 7), type := 3, pos := "l1_hash.go:102", after := _, guard := none }) (v := ?_) rfl (by kernel_rfl) (by kernel_rfl) (by kernel_rfl) (fun _ _ _ h => h) (Or.inl ⟨by rfl, ?_⟩) (by assumption) ?_
          rotate_left
          · (intro w hSw; (try dsimp only at hSw); go_simp; (try with_reducible rfl))
          simp only [Act.put, List.setIfInBounds_toArray, List.set_cons_zero, List.set_cons_succ]
          refine wpAnyH_take (i := 15) (oi := { dst := some 44, op := Op.indexAddr 113 (Operand.tmp 42) (Operand.tmp 43), type := 0, pos := "l1_hash.go:102", after := _, guard := none }) (v := ?_) rfl (by kernel_rfl) (by kernel_rfl) (by kernel_rfl) (fun _ _ _ h => h) (Or.inl ⟨by rfl, ?_⟩) (by assumption) ?_
          rotate_left
          · (intro w hSw; (try dsimp only at hSw); go_simp; (try with_reducible rfl))
          simp only [Act.put, List.setIfInBounds_toArray, List.set_cons_zero, List.set_cons_succ]
          refine wpAnyH_take (i := 16) (oi := { dst := some 45, op := Op.load 92 (Operand.tmp 44), type := 92, pos := "l1_hash.go:102", after := _, guard := none }) (v := ?_) rfl (by kernel_rfl) (by kernel_rfl) (by kernel_rfl) (fun _ _ _ h => h) (Or.inl ⟨by rfl, ?_⟩) (by assumption) ?_
          rotate_left
          · (intro w hSw; (try dsimp only at hSw); go_simp; (try with_reducible rfl))
          simp only [Act.put, List.setIfInBounds_toArray, List.set_cons_zero, List.set_cons_succ]
          refine wpAnyH_take (i := 17) (oi := { dst := some 46, op := Op.binOp BinOp.shr 92 (Operand.tmp 45) (Operand.const (Value.int IntKind.u64 8)) 111, type := 92, pos := "l1_hash.go:102", after := _, guard := none }) (v := ?_) rfl (by kernel_rfl) (by kernel_rfl) (by kernel_rfl) (fun _ _ _ h => h) (Or.inl ⟨by rfl, ?_⟩) (by assumption) ?_
          rotate_left
          · (intro w hSw; (try dsimp only at hSw); go_simp; (try with_reducible rfl))
          simp only [Act.put, List.setIfInBounds_toArray, List.set_cons_zero, List.set_cons_succ]
          refine wpAnyH_take (i := 18) (oi := { dst := some 47, op := Op.convert 92 5 (Operand.tmp 46), type := 5, pos := "l1_hash.go:102", after := _, guard := none }) (v := ?_) rfl (by kernel_rfl) (by kernel_rfl) (by kernel_rfl) (fun _ _ _ h => h) (Or.inl ⟨by rfl, ?_⟩) (by assumption) ?_
          rotate_left
          · (intro w hSw; (try dsimp only at hSw); go_simp; (try with_reducible rfl))
          simp only [Act.put, List.setIfInBounds_toArray, List.set_cons_zero, List.set_cons_succ]
          refine wpAnyH_take (i := 19) (oi := { dst := some 48, op := Op.move (Operand.tmp 3), type := 113, pos := "l1_hash.go:102", after := _, guard := none }) (v := ?_) rfl (by kernel_rfl) (by kernel_rfl) (by kernel_rfl) (fun _ _ _ h => h) (Or.inl ⟨by rfl, ?_⟩) (by assumption) ?_
          rotate_left
          · (intro w hSw; (try dsimp only at hSw); go_simp; (try with_reducible rfl))
          simp only [Act.put, List.setIfInBounds_toArray, List.set_cons_zero, List.set_cons_succ]
          refine wpAnyH_take (i := 20) (oi := { dst := some 49, op := Op.move (Operand.tmp 7), type := 3, pos := "l1_hash.go:102", after := _, guard := none }) (v := ?_) rfl (by kernel_rfl) (by kernel_rfl) (by kernel_rfl) (fun _ _ _ h => h) (Or.inl ⟨by rfl, ?_⟩) (by assumption) ?_
          rotate_left
          · (intro w hSw; (try dsimp only at hSw); go_simp; (try with_reducible rfl))
          simp only [Act.put, List.setIfInBounds_toArray, List.set_cons_zero, List.set_cons_succ]
          refine wpAnyH_take (i := 21) (oi := { dst := some 50, op := Op.indexAddr 113 (Operand.tmp 48) (Operand.tmp 49), type := 0, pos := "l1_hash.go:102", after := _, guard := none }) (v := ?_) rfl (by kernel_rfl) (by kernel_rfl) (by kernel_rfl) (fun _ _ _ h => h) (Or.inl ⟨by rfl, ?_⟩) (by assumption) ?_
          rotate_left
          · (intro w hSw; (try dsimp only at hSw); go_simp; (try with_reducible rfl))
          simp only [Act.put, List.setIfInBounds_toArray, List.set_cons_zero, List.set_cons_succ]
          refine wpAnyH_take (i := 22) (oi := { dst := some 51, op := Op.load 92 (Operand.tmp 50), type := 92, pos := "l1_hash.go:102", after := _, guard := none }) (v := ?_) rfl (by kernel_rfl) (by kernel_rfl) (by kernel_rfl) (fun _ _ _ h => h) (Or.inl ⟨by rfl, ?_⟩) (by assumption) ?_
          rotate_left
          · (intro w hSw; (try dsimp only at hSw); go_simp; (try with_reducible rfl))
          simp only [Act.put, List.setIfInBounds_toArray, List.set_cons_zero, List.set_cons_succ]
          refine wpAnyH_take (i := 23) (oi := { dst := some 52, op := Op.convert 92 5 (Operand.tmp 51), type := 5, pos := "l1_hash.go:102", after := _, guard := none }) (v := ?_) rfl (by kernel_rfl) (by kernel_rfl) (by kernel_rfl) (fun _ _ _ h => h) (Or.inl ⟨by rfl, ?_⟩) (by assumption) ?_
          rotate_left
          · (intro w hSw; (try dsimp only at hSw); go_simp; (try with_reducible rfl))
          simp only [Act.put, List.setIfInBounds_toArray, List.set_cons_zero, List.set_cons_succ]
          refine wpAnyH_ready (rs := [24]) (by kernel_rfl) (by simp) ?_
          refine AllReadyH.cons (o := { dst := some 53, op := Op.buildSlice 29 4 #[(0, Operand.tmp 35), (1, Operand.tmp 41), (2, Operand.tmp 47), (3, Operand.tmp 52)], type := 29, pos := "l1_hash.go:102", after := _, guard := none }) rfl (fun K hK => ?_) AllReadyH.nil
          go_simp
          refine hK.out _ _ ?_ (fun hHeld => ?_)
          · exact cell_bel (bel_d _ _) yh
          clear hK K
          (try simp only [Act.put, List.setIfInBounds_toArray, List.set_cons_zero, List.set_cons_succ])
          refine wpAnyH_ready (rs := [25]) (by kernel_rfl) (by simp) ?_
          refine AllReadyH.cons (o := { dst := some 54, op := Op.call { callee := Callee.builtin Builtin.append, args := #[Operand.tmp 29, Operand.tmp 53], argTypes := #[29, 29] }, type := 29, pos := "l1_hash.go:102", after := _, guard := none }) rfl (fun K hK => ?_) AllReadyH.nil
          refine step_append_ownM _ rfl (.tmp 29) (.tmp 53) 29 rfl wo.heap.size 5 i0 (.int .u8 0) 1 1 Tryd.underlying29 hi hz0 hz1 hz2 rfl (by decide) (.slice a (4 * j) c) (4 * j) (Lib.byteCells ((T.list.take j).flatMap bytesW)) rfl ((HO.out.alloc _).below ((Below.refl _ _).drew)) ⟨wr.heap.size, 0, none⟩ 4 4 (Lib.byteCells (bytesW x)) rfl rfl (by rw [byte_four x]; exact cells_four _ _ _ _ _ _) (fun u hu => by simp only [Lib.byteCells, List.mem_map] at hu; obtain ⟨y, _, rfl⟩ := hu; rfl) (by unfold maxLen; omega) (by omega) (by simp; omega) ?_
          intro v2 w2 o2 g2 _
          have hC2 : Below wo.heap.size wo w2 := ((HB.out.alloc hbz _).drew).grown g2 (by simp; omega) (fun q hq => (HO.out.lt q hq).1)
          have B2 := Lib.hid hC2
          have O2 := Lib.hid (ownsM_cast (m := 4 * (j + 1)) (ys := Lib.byteCells ((T.list.take (j + 1)).flatMap bytesW)) o2 (by omega) (by rw [HT1.out]; simp [Lib.byteCells]))
          clear o2 g2
          refine hK.out _ _ ?_ (fun hHeld => ?_)
          · exact cell_two HB.out B2.out hgw yh
          clear hK K
          (try simp only [Act.put, List.setIfInBounds_toArray, List.set_cons_zero, List.set_cons_succ])
          refine wpAnyH_take (i := 26) (oi := { dst := some 6, op := Op.assign (Operand.tmp 54), type := 29, pos := "l1_hash.go:102", after := _, guard := none }) (v := ?_) rfl (by kernel_rfl) (by kernel_rfl) (by kernel_rfl) (fun _ _ _ h => h) (Or.inl ⟨by rfl, ?_⟩) (by assumption) ?_
          rotate_left
          · (intro w hSw; (try dsimp only at hSw); go_simp; (try with_reducible rfl))
          simp only [Act.put, List.setIfInBounds_toArray, List.set_cons_zero, List.set_cons_succ]
          refine wpAnyH_done (by kernel_rfl) ?_ _
          clear hHeld
          go_wp2
          go_roundg (gk - 1)
          case measure => have := HJ.out; omega
          case rel => exact ⟨j + 1, by have := HJ.out; omega, by go_num, O2.out, B2.out⟩
        · obtain rfl : j = 8 := by omega
          obtain ⟨go, co, rfl, hgo, hgo2, -, -, hco⟩ := ho.at (by omega)
          have HE := Lib.hid (show T.list.take 8 = T.list from List.take_of_length_le (by rw [HTl.out]; exact Nat.le_refl _))
          have hbl : (T.list.flatMap bytesW).length = 32 := by simp [S8.list, bytesW]
          have hcv := run_convert_bytes_back (P := Tryd.prog) wr 29 9 5 ⟨go, 0, none⟩ co (T.list.flatMap bytesW) Tryd.underlying29 Tryd.underlying5 Tryd.underlying9 (fun i hi => by
            rw [addr_add, Nat.zero_add]
            rw [HE.out] at hco
            exact hco i _ (cells_at hi))
          rw [hbl] at hcv
          clear ho hbel hj hco hbl
          go_wp2
          go_ret
          exact ⟨ret_str (show (⟨(T.list.flatMap bytesW).toArray⟩ : ByteArray) = ⟨(blks H0 (s.data.toList ++ endB s.size) k).bytes.toArray⟩ by rw [← HTb.out, HTe.out, HLe.out]), BW.out.trans (HB.out.mono BW.out.size)⟩
    · have hkn : k < n := by omega
      have hal : a + 64 ≤ 64 * n := by have := HA.out; omega
      have hai : (a : Int) < ((64 * n : Nat) : Int) := by omega
      have ha0 : (0 : Int) ≤ (a : Int) := by omega
      have hac : (a : Int) + 64 ≤ (cb : Int) := by omega
      have HQ := Lib.hid hq
      have HBy := Lib.hid (show BytesB wr gb a (blk L k) from fun j hj => by
        have hj64 : (blk L k).length = 64 := blk_len hkn HL.out
        have hj2 : 64 * k + j < L.length := by rw [HL.out]; omega
        rw [HB.out.cell (p := ⟨gb, a + j, none⟩) hgb2, HA.out, blk_get L k j hj hj2]
        exact HC.out (64 * k + j) _ (cells_at hj2))
      have HBl := Lib.hid (show (blk L k).length = 64 from blk_len hkn HL.out)
      clear hk hq
      go_wp2_with fail
      refine (l1Block_any gh 0 ch gb a _ (blks H0 L k) (blk L k) HBl.out wr HW.out HBy.out).mono ?_
      rintro e w2 ⟨v2, rfl, o2, b2⟩
      have O2 := Lib.hid (show OwnsM w2 w.heap.size 92 1 v2 8 (uvs (blks H0 L (k + 1)).list) from OwnsM.mono o2 (by omega))
      have B2 := Lib.hid (HB.out.trans (b2.mono hbz))
      clear o2 b2
      go_wp2
      go_roundg (gk - 1)
      case measure => have := HQ.out; omega
      case rel => exact ⟨k + 1, a + 64, by have := HQ.out; have := HK.out; omega, Lib.hid (by have := HA.out; omega), by go_num, O2.out, B2.out⟩
end Go.Proofs.YtfekpbkcidhbfaaDoor
