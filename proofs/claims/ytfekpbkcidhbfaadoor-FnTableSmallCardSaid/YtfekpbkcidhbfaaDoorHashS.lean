import Derived.Test.YtfekpbkcidhbfaaDoorSumS
/- l1Hex and HashSum of the model. -/
namespace Go.Proofs.YtfekpbkcidhbfaaDoor
open Go Go.RowKit

theorem hexB_take (l : List UInt8) (k : Nat) (h : k < l.length) : hexB (l.take (k + 1)) = hexB (l.take k) ++ [figC (l[k].toNat / 16), figC (l[k].toNat % 16)] := by
  rw [List.take_succ_eq_append_getElem h, hexB_append]; rfl
theorem hexB_len (l : List UInt8) : (hexB l).length = 2 * l.length := by
  induction l with
  | nil => rfl
  | cons x l ih =>
    have : hexB (x :: l) = [figC (x.toNat / 16), figC (x.toNat % 16)] ++ hexB l := rfl
    rw [this, List.length_append, ih, List.length_cons]; simp; omega
theorem cells_two (w : World) (a b : Value) (e : TypeId) : ∀ j u, [a, b][j]? = some u → ((w.alloc (.cells #[a, b] e)).drew).cell? ((⟨w.heap.size, 0, none⟩ : Addr).add j) = some u := by
  intro j u hj
  rw [addr_add, Nat.zero_add]
  show (w.alloc (.cells #[a, b] e)).cell? ⟨w.heap.size, j, none⟩ = some u
  exact (Box.alloc w #[a, b] e j u hj).1

set_option maxRecDepth 100000 in
set_option maxHeartbeats 2000000 in
theorem l1Hex_any (s : ByteArray) (hm : s.size ≤ 1099511627776) (h1 : 0 < s.size) (w : World) :
    Calls Tryd.prog 76 #[.string s] w fun e w' => e = .returned (.string ⟨(hexB s.data.toList).toArray⟩) ∧ Below w.heap.size w w' := by
  obtain ⟨i0, hi, hz0, hz1, hz2⟩ := info_parts infoU8b
  have O0 := Lib.hid (own_litE w 5 w.heap.size rfl w.heap.size (Nat.le_refl _))
  have hl : s.data.toList.length = s.size := by simp
  have HL := Lib.hid hl
  clear hl
  go_enter Tryd.func76, Tryd.ntmps76
  go_wp2
  go_loopg [3, 4] s.size (fun q v v4 wr => ∃ k : Nat, k + q = s.size ∧ v4 = .int .i64 k ∧ OwnsM wr w.heap.size 5 1 v (2 * k) (Lib.byteCells (hexB (s.data.toList.take k))) ∧ Below w.heap.size w wr)
  case atStart => exact ⟨0, by omega, rfl, O0.out, below_alloc _ _⟩
  case round =>
    clear O0
    obtain ⟨k, hk, rfl, ho, hbel⟩ := hrel
    have HO := Lib.hid ho
    have HB := Lib.hid hbel
    have hbz := hbel.size
    have HK := Lib.hid hk
    by_cases hlt : k < s.size
    · obtain ⟨a, c, rfl⟩ := ho.shp
      clear ho hbel hk
      have hki : (k : Int) < (s.size : Int) := by omega
      have hk0 : (0 : Int) ≤ (k : Int) := by omega
      have HT1 := Lib.hid (show hexB (s.data.toList.take (k + 1)) = hexB (s.data.toList.take k) ++ [figC (s[k].toNat / 16), figC (s[k].toNat % 16)] from hexB_take s.data.toList k (by rw [HL.out]; exact hlt))
      have hc := s[k].toNat_lt
      generalize hx : s[k].toNat = x at HT1 hc
      have HX := Lib.hid hx
      clear hx
      have hq1 : (x : Int).tdiv 16 = ((x / 16 : Nat) : Int) := by rw [Int.tdiv_eq_ediv_of_nonneg (by omega)]; omega
      have hq2 : (x : Int).tmod 16 = ((x % 16 : Nat) : Int) := by rw [Int.tmod_eq_emod_of_nonneg (by omega)]; omega
      have hq3 : IntKind.u8.wrap ((x / 16 : Nat) : Int) = ((x / 16 : Nat) : Int) := by unfold IntKind.wrap; simp [IntKind.bits, IntKind.signed]; omega
      have hq4 : IntKind.u8.wrap ((x % 16 : Nat) : Int) = ((x % 16 : Nat) : Int) := by unfold IntKind.wrap; simp [IntKind.bits, IntKind.signed]; omega
      obtain ⟨qa, hqa⟩ : ∃ q, q = x / 16 := ⟨_, rfl⟩
      obtain ⟨qb, hqb⟩ : ∃ q, q = x % 16 := ⟨_, rfl⟩
      have hxa := run_fig .u8 qa (by omega)
      have hxb := run_fig .u8 qb (by omega)
      unfold figArr at hxa hxb
      rw [← hqa] at hq1 hq3 HT1
      rw [← hqb] at hq2 hq4 HT1
      clear hqa hqb
      go_wp2
      refine wp_region_held_drew (S := fun _ => True) (by kernel_rfl) (trivial) (fun hHeld => ?_)
      refine wpAnyH_take (i := 0) (oi := { dst := some 12, op := Op.move (Operand.tmp 3), type := 29, pos := "l1_hash.go:111", after := _, guard := none }) (v := ?_) rfl (by kernel_rfl) (by kernel_rfl) (by kernel_rfl) (fun _ _ _ h => h) (Or.inl ⟨by rfl, ?_⟩) (by assumption) ?_
      rotate_left
      · (intro w hSw; (try dsimp only at hSw); go_simp; (try with_reducible rfl))
      simp only [Act.put, List.setIfInBounds_toArray, List.set_cons_zero, List.set_cons_succ]
      refine wpAnyH_take (i := 1) (oi := { dst := some 13, op := Op.move (Operand.tmp 0), type := 9, pos := "l1_hash.go:111", after := _, guard := none }) (v := ?_) rfl (by kernel_rfl) (by kernel_rfl) (by kernel_rfl) (fun _ _ _ h => h) (Or.inl ⟨by rfl, ?_⟩) (by assumption) ?_
      rotate_left
      · (intro w hSw; (try dsimp only at hSw); go_simp; (try with_reducible rfl))
      simp only [Act.put, List.setIfInBounds_toArray, List.set_cons_zero, List.set_cons_succ]
      refine wpAnyH_take (i := 2) (oi := { dst := some 14, op := Op.move (Operand.tmp 4), type := 3, pos := "l1_hash.go:111", after := _, guard := none }) (v := ?_) rfl (by kernel_rfl) (by kernel_rfl) (by kernel_rfl) (fun _ _ _ h => h) (Or.inl ⟨by rfl, ?_⟩) (by assumption) ?_
      rotate_left
      · (intro w hSw; (try dsimp only at hSw); go_simp; (try with_reducible rfl))
      simp only [Act.put, List.setIfInBounds_toArray, List.set_cons_zero, List.set_cons_succ]
      refine wpAnyH_take (i := 3) (oi := { dst := some 15, op := Op.index 9 (Operand.tmp 13) (Operand.tmp 14), type := 5, pos := "l1_hash.go:111", after := _, guard := none }) (v := ?_) rfl (by kernel_rfl) (by kernel_rfl) (by kernel_rfl) (fun _ _ _ h => h) (Or.inl ⟨by rfl, ?_⟩) (by assumption) ?_
      rotate_left
      · (intro w hSw; (try dsimp only at hSw); go_simp; (try with_reducible rfl))
      simp only [Act.put, List.setIfInBounds_toArray, List.set_cons_zero, List.set_cons_succ]
      simp only [HX.out]
      refine wpAnyH_take (i := 4) (oi := { dst := some 16, op := Op.binOp BinOp.quo 5 (Operand.tmp 15) (Operand.const (Value.int IntKind.u8 16)) 5, type := 5, pos := "l1_hash.go:111", after := _, guard := none }) (v := ?_) rfl (by kernel_rfl) (by kernel_rfl) (by kernel_rfl) (fun _ _ _ h => h) (Or.inl ⟨by rfl, ?_⟩) (by assumption) ?_
      rotate_left
      · (intro w hSw; (try dsimp only at hSw); go_simp; (try with_reducible rfl))
      simp only [Act.put, List.setIfInBounds_toArray, List.set_cons_zero, List.set_cons_succ]
      refine wpAnyH_take (i := 5) (oi := { dst := some 17, op := Op.index 9 (Operand.const (Value.string { data := #[48, 49, 50, 51, 52, 53, 54, 55, 56, 57, 97, 98, 99, 100, 101, 102] })) (Operand.tmp 16), type := 5, pos := "l1_hash.go:111", after := _, guard := none }) (v := ?_) rfl (by kernel_rfl) (by kernel_rfl) (by kernel_rfl) (fun _ _ _ h => h) (Or.inl ⟨by rfl, ?_⟩) (by assumption) ?_
      rotate_left
      · (intro w hSw; (try dsimp only at hSw); go_simp; (try with_reducible rfl))
      simp only [Act.put, List.setIfInBounds_toArray, List.set_cons_zero, List.set_cons_succ]
      refine wpAnyH_take (i := 6) (oi := { dst := some 18, op := Op.move (Operand.tmp 0), type := 9, pos := "l1_hash.go:111", after := _, guard := none }) (v := ?_) rfl (by kernel_rfl) (by kernel_rfl) (by kernel_rfl) (fun _ _ _ h => h) (Or.inl ⟨by rfl, ?_⟩) (by assumption) ?_
      rotate_left
      · (intro w hSw; (try dsimp only at hSw); go_simp; (try with_reducible rfl))
      simp only [Act.put, List.setIfInBounds_toArray, List.set_cons_zero, List.set_cons_succ]
      refine wpAnyH_take (i := 7) (oi := { dst := some 19, op := Op.move (Operand.tmp 4), type := 3, pos := "l1_hash.go:111", after := _, guard := none }) (v := ?_) rfl (by kernel_rfl) (by kernel_rfl) (by kernel_rfl) (fun _ _ _ h => h) (Or.inl ⟨by rfl, ?_⟩) (by assumption) ?_
      rotate_left
      · (intro w hSw; (try dsimp only at hSw); go_simp; (try with_reducible rfl))
      simp only [Act.put, List.setIfInBounds_toArray, List.set_cons_zero, List.set_cons_succ]
      refine wpAnyH_take (i := 8) (oi := { dst := some 20, op := Op.index 9 (Operand.tmp 18) (Operand.tmp 19), type := 5, pos := "l1_hash.go:111", after := _, guard := none }) (v := ?_) rfl (by kernel_rfl) (by kernel_rfl) (by kernel_rfl) (fun _ _ _ h => h) (Or.inl ⟨by rfl, ?_⟩) (by assumption) ?_
      rotate_left
      · (intro w hSw; (try dsimp only at hSw); go_simp; (try with_reducible rfl))
      simp only [Act.put, List.setIfInBounds_toArray, List.set_cons_zero, List.set_cons_succ]
      simp only [HX.out]
      refine wpAnyH_take (i := 9) (oi := { dst := some 21, op := Op.binOp BinOp.rem 5 (Operand.tmp 20) (Operand.const (Value.int IntKind.u8 16)) 5, type := 5, pos := "l1_hash.go:111", after := _, guard := none }) (v := ?_) rfl (by kernel_rfl) (by kernel_rfl) (by kernel_rfl) (fun _ _ _ h => h) (Or.inl ⟨by rfl, ?_⟩) (by assumption) ?_
      rotate_left
      · (intro w hSw; (try dsimp only at hSw); go_simp; (try with_reducible rfl))
      simp only [Act.put, List.setIfInBounds_toArray, List.set_cons_zero, List.set_cons_succ]
      refine wpAnyH_take (i := 10) (oi := { dst := some 22, op := Op.index 9 (Operand.const (Value.string { data := #[48, 49, 50, 51, 52, 53, 54, 55, 56, 57, 97, 98, 99, 100, 101, 102] })) (Operand.tmp 21), type := 5, pos := "l1_hash.go:111", after := _, guard := none }) (v := ?_) rfl (by kernel_rfl) (by kernel_rfl) (by kernel_rfl) (fun _ _ _ h => h) (Or.inl ⟨by rfl, ?_⟩) (by assumption) ?_
      rotate_left
      · (intro w hSw; (try dsimp only at hSw); go_simp; (try with_reducible rfl))
      simp only [Act.put, List.setIfInBounds_toArray, List.set_cons_zero, List.set_cons_succ]
      refine wpAnyH_ready (rs := [11]) (by kernel_rfl) (by simp) ?_
      refine AllReadyH.cons (o := { dst := some 23, op := Op.buildSlice 29 2 #[(0, Operand.tmp 17), (1, Operand.tmp 22)], type := 29, pos := "l1_hash.go:111", after := _, guard := none }) rfl (fun K hK => ?_) AllReadyH.nil
      go_simp
      refine hK.out _ _ ?_ (fun hHeld => ?_)
      · trivial
      clear hK K
      (try simp only [Act.put, List.setIfInBounds_toArray, List.set_cons_zero, List.set_cons_succ])
      refine wpAnyH_ready (rs := [12]) (by kernel_rfl) (by simp) ?_
      refine AllReadyH.cons (o := { dst := some 24, op := Op.call { callee := Callee.builtin Builtin.append, args := #[Operand.tmp 12, Operand.tmp 23], argTypes := #[29, 29] }, type := 29, pos := "l1_hash.go:111", after := _, guard := none }) rfl (fun K hK => ?_) AllReadyH.nil
      refine step_append_ownM _ rfl (.tmp 12) (.tmp 23) 29 rfl w.heap.size 5 i0 (.int .u8 0) 1 1 Tryd.underlying29 hi hz0 hz1 hz2 rfl (by decide) (.slice a (2 * k) c) (2 * k) (Lib.byteCells (hexB (s.data.toList.take k))) rfl ((HO.out.alloc _).below ((Below.refl _ _).drew)) ⟨wr.heap.size, 0, none⟩ 2 2 [.int .u8 ((figC qa).toNat : Int), .int .u8 ((figC qb).toNat : Int)] rfl rfl (cells_two _ _ _ _) (fun u hu => by simp at hu; rcases hu with rfl | rfl <;> rfl) (by unfold maxLen; omega) (by omega) (by simp; omega) ?_
      intro v2 w2 o2 g2 _
      have hC2 : Below w.heap.size w w2 := ((HB.out.alloc hbz _).drew).grown g2 (by simp; omega) (fun q hq => (HO.out.lt q hq).1)
      have B2 := Lib.hid hC2
      have O2 := Lib.hid (ownsM_cast (m := 2 * (k + 1)) (ys := Lib.byteCells (hexB (s.data.toList.take (k + 1)))) o2 (by omega) (by rw [HT1.out]; simp [Lib.byteCells]))
      clear o2 g2
      refine hK.out _ _ ?_ (fun hHeld => ?_)
      · trivial
      clear hK K
      (try simp only [Act.put, List.setIfInBounds_toArray, List.set_cons_zero, List.set_cons_succ])
      refine wpAnyH_take (i := 13) (oi := { dst := some 3, op := Op.assign (Operand.tmp 24), type := 29, pos := "l1_hash.go:111", after := _, guard := none }) (v := ?_) rfl (by kernel_rfl) (by kernel_rfl) (by kernel_rfl) (fun _ _ _ h => h) (Or.inl ⟨by rfl, ?_⟩) (by assumption) ?_
      rotate_left
      · (intro w hSw; (try dsimp only at hSw); go_simp; (try with_reducible rfl))
      simp only [Act.put, List.setIfInBounds_toArray, List.set_cons_zero, List.set_cons_succ]
      refine wpAnyH_done (by kernel_rfl) ?_ _
      clear hHeld hq1 hq2 hq3 hq4 hxa hxb
      go_wp2
      go_roundg (gk - 1)
      case measure => have := HK.out; omega
      case rel => exact ⟨k + 1, by have := HK.out; omega, by go_num, O2.out, B2.out⟩
    · have hke : k = s.size := by omega
      subst hke
      have HE := Lib.hid (show s.data.toList.take s.size = s.data.toList from List.take_of_length_le (by rw [HL.out]; exact Nat.le_refl _))
      obtain ⟨g, c, rfl, hg, hg2, -, -, hcc⟩ := ho.at (by omega)
      have hbl : (hexB s.data.toList).length = 2 * s.size := by rw [hexB_len, HL.out]
      have hcv := run_convert_bytes_back (P := Tryd.prog) wr 29 9 5 ⟨g, 0, none⟩ c (hexB s.data.toList) Tryd.underlying29 Tryd.underlying5 Tryd.underlying9 (fun i hi => by
        rw [addr_add, Nat.zero_add]
        rw [HE.out] at hcc
        exact hcc i _ (cells_at hi))
      rw [hbl] at hcv
      clear ho hbel hk hcc hbl
      go_wp2
      go_ret
      exact ⟨rfl, HB.out⟩

set_option maxRecDepth 100000 in
set_option maxHeartbeats 1000000 in
theorem specHash_any (s : ByteArray) (hm : s.size ≤ 549755813888) (w : World) :
    Calls Tryd.prog 62 #[.string s] w fun e w' => e = .returned (.string (shaS s)) ∧ Below w.heap.size w w' := by
  have HF := Lib.hid (show (⟨(hexB (blks H0 (s.data.toList ++ endB s.size) ((s.size + 9 + zerosN s.size) / 64)).bytes).toArray⟩ : ByteArray) = shaS s by
    rw [hex_state]
    unfold shaS shaL
    rw [show s.data.toList.length = s.size by simp])
  have hb : ∀ S : S8, (⟨S.bytes.toArray⟩ : ByteArray).size = 32 := fun S => by show S.bytes.toArray.size = 32; simp [S8.bytes, bytesW]
  have HB := Lib.hid hb
  clear hb
  go_enter Tryd.func62, Tryd.ntmps62
  go_wp2_with fail
  refine (l1Sum_any s hm w).mono ?_
  rintro e w1 ⟨rfl, b1⟩
  go_wp2_with fail
  refine (l1Hex_any _ (by rw [HB.out]; omega) (by rw [HB.out]; omega) w1).mono ?_
  rintro e w2 ⟨rfl, b2⟩
  go_wp2
  go_ret
  exact ⟨ret_str HF.out, b1.trans (b2.mono b1.size)⟩
end Go.Proofs.YtfekpbkcidhbfaaDoor
