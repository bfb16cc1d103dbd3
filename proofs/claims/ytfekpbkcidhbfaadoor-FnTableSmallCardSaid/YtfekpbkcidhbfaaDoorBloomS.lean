import Derived.Test.YtfekpbkcidhbfaaDoorBloomP
import Derived.Test.YtfekpbkcidhbfaaDoorHashS
import Derived.Test.YtfekpbkcidhbfaaDoorApp
import Derived.Test.YtfekpbkcidhbfaaDoorRowM
import Derived.Test.YtfekpbkcidhbfaaDoorShape
import Derived.WalkSpells
import Derived.Deep.QuietTactic
import Derived.BigQuiet
import Derived.Lib.Hide
/- Bits of keys, of the model: l5Val, l5Spots, l5Hex, l5Bit, BloomMake, BloomMay. -/
namespace Go.Proofs.YtfekpbkcidhbfaaDoor
open Go Go.RowKit

set_option maxRecDepth 100000 in
set_option maxHeartbeats 800000 in
theorem l5Val_any (c : UInt8) (w : World) : Calls Tryd.prog 63 #[.int .u8 (c.toNat : Int)] w fun e w' => e = .returned (.int .i64 (vfig c)) ∧ w = w' := by
  have hlt : c.toNat < 256 := c.toNat_lt
  obtain ⟨n, hn⟩ : ∃ n, c.toNat = n := ⟨_, rfl⟩
  have HV := Lib.hid (show vfig c = if 48 ≤ n ∧ n ≤ 57 then (n : Int) - 48 else if 97 ≤ n ∧ n ≤ 102 then (n : Int) - 97 + 10 else -1 by unfold vfig; rw [hn])
  rw [hn] at hlt ⊢
  clear hn
  have w1 : 48 ≤ n → IntKind.u8.wrap ((n : Int) - 48) = (n : Int) - 48 := fun h => by show ((n : Int) - 48) % 256 = _; omega
  have w2 : 97 ≤ n → IntKind.u8.wrap ((n : Int) - 97) = (n : Int) - 97 := fun h => by show ((n : Int) - 97) % 256 = _; omega
  by_cases h1 : 48 ≤ n
  · by_cases h2 : n ≤ 57
    · have W1 := w1 h1
      have HR := Lib.hid (show (n : Int) - 48 = vfig c by rw [HV.out, if_pos ⟨h1, h2⟩])
      go_enter Tryd.func63, Tryd.ntmps63
      go_wp2
      go_ret
      exact ⟨by rw [← HR.out]; rfl, rfl⟩
    · by_cases h3 : 97 ≤ n
      · by_cases h4 : n ≤ 102
        · have W2 := w2 h3
          have HR := Lib.hid (show (n : Int) - 97 + 10 = vfig c by rw [HV.out, if_neg (by omega), if_pos ⟨h3, h4⟩])
          go_enter Tryd.func63, Tryd.ntmps63
          go_wp2
          go_ret
          exact ⟨by rw [← HR.out]; rfl, rfl⟩
        · have HR := Lib.hid (show (-1 : Int) = vfig c by rw [HV.out, if_neg (by omega), if_neg (by omega)])
          go_enter Tryd.func63, Tryd.ntmps63
          go_wp2
          go_ret
          exact ⟨by rw [← HR.out]; rfl, rfl⟩
      · have HR := Lib.hid (show (-1 : Int) = vfig c by rw [HV.out, if_neg (by omega), if_neg (by omega)])
        go_enter Tryd.func63, Tryd.ntmps63
        go_wp2
        go_ret
        exact ⟨by rw [← HR.out]; rfl, rfl⟩
  · have HR := Lib.hid (show (-1 : Int) = vfig c by rw [HV.out, if_neg (by omega), if_neg (by omega)])
    go_enter Tryd.func63, Tryd.ntmps63
    go_wp2
    go_ret
    exact ⟨by rw [← HR.out]; rfl, rfl⟩
theorem l5Val_is {c : UInt8} {v : Int} (h : vfig c = v) (w : World) : Calls Tryd.prog 63 #[.int .u8 (c.toNat : Int)] w fun e w' => e = .returned (.int .i64 v) ∧ w' = w := by
  subst h
  exact (l5Val_any c w).mono fun _ _ ⟨h1, h2⟩ => ⟨h1, h2.symm⟩
set_option maxRecDepth 100000 in
set_option maxHeartbeats 800000 in
theorem l5Hex_any (n : Nat) (hn : n < 16) (w : World) : Calls Tryd.prog 42 #[.int .i64 n] w fun e w' => e = .returned (.string ⟨#[figC n]⟩) ∧ w = w' := by
  have HX := Lib.hid (show hexF.extract n (n + 1) = ⟨#[figC n]⟩ from hexF_cut n hn)
  have h0 : (0 : Int) ≤ (n : Int) := by omega
  have h1 : (n : Int) + 1 ≤ 16 := by omega
  have h2 : (n : Int) ≤ (n : Int) + 1 := by omega
  go_enter Tryd.func42, Tryd.ntmps42
  go_wp2
  go_ret
  exact ⟨ret_str HX.out, rfl⟩
/-- the bits of a key -/
def SpotP (u : ByteArray) (w : World) (e : Ending) (w' : World) : Prop := ∃ v, e = .returned v ∧ OwnsM w' w.heap.size 3 1 v 3 [.int .i64 (spotU u 0 : Nat), .int .i64 (spotU u 1 : Nat), .int .i64 (spotU u 2 : Nat)] ∧ Below w.heap.size w w'
theorem specHash_isS {s u : ByteArray} (hu : shaS s = u) (hm : s.size ≤ 549755813888) (w : World) :
    Calls Tryd.prog 62 #[.string s] w fun e w' => e = .returned (.string u) ∧ Below w.heap.size w w' := by
  subst hu
  exact specHash_any s hm w
theorem infoIntS : (Tryd.prog.info? 3).map (fun i => (i.zero, i.size, i.bytes)) = some (some (.int .i64 0), 1, 8) := by kernel_rfl
def spotsTo (u : ByteArray) (k : Nat) : List Value := (List.range k).map fun i => .int .i64 (spotU u i : Nat)
theorem spotsTo_next (u : ByteArray) (k : Nat) : spotsTo u (k + 1) = spotsTo u k ++ [.int .i64 (spotU u k : Nat)] := by simp [spotsTo, List.range_succ]
theorem cells_oneI (w : World) (x : Value) (e : TypeId) : ∀ j u, [x][j]? = some u → ((w.alloc (.cells #[x] e)).drew).cell? ((⟨w.heap.size, 0, none⟩ : Addr).add j) = some u := fun j u h => by
  rw [addr_add, Nat.zero_add]
  exact (Box.alloc w #[x] e j u (by simpa using h)).1
set_option maxRecDepth 100000 in
set_option maxHeartbeats 2000000 in
theorem l5Spots_any (x : ByteArray) (hm : x.size ≤ 549755813888) (w : World) : Calls Tryd.prog 41 #[.string x] w (SpotP (shaS x) w) := by
  obtain ⟨i0, hi, hz0, hz1, hz2⟩ := info_parts infoIntS
  obtain ⟨u, hu⟩ : ∃ u, shaS x = u := ⟨_, rfl⟩
  have hus : u.size = 64 := by rw [← hu]; exact shaS_size x
  have hf : FigB u := by rw [← hu]; exact shaS_fig x
  rw [hu]
  have HU := Lib.hid hu
  have HF := Lib.hid hf
  have HUS := Lib.hid hus
  clear hu hf hus
  go_enter Tryd.func41, Tryd.ntmps41
  go_wp2_with fail
  refine (specHash_isS HU.out hm _).mono ?_
  rintro e w1 ⟨rfl, b1⟩
  have B1 := Lib.hid b1
  have z1 := b1.size
  clear b1
  go_wp2_with fail
  have M0 := Lib.hid (OwnsM.of (World.ownsRow_made (e := 3) (size := 1) w1 #[] 0 (Nat.le_refl _) (by unfold maxLen; omega) rfl))
  go_loopw [4, 5] (fun v i wr => ∃ k : Nat, k ≤ 3 ∧ i = .int .i64 k ∧ OwnsM wr w1.heap.size 3 1 v k (spotsTo u k) ∧ Below w1.heap.size w1 wr) (fun _ i _ => 3 - (intOf i).toNat)
  case atStart => exact ⟨0, Nat.zero_le _, rfl, M0.out, (Below.refl _ _).alloc (Nat.le_refl _) _⟩
  case round =>
    obtain ⟨k, hk, rfl, hown, hbel⟩ := hrel
    have HO := Lib.hid hown
    have HB := Lib.hid hbel
    have hbz := hbel.size
    by_cases hlt : k < 3
    · have hus := HUS.out
      obtain ⟨j, hj⟩ : ∃ j, 2 * k = j := ⟨_, rfl⟩
      obtain ⟨j1, hj1⟩ : ∃ j1, j + 1 = j1 := ⟨_, rfl⟩
      have hju : j < u.size := by omega
      have hj1u : j1 < u.size := by omega
      have i1 : (2 : Int) * (k : Int) = (j : Int) := by omega
      have i2 : IntKind.i64.wrap (j : Int) = (j : Int) := by rw [IntKind.wrap_i64]; omega
      have i3 : (j : Int) + 1 = (j1 : Int) := by omega
      have i4 : IntKind.i64.wrap (j1 : Int) = (j1 : Int) := by rw [IntKind.wrap_i64]; omega
      have i5 : (0 : Int) ≤ (j : Int) := by omega
      have i6 : (j : Int) < (u.size : Int) := by omega
      have i7 : (0 : Int) ≤ (j1 : Int) := by omega
      have i8 : (j1 : Int) < (u.size : Int) := by omega
      obtain ⟨a, ha⟩ : ∃ a, vN u j = a := ⟨_, rfl⟩
      obtain ⟨b, hb⟩ : ∃ b, vN u j1 = b := ⟨_, rfl⟩
      have ha15 : a ≤ 15 := by rw [← ha]; exact vN_le _ _
      have hb15 : b ≤ 15 := by rw [← hb]; exact vN_le _ _
      have VA := Lib.hid (show vfig u[j] = (a : Int) by rw [vN_int hju HF.out, ha])
      have VB := Lib.hid (show vfig u[j1] = (b : Int) by rw [vN_int hj1u HF.out, hb])
      obtain ⟨q, hq⟩ : ∃ q, spotU u k = q := ⟨_, rfl⟩
      have hqe : (16 * a + b) % 64 = q := by rw [← hq, ← ha, ← hb, ← hj1, ← hj]; rfl
      have i9 : (IntKind.i64.wrap (IntKind.i64.wrap ((a : Int) * 16) + (b : Int))).tmod 64 = (q : Int) := by
        rw [show IntKind.i64.wrap ((a : Int) * 16) = (a : Int) * 16 by rw [IntKind.wrap_i64]; omega, show IntKind.i64.wrap ((a : Int) * 16 + (b : Int)) = (a : Int) * 16 + (b : Int) by rw [IntKind.wrap_i64]; omega, Int.tmod_eq_emod_of_nonneg (by omega)]
        omega
      have HQ := Lib.hid hq
      have hq64 : q < 64 := by omega
      obtain ⟨av, c, rfl⟩ := hown.shp
      clear hown hbel ha hb hq hqe hus
      have HJ := Lib.hid hj
      have HJ1 := Lib.hid hj1
      clear hj hj1
      go_wp2_with fail
      refine wp_region_held_drew (S := fun W => Below w1.heap.size w1 W) (by kernel_rfl) (HB.out.drew) (fun hHeld => ?_)
      refine wpAnyH_take (i := 0) (oi := { dst := some 13, op := Op.move (Operand.tmp 4), type := 72, pos := "l5_table.go:26", after := _, guard := none }) (v := ?_) rfl (by kernel_rfl) (by kernel_rfl) (by kernel_rfl) (fun _ _ _ h => h) (Or.inl ⟨by rfl, ?_⟩) (by assumption) ?_
      rotate_left
      · (intro w hSw; (try dsimp only at hSw); go_simp; (try with_reducible rfl))
      simp only [Act.put, List.setIfInBounds_toArray, List.set_cons_zero, List.set_cons_succ]
      refine wpAnyH_take (i := 1) (oi := { dst := some 14, op := Op.move (Operand.tmp 3), type := 9, pos := "l5_table.go:26", after := _, guard := none }) (v := ?_) rfl (by kernel_rfl) (by kernel_rfl) (by kernel_rfl) (fun _ _ _ h => h) (Or.inl ⟨by rfl, ?_⟩) (by assumption) ?_
      rotate_left
      · (intro w hSw; (try dsimp only at hSw); go_simp; (try with_reducible rfl))
      simp only [Act.put, List.setIfInBounds_toArray, List.set_cons_zero, List.set_cons_succ]
      refine wpAnyH_take (i := 2) (oi := { dst := some 15, op := Op.move (Operand.tmp 5), type := 3, pos := "l5_table.go:26", after := _, guard := none }) (v := ?_) rfl (by kernel_rfl) (by kernel_rfl) (by kernel_rfl) (fun _ _ _ h => h) (Or.inl ⟨by rfl, ?_⟩) (by assumption) ?_
      rotate_left
      · (intro w hSw; (try dsimp only at hSw); go_simp; (try with_reducible rfl))
      simp only [Act.put, List.setIfInBounds_toArray, List.set_cons_zero, List.set_cons_succ]
      refine wpAnyH_take (i := 3) (oi := { dst := some 16, op := Op.binOp BinOp.mul 3 (Operand.const (Value.int IntKind.i64 2)) (Operand.tmp 15) 3, type := 3, pos := "l5_table.go:26", after := _, guard := none }) (v := ?_) rfl (by kernel_rfl) (by kernel_rfl) (by kernel_rfl) (fun _ _ _ h => h) (Or.inl ⟨by rfl, ?_⟩) (by assumption) ?_
      rotate_left
      · (intro w hSw; (try dsimp only at hSw); go_simp; (try with_reducible rfl))
      simp only [Act.put, List.setIfInBounds_toArray, List.set_cons_zero, List.set_cons_succ]
      refine wpAnyH_take (i := 4) (oi := { dst := some 17, op := Op.index 9 (Operand.tmp 14) (Operand.tmp 16), type := 5, pos := "l5_table.go:26", after := _, guard := none }) (v := ?_) rfl (by kernel_rfl) (by kernel_rfl) (by kernel_rfl) (fun _ _ _ h => h) (Or.inl ⟨by rfl, ?_⟩) (by assumption) ?_
      rotate_left
      · (intro w hSw; (try dsimp only at hSw); go_simp; (try with_reducible rfl))
      simp only [Act.put, List.setIfInBounds_toArray, List.set_cons_zero, List.set_cons_succ]
      refine wpAnyH_take (i := 7) (oi := { dst := some 20, op := Op.move (Operand.tmp 3), type := 9, pos := "l5_table.go:26", after := _, guard := none }) (v := ?_) rfl (by kernel_rfl) (by kernel_rfl) (by kernel_rfl) (fun _ _ _ h => h) (Or.inl ⟨by rfl, ?_⟩) (by assumption) ?_
      rotate_left
      · (intro w hSw; (try dsimp only at hSw); go_simp; (try with_reducible rfl))
      simp only [Act.put, List.setIfInBounds_toArray, List.set_cons_zero, List.set_cons_succ]
      refine wpAnyH_take (i := 8) (oi := { dst := some 21, op := Op.move (Operand.tmp 5), type := 3, pos := "l5_table.go:26", after := _, guard := none }) (v := ?_) rfl (by kernel_rfl) (by kernel_rfl) (by kernel_rfl) (fun _ _ _ h => h) (Or.inl ⟨by rfl, ?_⟩) (by assumption) ?_
      rotate_left
      · (intro w hSw; (try dsimp only at hSw); go_simp; (try with_reducible rfl))
      simp only [Act.put, List.setIfInBounds_toArray, List.set_cons_zero, List.set_cons_succ]
      refine wpAnyH_take (i := 9) (oi := { dst := some 22, op := Op.binOp BinOp.mul 3 (Operand.const (Value.int IntKind.i64 2)) (Operand.tmp 21) 3, type := 3, pos := "l5_table.go:26", after := _, guard := none }) (v := ?_) rfl (by kernel_rfl) (by kernel_rfl) (by kernel_rfl) (fun _ _ _ h => h) (Or.inl ⟨by rfl, ?_⟩) (by assumption) ?_
      rotate_left
      · (intro w hSw; (try dsimp only at hSw); go_simp; (try with_reducible rfl))
      simp only [Act.put, List.setIfInBounds_toArray, List.set_cons_zero, List.set_cons_succ]
      refine wpAnyH_take (i := 10) (oi := { dst := some 23, op := Op.binOp BinOp.add 3 (Operand.tmp 22) (Operand.const (Value.int IntKind.i64 1)) 3, type := 3, pos := "l5_table.go:26", after := _, guard := none }) (v := ?_) rfl (by kernel_rfl) (by kernel_rfl) (by kernel_rfl) (fun _ _ _ h => h) (Or.inl ⟨by rfl, ?_⟩) (by assumption) ?_
      rotate_left
      · (intro w hSw; (try dsimp only at hSw); go_simp; (try with_reducible rfl))
      simp only [Act.put, List.setIfInBounds_toArray, List.set_cons_zero, List.set_cons_succ]
      refine wpAnyH_take (i := 11) (oi := { dst := some 24, op := Op.index 9 (Operand.tmp 20) (Operand.tmp 23), type := 5, pos := "l5_table.go:26", after := _, guard := none }) (v := ?_) rfl (by kernel_rfl) (by kernel_rfl) (by kernel_rfl) (fun _ _ _ h => h) (Or.inl ⟨by rfl, ?_⟩) (by assumption) ?_
      rotate_left
      · (intro w hSw; (try dsimp only at hSw); go_simp; (try with_reducible rfl))
      simp only [Act.put, List.setIfInBounds_toArray, List.set_cons_zero, List.set_cons_succ]
      refine wpAnyH_ready (rs := [5]) (by kernel_rfl) (by simp) ?_
      refine AllReadyH.cons (o := { dst := some 18, op := Op.call { callee := Callee.value (Operand.func 63), args := #[Operand.tmp 17], argTypes := #[5] }, type := 3, pos := "l5_table.go:26", after := _, guard := none }) rfl (fun K hK => ?_) AllReadyH.nil
      go_simp
      go_at_call 63
      refine (l5Val_is VA.out _).mono ?_
      rintro e w2 ⟨rfl, rfl⟩
      refine hK.out _ _ ?_ (fun hHeld => ?_)
      · exact hHeld
      clear hK K
      (try simp only [Act.put, List.setIfInBounds_toArray, List.set_cons_zero, List.set_cons_succ])
      refine wpAnyH_take (i := 6) (oi := { dst := some 19, op := Op.binOp BinOp.mul 3 (Operand.tmp 18) (Operand.const (Value.int IntKind.i64 16)) 3, type := 3, pos := "l5_table.go:26", after := _, guard := none }) (v := ?_) rfl (by kernel_rfl) (by kernel_rfl) (by kernel_rfl) (fun _ _ _ h => h) (Or.inl ⟨by rfl, ?_⟩) (by assumption) ?_
      rotate_left
      · (intro w hSw; (try dsimp only at hSw); go_simp; (try with_reducible rfl))
      simp only [Act.put, List.setIfInBounds_toArray, List.set_cons_zero, List.set_cons_succ]
      refine wpAnyH_ready (rs := [12]) (by kernel_rfl) (by simp) ?_
      refine AllReadyH.cons (o := { dst := some 25, op := Op.call { callee := Callee.value (Operand.func 63), args := #[Operand.tmp 24], argTypes := #[5] }, type := 3, pos := "l5_table.go:26", after := _, guard := none }) rfl (fun K hK => ?_) AllReadyH.nil
      go_simp
      go_at_call 63
      refine (l5Val_is VB.out _).mono ?_
      rintro e w2 ⟨rfl, rfl⟩
      refine hK.out _ _ ?_ (fun hHeld => ?_)
      · exact hHeld
      clear hK K
      (try simp only [Act.put, List.setIfInBounds_toArray, List.set_cons_zero, List.set_cons_succ])
      refine wpAnyH_take (i := 13) (oi := { dst := some 26, op := Op.binOp BinOp.add 3 (Operand.tmp 19) (Operand.tmp 25) 3, type := 3, pos := "l5_table.go:26", after := _, guard := none }) (v := ?_) rfl (by kernel_rfl) (by kernel_rfl) (by kernel_rfl) (fun _ _ _ h => h) (Or.inl ⟨by rfl, ?_⟩) (by assumption) ?_
      rotate_left
      · (intro w hSw; (try dsimp only at hSw); go_simp; (try with_reducible rfl))
      simp only [Act.put, List.setIfInBounds_toArray, List.set_cons_zero, List.set_cons_succ]
      refine wpAnyH_take (i := 14) (oi := { dst := some 27, op := Op.binOp BinOp.rem 3 (Operand.tmp 26) (Operand.const (Value.int IntKind.i64 64)) 3, type := 3, pos := "l5_table.go:26", after := _, guard := none }) (v := ?_) rfl (by kernel_rfl) (by kernel_rfl) (by kernel_rfl) (fun _ _ _ h => h) (Or.inl ⟨by rfl, ?_⟩) (by assumption) ?_
      rotate_left
      · (intro w hSw; (try dsimp only at hSw); go_simp; (try with_reducible rfl))
      simp only [Act.put, List.setIfInBounds_toArray, List.set_cons_zero, List.set_cons_succ]
      refine wpAnyH_ready (rs := [15]) (by kernel_rfl) (by simp) ?_
      refine AllReadyH.cons (o := { dst := some 28, op := Op.buildSlice 72 1 #[(0, Operand.tmp 27)], type := 72, pos := "l5_table.go:26", after := _, guard := none }) rfl (fun K hK => ?_) AllReadyH.nil
      go_simp
      refine hK.out _ _ ?_ (fun hHeld => ?_)
      · exact (HB.out.drew.alloc hbz _)
      clear hK K
      (try simp only [Act.put, List.setIfInBounds_toArray, List.set_cons_zero, List.set_cons_succ])
      refine wpAnyH_ready (rs := [16]) (by kernel_rfl) (by simp) ?_
      refine AllReadyH.cons (o := { dst := some 29, op := Op.call { callee := Callee.builtin Builtin.append, args := #[Operand.tmp 13, Operand.tmp 28], argTypes := #[72, 72] }, type := 72, pos := "l5_table.go:26", after := _, guard := none }) rfl (fun K hK => ?_) AllReadyH.nil
      refine step_append_ownM _ rfl (.tmp 13) (.tmp 28) 72 rfl w1.heap.size 3 i0 (.int .i64 0) 1 8 Tryd.underlying72 hi hz0 hz1 hz2 rfl (by decide) (.slice av k c) k (spotsTo u k) rfl ((HO.out.alloc _).below ((Below.refl _ _).drew)) ⟨wr.heap.size, 0, none⟩ 1 1 [.int .i64 (q : Int)] rfl rfl (cells_oneI _ _ _) (fun u hu => by simp at hu; subst hu; rfl) (by unfold maxLen; omega) (by omega) (by simp; omega) ?_
      intro v2 w2 o2 g2 _
      have B2 : Below w1.heap.size w1 w2 := ((HB.out.alloc hbz _).drew).grown g2 (by simp; omega) (fun q hq => (HO.out.lt q hq).1)
      have O2 := Lib.hid (ownsM_cast (m := k + 1) (ys := spotsTo u (k + 1)) o2 rfl (by rw [spotsTo_next, HQ.out]))
      clear o2 g2
      refine hK.out _ _ ?_ (fun hHeld => ?_)
      · exact B2
      clear hK K
      (try simp only [Act.put, List.setIfInBounds_toArray, List.set_cons_zero, List.set_cons_succ])
      refine wpAnyH_take (i := 17) (oi := { dst := some 4, op := Op.assign (Operand.tmp 29), type := 72, pos := "l5_table.go:26", after := _, guard := none }) (v := ?_) rfl (by kernel_rfl) (by kernel_rfl) (by kernel_rfl) (fun _ _ _ h => h) (Or.inl ⟨by rfl, ?_⟩) (by assumption) ?_
      rotate_left
      · (intro w hSw; (try dsimp only at hSw); go_simp; (try with_reducible rfl))
      simp only [Act.put, List.setIfInBounds_toArray, List.set_cons_zero, List.set_cons_succ]
      refine wpAnyH_done (by kernel_rfl) ?_ _
      go_wp2
      go_roundw
      case rel => exact ⟨k + 1, by omega, by go_num, O2.out, B2⟩
      case measure => simp [intOf]; omega
    · obtain rfl : k = 3 := by omega
      go_wp2
      go_ret
      exact ⟨_, rfl, OwnsM.mono HO.out z1, B1.out.trans (HB.out.mono z1)⟩
theorem Box.setV {w : World} {b : Nat} {cs : List Value} (h : Box w b cs) (i : Nat) (v : Value) : Box (w.setCell ⟨b, i, none⟩ v) b (cs.set i v) := by
  intro j u hj
  by_cases e : j = i
  · subst e
    have hl : j < cs.length := by
      have := (List.getElem?_eq_some_iff.1 hj).1
      simpa using this
    rw [List.getElem?_set_self hl] at hj
    cases hj
    obtain ⟨h1, h2⟩ := h j cs[j] (List.getElem?_eq_getElem hl)
    exact ⟨by simp [go_sem, h1], by simp [go_sem, h2]⟩
  · rw [List.getElem?_set_ne (fun q => e q.symm)] at hj
    obtain ⟨h1, h2⟩ := h j u hj
    have e2 : ¬ i = j := fun q => e q.symm
    exact ⟨by simp [go_sem, h1], by simp [go_sem, h2]⟩
theorem infoBoolS : (Tryd.prog.info? 4).map (fun i => (i.zero, i.size, i.bytes)) = some (some (.bool false), 1, 1) := by kernel_rfl
theorem l5Spots_is {x u : ByteArray} (hu : shaS x = u) (hm : x.size ≤ 549755813888) (w : World) : Calls Tryd.prog 41 #[.string x] w (SpotP u w) := by
  subst hu
  exact l5Spots_any x hm w
theorem l5Hex_is {n m : Nat} (h : m = n) (hn : n < 16) (w : World) : Calls Tryd.prog 42 #[.int .i64 m] w fun e w' => e = .returned (.string ⟨#[figC n]⟩) ∧ w' = w := by
  subst h
  exact (l5Hex_any m hn w).mono fun _ _ ⟨h1, h2⟩ => ⟨h1, h2.symm⟩
set_option maxRecDepth 100000 in
set_option maxHeartbeats 4000000 in
theorem specBloomMake_any (a : Option Addr) (c : Nat) (l : List ByteArray) (w : World) (hl : StrS w a l) (hs : ∀ s ∈ l, s.size ≤ 549755813888) (hlen : l.length ≤ 1048576) :
    Calls Tryd.prog 27 #[.slice a l.length c] w fun e w' => e = .returned (.string (bloomB (bitK l))) ∧ Below w.heap.size w w' := by
  obtain ⟨i0, hi, hz0, hz1, hz2⟩ := info_parts infoBoolS
  have HX := Lib.hid hl
  have HS := Lib.hid hs
  clear hl hs
  go_enter Tryd.func27, Tryd.ntmps27
  go_wp2_with (refine wpList_make_full _ rfl _ _ 71 rfl w.heap.size 4 i0 (.bool false) 1 Tryd.underlying71 hi hz0 hz1 .i64 .i64 64 64 64 rfl rfl rfl rfl (by rw [hz2]; omega) (by unfold maxLen; omega) (by simp) ?_; intro w1 hown hgrow)
  have B1 := Lib.hid (below_of_grown hgrow)
  have z1 : w.heap.size < w1.heap.size := (hown.lt w.heap.size rfl).2
  have BX := Lib.hid (show Box w1 w.heap.size (bitsV (bitK (l.take 0))) by
    rcases hown.2 with ⟨h, _⟩ | ⟨g, cap, cur, e, _, hg, _, _, hcs, hct⟩
    · cases h
    · cases e
      rw [Nat.mul_one] at hcs hct
      have hcl : cur.toList = bitsV (bitK (l.take 0)) := by
        rw [← List.take_of_length_le (l := cur.toList) (i := 64) (by rw [Array.length_toList]; omega), hct]
        rw [show (madeCells (Value.bool false).cells 64).toList = List.replicate 64 (Value.bool false) from toList_madeCells_one _ _]
        rfl
      rw [← hcl]
      intro i v hv
      rw [Array.getElem?_toList] at hv
      exact ⟨by simp [World.cell?, hg, hv], by simp [World.frozen?, hg]⟩)
  clear hown hgrow
  go_wp2_with fail
  go_loopw [4] (fun i wr => ∃ k : Nat, k ≤ l.length ∧ i = .int .i64 k ∧ Box wr w.heap.size (bitsV (bitK (l.take k))) ∧ Below w.heap.size w wr ∧ w.heap.size < wr.heap.size) (fun i _ => l.length - (intOf i).toNat)
  case atStart => exact ⟨0, Nat.zero_le _, rfl, BX.out, B1.out, z1⟩
  case round =>
    obtain ⟨k, hk, rfl, hbx, hbel, hrs⟩ := hrel
    have HBX := Lib.hid hbx
    have HB := Lib.hid hbel
    clear hbx
    by_cases hlt : k < l.length
    · obtain ⟨b, o, rfl, hcell⟩ := HX.out.2.2.resolve_left (fun e => by rw [e] at hlt; simp at hlt)
      have hbl : b < w.heap.size := by have := World.block_lt_of_cell? w _ (hcell k hlt); simpa using this
      have ck : wr.cell? ⟨b, o + k, none⟩ = some (.string l[k]) := (hbel.cell (by simpa using hbl)).trans (hcell k hlt)
      have hki : (k : Int) < (l.length : Int) := by omega
      have hk0 : (0 : Int) ≤ (k : Int) := by omega
      obtain ⟨u, hu⟩ : ∃ u, shaS l[k] = u := ⟨_, rfl⟩
      have HU := Lib.hid hu
      have hls := HS.out _ (List.getElem_mem hlt)
      have HN := Lib.hid (show stepF (bitK (l.take k)) u 3 = bitK (l.take (k + 1)) by rw [← hu]; exact bitK_next hlt)
      clear hcell hbel hu
      go_wp2_with fail
      refine (l5Spots_is HU.out hls _).mono ?_
      rintro e w2 ⟨v, rfl, o2, b2⟩
      obtain ⟨g, cv, rfl, hg1, hg2, hgc, hgm, hcells⟩ := o2.at (by omega)
      have HC := Lib.hid hcells
      have BX2 := Lib.hid (HBX.out.below b2)
      have B2 := Lib.hid (HB.out.trans (b2.mono (Nat.le_of_lt hrs)))
      have z2 := b2.size
      clear o2 b2 hcells ck
      go_wp2_with fail
      go_loopw [6] (fun i wq => ∃ j : Nat, j ≤ 3 ∧ i = .int .i64 j ∧ Box wq w.heap.size (bitsV (stepF (bitK (l.take k)) u j)) ∧ KeptOut (fun b => b = w.heap.size) w2 wq) (fun i _ => 3 - (intOf i).toNat)
      case atStart => exact ⟨0, Nat.zero_le _, rfl, BX2.out, KeptOut.refl _ _⟩
      case round =>
        obtain ⟨j, hj, rfl, hbx, hkp⟩ := hrel
        have HBQ := Lib.hid hbx
        have HKQ := Lib.hid hkp
        have zq := hkp.size
        by_cases hjl : j < 3
        · obtain ⟨q, hq⟩ : ∃ q, spotU u j = q := ⟨_, rfl⟩
          have hq64 : q < 64 := by rw [← hq]; exact spotU_lt u j
          have cq : wr.cell? ⟨g, j, none⟩ = some (.int .i64 (q : Int)) := by
            have h := HC.out j (.int .i64 (spotU u j : Nat)) (by
              have : j = 0 ∨ j = 1 ∨ j = 2 := by omega
              rcases this with rfl | rfl | rfl <;> rfl)
            rw [hq] at h
            exact (hkp.cell (p := ⟨g, j, none⟩) hg2 (fun e => by have e : g = w.heap.size := e; omega)).trans h
          have hbc := hbx q _ (bitsV_at _ hq64)
          obtain ⟨bc, bf⟩ := hbc
          have hqi : (q : Int) < 64 := by omega
          have hq0 : (0 : Int) ≤ (q : Int) := by omega
          have hj0 : (0 : Int) ≤ (j : Int) := by omega
          have hj3 : (j : Int) < 3 := by omega
          have HQ := Lib.hid hq
          clear hbx hkp hq
          go_wp2
          go_roundw
          case rel =>
            refine ⟨j + 1, by omega, by go_num, ?_, HKQ.out.setCell (p := ⟨w.heap.size, q, none⟩) rfl _⟩
            have h := Box.setV HBQ.out q (.bool true)
            rw [bitsV_add _ hq64] at h
            rw [show stepF (bitK (l.take k)) u (j + 1) = addF (stepF (bitK (l.take k)) u j) q by rw [← HQ.out]; rfl]
            exact h
          case measure => simp [intOf]; omega
        · obtain rfl : j = 3 := by omega
          have HBN := Lib.hid (show Box wr w.heap.size (bitsV (bitK (l.take (k + 1)))) by rw [← HN.out]; exact hbx)
          clear hbx hkp
          go_wp2
          go_roundw
          case rel => exact ⟨k + 1, by omega, by go_num, HBN.out, HKQ.out.below B2.out (by omega) (fun b hb => by omega), by omega⟩
          case measure => simp [intOf]; omega
    · obtain rfl : k = l.length := by omega
      rw [List.take_length] at HBX
      obtain ⟨f, hf⟩ : ∃ f, bitK l = f := ⟨_, rfl⟩
      rw [hf] at HBX
      have HFF := Lib.hid hf
      clear hf hbel
      go_wp2_with fail
      go_loop [7, 8] (fun o i => ∃ k : Nat, k ≤ 16 ∧ i = .int .i64 k ∧ o = .string (bloomTo f k)) (fun _ i => 16 - (intOf i).toNat)
      case atStart => exact ⟨0, Nat.zero_le _, rfl, rfl⟩
      case round =>
        obtain ⟨k, hk, rfl, rfl⟩ := hrel
        by_cases hkl : k < 16
        · have hsz := bloomTo_size f k
          have hcc : ¬ 9223372036854775807 < (bloomTo f k).size + 1 := by omega
          obtain ⟨T, hT⟩ : ∃ T, bloomTo f k = T := ⟨_, rfl⟩
          have HTT := Lib.hid (show T ++ ⟨#[figC (nib f k)]⟩ = bloomTo f (k + 1) by rw [← hT]; exact bloomTo_next f k)
          rw [hT] at hcc ⊢
          clear hT hsz
          go_wp2_with fail
          go_loop [9, 10] (fun n i => ∃ j : Nat, j ≤ 4 ∧ i = .int .i64 j ∧ n = .int .i64 (pN f k j : Nat)) (fun _ i => 4 - (intOf i).toNat)
          case atStart => exact ⟨0, Nat.zero_le _, rfl, rfl⟩
          case round =>
            obtain ⟨j, hj, rfl, rfl⟩ := hrel
            by_cases hjl : j < 4
            · have hpl := pN_le f k j
              have hp16 : 2 ^ j ≤ 16 := by
                have : j = 0 ∨ j = 1 ∨ j = 2 ∨ j = 3 := by omega
                rcases this with rfl | rfl | rfl | rfl <;> decide
              obtain ⟨P, hP⟩ : ∃ P, pN f k j = P := ⟨_, rfl⟩
              rw [hP] at hpl ⊢
              have hm64 : 4 * k + j < 64 := by omega
              obtain ⟨y0, _⟩ := HBX.out (4 * k + j) _ (bitsV_at f hm64)
              have HPN := Lib.hid (show pN f k (j + 1) = P * 2 + b2n (f (4 * k + j)) by rw [← hP]; rfl)
              have hP15 : P ≤ 15 := by omega
              have i2 : IntKind.i64.wrap ((P : Int) * 2) = (P : Int) * 2 := by rw [IntKind.wrap_i64]; omega
              have i3 : IntKind.i64.wrap ((P : Int) * 2 + 1) = (P : Int) * 2 + 1 := by rw [IntKind.wrap_i64]; omega
              clear hP hp16 hpl
              cases hfm : f (4 * k + j) with
              | true =>
                have HR := Lib.hid (show pN f k (j + 1) = P * 2 + 1 by rw [HPN.out, hfm]; rfl)
                rw [hfm] at y0
                clear hfm
                go_wp2
                go_round
                case rel => exact ⟨j + 1, by omega, by go_num, congrArg (Value.int .i64) (by rw [HR.out]; omega)⟩
                case measure => simp [intOf]; omega
              | false =>
                have HR := Lib.hid (show pN f k (j + 1) = P * 2 by rw [HPN.out, hfm]; rfl)
                rw [hfm] at y0
                clear hfm
                go_wp2
                go_round
                case rel => exact ⟨j + 1, by omega, by go_num, congrArg (Value.int .i64) (by rw [HR.out]; omega)⟩
                case measure => simp [intOf]; omega
            · obtain rfl : j = 4 := by omega
              go_wp2_with fail
              refine (l5Hex_is (pN_four f k) (nib_lt f k) _).mono ?_
              rintro e w3 ⟨rfl, rfl⟩
              go_wp2
              go_round
              case rel => exact ⟨k + 1, by omega, by go_num, by rw [← HTT.out]⟩
              case measure => simp [intOf]; omega
        · obtain rfl : k = 16 := by omega
          go_wp2
          go_ret
          exact ⟨by rw [HFF.out]; rfl, HB.out⟩
end Go.Proofs.YtfekpbkcidhbfaaDoor
