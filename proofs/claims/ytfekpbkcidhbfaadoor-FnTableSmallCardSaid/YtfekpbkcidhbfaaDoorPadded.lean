import Derived.Test.YtfekpbkcidhbfaaDoorRowM
import Derived.Test.YtfekpbkcidhbfaaDoorHashEnd
/- l1Padded of the model. -/
namespace Go.Proofs.YtfekpbkcidhbfaaDoor
open Go Go.RowKit

def lenV (v : Value) : Nat := match v with | .slice _ n _ => n | _ => 0
/-- it answers bytes of its own -/
def BytesP (w : World) (l : List UInt8) (e : Ending) (w' : World) : Prop := ∃ v, e = .returned v ∧ OwnsM w' w.heap.size 5 1 v l.length (Lib.byteCells l) ∧ Below w.heap.size w w'
theorem ownsM_cast {w : World} {base : Nat} {e : TypeId} {v : Value} {n m : Nat} {xs ys : List Value} (h : OwnsM w base e 1 v n xs) (hn : n = m) (hx : xs = ys) : OwnsM w base e 1 v m ys := by subst hn; subst hx; exact h

set_option maxRecDepth 100000 in
set_option maxHeartbeats 1000000 in
theorem l1Padded_any (s : ByteArray) (hm : s.size ≤ 549755813888) (w : World) :
    Calls Tryd.prog 88 #[.string s] w (BytesP w (s.data.toList ++ endB s.size)) := by
  obtain ⟨i0, hi, hz0, hz1, hz2⟩ := info_parts infoU8b
  have zl := zeros_lt s.size
  obtain ⟨o0, b0⟩ := ownsM_bytes (w := w) (base := w.heap.size) 5 s (Nat.le_refl _) (by unfold maxLen; omega)
  have O0 := Lib.hid o0
  have B0 := Lib.hid b0
  have kc := Lib.run_convert_string_bytes (P := Tryd.prog) w 9 29 5 s Tryd.underlying9 Tryd.underlying29 Tryd.underlying5
  have bz := b0.size
  clear o0 b0
  generalize Lib.bytesWorld w 5 s = w1 at O0 B0 kc bz
  go_enter Tryd.func88, Tryd.ntmps88
  go_wp2_with (at_builtin; refine wpList_append_ownM _ rfl _ _ 29 rfl w.heap.size 5 i0 (.int .u8 0) 1 1 Tryd.underlying29 hi hz0 hz1 hz2 rfl (by decide) _ s.size _ rfl (O0.out.alloc _) ⟨w1.heap.size, 0, none⟩ 1 1 [.int .u8 128] rfl rfl (cells_one _ _ _) (fun u hu => by simp at hu; subst hu; rfl) (by unfold maxLen; omega) (by omega) (by simp; omega) ?_; intro v2 w2 o2 g2)
  have B2 := Lib.hid (show Below w.heap.size w w2 from (B0.out.alloc bz _).grown g2 (by simp; omega) (fun k hk => (O0.out.lt k hk).1))
  have O2 := Lib.hid (ownsM_cast (m := s.size + 1 + 0) (ys := Lib.byteCells (s.data.toList ++ padZ 0)) o2 rfl (by simp [Lib.byteCells, padZ]))
  clear o2 g2
  go_loopg [3] (zerosN s.size) (fun g v wr => ∃ k : Nat, k + g = zerosN s.size ∧ OwnsM wr w.heap.size 5 1 v (s.size + 1 + k) (Lib.byteCells (s.data.toList ++ padZ k)) ∧ Below w.heap.size w wr)
  case atStart => exact ⟨0, by omega, O2.out, B2.out⟩
  case round =>
    clear O0 B0 O2 B2 kc bz
    obtain ⟨k, hk, ho, hbel⟩ := hrel
    have HO := Lib.hid ho
    have HB := Lib.hid hbel
    have hbz := hbel.size
    obtain ⟨a, c, rfl⟩ := ho.shp
    have hkb : k ≤ 64 := by omega
    have HKZ := Lib.hid hk
    clear ho hbel
    by_cases hz : gk = 0
    · have ht2 : (((s.size : Int) + 1 + (k : Int)) % 64 != 56) = false := by
        have : ((s.size : Int) + 1 + (k : Int)) % 64 = 56 := by unfold zerosN at hk; omega
        simp [this]
      have HE := Lib.hid (show k = zerosN s.size by omega)
      clear hk hz
      go_wp2
      go_loopg [3, 5] 8 (fun g v v5 wr => ∃ (j : Nat) (sh : Int), j + g = 8 ∧ sh = 7 - (j : Int) ∧ v5 = .int .i64 sh ∧ OwnsM wr w.heap.size 5 1 v (s.size + 1 + zerosN s.size + j) (Lib.byteCells (s.data.toList ++ padZ (zerosN s.size) ++ countTo s.size j)) ∧ Below w.heap.size w wr)
      case atStart => exact ⟨0, 7, by omega, by omega, rfl, ownsM_cast HO.out (by rw [HE.out]; rfl) (by rw [HE.out]; simp [countTo]), HB.out⟩
      case round =>
        clear HO HB HE hbz ht2
        obtain ⟨j, sh, hj, hsh, rfl, ho, hbel⟩ := hrel
        have HO := Lib.hid ho
        have HB := Lib.hid hbel
        have hbz := hbel.size
        obtain ⟨a, c, rfl⟩ := ho.shp
        clear ho hbel
        by_cases hg : gk = 0
        · obtain rfl : j = 8 := by omega
          have hneg : sh < 0 := by omega
          clear hsh hj hg
          go_wp2
          go_ret
          refine ⟨_, rfl, ownsM_cast HO.out ?_ ?_, HB.out⟩
          · rw [List.length_append, endB_len]; simp; omega
          · rw [endB_eq, List.append_assoc]
        · obtain ⟨m, rfl⟩ : ∃ m : Nat, sh = (m : Int) := ⟨sh.toNat, by omega⟩
          have hm7 : m ≤ 7 := by omega
          have HM := Lib.hid (show m = 7 - j by omega)
          have HJ := Lib.hid hj
          have HS := Lib.hid hsh
          have HG := Lib.hid hg
          have hm0 : (0 : Int) ≤ (m : Int) := by omega
          have hm77 : (m : Int) ≤ 7 := by omega
          have hj7 : j ≤ 7 := by omega
          clear hsh hj hg
          go_wp2_with (at_builtin; refine wpList_append_ownM _ rfl _ _ 29 rfl w.heap.size 5 i0 (.int .u8 0) 1 1 Tryd.underlying29 hi hz0 hz1 hz2 rfl (by decide) _ (s.size + 1 + zerosN s.size + j) _ rfl (HO.out.alloc _) ⟨wr.heap.size, 0, none⟩ 1 1 [.int .u8 ((s.size : Int) * 8 / 2 ^ (8 * m) % 256)] rfl rfl (cells_one _ _ _) (fun u hu => by simp at hu; subst hu; rfl) (by unfold maxLen; omega) (by omega) (by simp; omega) ?_; intro v2 w2 o2 g2)
          have B2 := Lib.hid (show Below w.heap.size w w2 from (HB.out.alloc hbz _).grown g2 (by simp; omega) (fun k hk => (HO.out.lt k hk).1))
          have O2 := Lib.hid (ownsM_cast (m := s.size + 1 + zerosN s.size + (j + 1)) (ys := Lib.byteCells (s.data.toList ++ padZ (zerosN s.size) ++ countTo s.size (j + 1))) o2 rfl (by rw [countTo_succ, ← List.append_assoc, cells_snoc, byte_cnt s.size (8 * m) j hj7 (by rw [HM.out])]))
          clear o2 g2
          go_wp2
          go_roundg (gk - 1)
          case measure => have := HG.out; omega
          case rel => exact ⟨j + 1, (m : Int) - 1, by have := HG.out; have := HJ.out; omega, by have := HS.out; omega, by go_num, O2.out, B2.out⟩
    · have ht2 : (((s.size : Int) + 1 + (k : Int)) % 64 != 56) = true := by
        have : ((s.size : Int) + 1 + (k : Int)) % 64 ≠ 56 := by unfold zerosN at hk; omega
        simp [this]
      have HZ := Lib.hid hz
      clear hk hz
      go_wp2_with (at_builtin; refine wpList_append_ownM _ rfl _ _ 29 rfl w.heap.size 5 i0 (.int .u8 0) 1 1 Tryd.underlying29 hi hz0 hz1 hz2 rfl (by decide) _ (s.size + 1 + k) _ rfl (HO.out.alloc _) ⟨wr.heap.size, 0, none⟩ 1 1 [.int .u8 0] rfl rfl (cells_one _ _ _) (fun u hu => by simp at hu; subst hu; rfl) (by unfold maxLen; omega) (by omega) (by simp; omega) ?_; intro v2 w2 o2 g2)
      have B2 := Lib.hid (show Below w.heap.size w w2 from (HB.out.alloc hbz _).grown g2 (by simp; omega) (fun k hk => (HO.out.lt k hk).1))
      have O2 := Lib.hid (ownsM_cast (m := s.size + 1 + (k + 1)) (ys := Lib.byteCells (s.data.toList ++ padZ (k + 1))) o2 rfl (by simp [Lib.byteCells, padZ_succ]))
      clear o2 g2
      go_roundg (gk - 1)
      case measure => have := HZ.out; omega
      case rel => exact ⟨k + 1, by have := HZ.out; have := HKZ.out; omega, O2.out, B2.out⟩
end Go.Proofs.YtfekpbkcidhbfaaDoor
