import Derived.Test.YtfekpbkcidhbfaaDoorSpread
import Derived.Lib.Strings
import Derived.WalkSpells
/- Whole blocks mixed in, by the program. -/
namespace Go.Proofs.YtfekpbkcidhbfaaDoor
open Go Go.RowKit

theorem range_kept {S : Nat → Prop} {w w' : World} {g o : Nat} {vs : List Value} (h : w.rangeAt g o vs) (hk : KeptOut S w w') (hs : ¬ S g) : w'.rangeAt g o vs := fun j v hv => by
  have h0 := h j v hv
  rw [hk.cell (by have := World.block_lt_of_cell? w _ h0; simpa using this) hs]
  exact h0
theorem sub_blk (t : ByteArray) (k : Nat) (_h : 64 * k + 64 ≤ t.size) : (t.extract (64 * k) (64 * k + 64)).data.toList = blk t.data.toList k := by
  unfold blk
  simp [List.take_drop]

set_option maxRecDepth 100000 in
set_option maxHeartbeats 1000000 in
theorem mixAll_any (sb : Nat) (h : S8) (t : ByteArray) (n : Nat) (ht : t.size = 64 * n) (hm : t.size ≤ 1099511627776) (w : World) (hs : Box w sb (uvs h.list)) (hne : sb ≠ 3) (hg : w.rangeAt 3 0 (uvs K64)) :
    Calls Tryd.prog 67 #[.pointer (some ⟨sb, 0, none⟩), .string t] w fun e w' => e = .returned (.tuple #[]) ∧ Box w' sb (uvs (blks h t.data.toList n).list) ∧ KeptOut (fun b => b = sb) w w' := by
  have HT := Lib.hid ht
  have HG := Lib.hid hg
  have HNE := Lib.hid hne
  clear ht hg hne
  go_enter Tryd.func67, Tryd.ntmps67
  go_wp2
  go_loopw [4] (fun v wr => ∃ k a : Nat, k ≤ n ∧ Hid (a = 64 * k) ∧ a ≤ t.size ∧ v = .int .i64 (a : Int) ∧ Box wr sb (uvs (blks h t.data.toList k).list) ∧ KeptOut (fun b => b = sb) w wr) (fun v _ => t.size - (intOf v).toNat)
  case atStart => exact ⟨0, 0, Nat.zero_le _, Lib.hid rfl, Nat.zero_le _, rfl, hs, KeptOut.refl _ _⟩
  case round =>
    obtain ⟨k, a, hk, HA, hat, rfl, hb, hkp⟩ := hrel
    have HB := Lib.hid hb
    have HK := Lib.hid hkp
    clear hb hkp
    by_cases hlt : a < t.size
    · have hkn : k < n := by have := HA.out; have := HT.out; omega
      have hend : a + 64 ≤ t.size := by have := HA.out; have := HT.out; omega
      have hlti : (a : Int) < (t.size : Int) := by omega
      have ha0 : (0 : Int) ≤ (a : Int) := by omega
      have ha64 : (a : Int) + 64 ≤ (t.size : Int) := by omega
      have HS := Lib.hid (show (t.extract a (a + 64)).data.toList = blk t.data.toList k by rw [HA.out]; exact sub_blk t k (by rw [← HA.out]; exact hend))
      have HZ := Lib.hid (show (t.extract a (a + 64)).size = 64 by simp [ByteArray.size_extract]; omega)
      go_wp2_with fail
      refine (spread_any (t.extract a (a + 64)) HZ.out _).mono ?_
      rintro e w1 ⟨rfl, b1⟩
      rw [HS.out]
      have B1 := Lib.hid b1
      clear b1
      go_wp2_with fail
      refine (mix_any sb (blks h t.data.toList k) (sched (blk t.data.toList k) 64) (sched_len _ _) w1 (HB.out.below B1.out) (range_kept HG.out (HK.out.trans (.of_below B1.out)) (fun e => HNE.out e.symm))).mono ?_
      rintro e w2 ⟨rfl, hb2, hk2⟩
      have HB2 := Lib.hid hb2
      have HK2 := Lib.hid ((HK.out.trans (.of_below B1.out)).trans hk2)
      clear hb2 hk2
      go_wp2
      go_roundw
      case rel => exact ⟨k + 1, a + 64, by omega, Lib.hid (by rw [HA.out]; omega), hend, by go_num, HB2.out, HK2.out⟩
      case measure => simp [intOf]; omega
    · have hkn : k = n := by have := HA.out; have := HT.out; omega
      subst hkn
      go_wp2
      go_returns
      exact ⟨rfl, HB.out, HK.out⟩
end Go.Proofs.YtfekpbkcidhbfaaDoor
