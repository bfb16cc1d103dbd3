import Derived.Test.YtfekpbkcidhbfaaDoorTabP
import Derived.Test.YtfekpbkcidhbfaaDoorBloomS
import Derived.Test.YtfekpbkcidhbfaaDoorEntsJ2
import Derived.Test.YtfekpbkcidhbfaaDoorKept
import Derived.Deep.LoopGhost
import Derived.BigQuiet
import Derived.Deep.RegionHeld3
/- Tables as texts: the model. -/
namespace Go.Proofs.YtfekpbkcidhbfaaDoor
open Go Go.RowKit

theorem ba_ext' {a b : ByteArray} (h : a.data.toList = b.data.toList) : a = b := by cases a; cases b; simp at h; simp [h]
set_option maxRecDepth 100000 in
set_option maxHeartbeats 2000000 in
theorem alikeS_any (a b : ByteArray) (ha : a.size ≤ 1048576) (_hb : b.size ≤ 1048576) (w : World) :
    Calls Tryd.prog 43 #[.string a, .string b] w fun e w' => e = .returned (.int .i64 (alikeB a b : Nat)) ∧ Below w.heap.size w w' := by
  go_enter Tryd.func43, Tryd.ntmps43
  go_wp2
  go_loopg [5] a.size (fun q v5 wr => ∃ n : Nat, n + q = a.size ∧ v5 = .int .i64 n ∧ n ≤ b.size ∧ (∀ (h1 : n ≤ a.size) (h2 : n ≤ b.size) j (h : j < n), a[j]'(by omega) = b[j]'(by omega)) ∧ Below w.heap.size w wr)
  case atStart => exact ⟨0, by omega, rfl, Nat.zero_le _, fun _ _ j h => absurd h (Nat.not_lt_zero _), Below.refl _ _⟩
  case round =>
    obtain ⟨n, hq, rfl, hnb, hall, hbel⟩ := hrel
    have HQ := Lib.hid hq
    have HA := Lib.hid hall
    have hna : n ≤ a.size := by omega
    clear hq hall
    have i0 : (0 : Int) ≤ (n : Int) := by omega
    by_cases h1 : n < a.size
    · have i1 : (n : Int) < (a.size : Int) := by omega
      by_cases h2 : n < b.size
      · have i2 : (n : Int) < (b.size : Int) := by omega
        by_cases he : a[n] = b[n]
        · have HN := Lib.hid (show ∀ (g1 : n + 1 ≤ a.size) (g2 : n + 1 ≤ b.size) j (h : j < n + 1), a[j]'(by omega) = b[j]'(by omega) from fun g1 g2 j h => by
            by_cases q : j = n
            · subst q; exact he
            · exact HA.out hna hnb j (by omega))
          go_wp2_with fail
          go_quiet (fail)
          go_wp2
          go_roundg (gk - 1)
          case measure => have := HQ.out; omega
          case rel => exact ⟨n + 1, by have := HQ.out; omega, by go_num, by omega, HN.out, below_drewN hbel nq⟩
        · have hne : ¬ (a[n].toNat : Int) = (b[n].toNat : Int) := fun q => he (UInt8.toNat_inj.1 (by omega))
          have HR := Lib.hid (alikeB_of hna hnb (HA.out hna hnb) (.inr (.inr ⟨h1, h2, he⟩)))
          clear he
          go_wp2_with fail
          go_quiet (fail)
          go_wp2
          go_ret
          exact ⟨by rw [HR.out]; rfl, below_drewN hbel nq⟩
      · have i2 : ¬ (n : Int) < (b.size : Int) := by omega
        have HR := Lib.hid (alikeB_of hna hnb (HA.out hna hnb) (.inr (.inl (by omega))))
        go_wp2_with fail
        go_quiet (fail)
        go_wp2
        go_ret
        exact ⟨by rw [HR.out]; rfl, below_drewN hbel nq⟩
    · have i1 : ¬ (n : Int) < (a.size : Int) := by omega
      have HR := Lib.hid (alikeB_of hna hnb (HA.out hna hnb) (.inl (by omega)))
      go_wp2_with fail
      go_quiet (fail)
      go_wp2
      go_ret
      exact ⟨by rw [HR.out]; rfl, below_drewN hbel nq⟩
theorem lineB_form (last x0 : ByteArray) (x1 : Int) (x2 : Bool) (x3 : ByteArray) {d1 K d2 : ByteArray} (h1 : decI (alikeB last x0 : Nat) = d1) (hK : x0.extract (alikeB last x0) x0.size = K) (h2 : decI x1 = d2) :
    lineB last (x0, x1, x2, x3) = (if x2 = true then d1 ++ ⟨#[32]⟩ ++ K ++ ⟨#[32]⟩ ++ d2 else d1 ++ ⟨#[32]⟩ ++ K ++ ⟨#[32]⟩ ++ d2 ++ (⟨#[32]⟩ ++ x3)) ++ ⟨#[10]⟩ := by
  unfold lineB lineA spB nlB
  rw [← h1, ← hK, ← h2]
set_option maxRecDepth 100000 in
set_option maxHeartbeats 4000000 in
theorem lineS_any (last : ByteArray) (x0 : ByteArray) (x1 : Int) (x2 : Bool) (x3 : ByteArray) (hl : last.size ≤ 24) (he : entB (x0, x1, x2, x3) = true) (w : World) :
    Calls Tryd.prog 29 #[.string last, .agg #[.string x0, .int .i64 x1, .bool x2, .string x3]] w fun e w' => e = .returned (.string (lineB last (x0, x1, x2, x3))) ∧ Below w.heap.size w w' := by
  obtain ⟨b0, b1, b2, b3⟩ := ent_bounds he
  dsimp only at b0 b1 b2 b3
  clear he
  obtain ⟨w1, hw1⟩ : ∃ W, w.alloc (.cells #[.string x0, .int .i64 x1, .bool x2, .string x3] 32) = W := ⟨_, rfl⟩
  have B1 := Lib.hid (show Below w.heap.size w w1 by rw [← hw1]; exact below_alloc _ _)
  have KS := Lib.hid (show ∀ W, Below w1.heap.size w1 W → Below w1.heap.size w1 W ∧ W.cell? ⟨w.heap.size, 0, none⟩ = some (.string x0) ∧ W.cell? ⟨w.heap.size, 1, none⟩ = some (.int .i64 x1) ∧ W.cell? ⟨w.heap.size, 2, none⟩ = some (.bool x2) ∧ W.cell? ⟨w.heap.size, 3, none⟩ = some (.string x3) from fun W hb => by
    have q := (show Box w1 w.heap.size [.string x0, .int .i64 x1, .bool x2, .string x3] by rw [← hw1]; exact Box.alloc w _ _).below hb
    exact ⟨hb, (q 0 _ rfl).1, (q 1 _ rfl).1, (q 2 _ rfl).1, (q 3 _ rfl).1⟩)
  obtain ⟨nn, hnn⟩ : ∃ n, alikeB last x0 = n := ⟨_, rfl⟩
  have hal := alikeB_le last x0
  obtain ⟨d1, hd1⟩ : ∃ d, decI (nn : Nat) = d := ⟨_, rfl⟩
  obtain ⟨d2, hd2⟩ : ∃ d, decI x1 = d := ⟨_, rfl⟩
  obtain ⟨K, hK⟩ : ∃ K, x0.extract nn x0.size = K := ⟨_, rfl⟩
  rw [hnn] at hal
  have s1 : d1.size ≤ 21 := by rw [← hd1]; exact decI_size (by omega) (by omega)
  have s2 : d2.size ≤ 21 := by rw [← hd2]; exact decI_size (by omega) (by omega)
  have sK : K.size ≤ 24 := by rw [← hK, ByteArray.size_extract]; omega
  have HF := Lib.hid (lineB_form last x0 x1 x2 x3 (d1 := d1) (K := K) (d2 := d2) (by rw [hnn]; exact hd1) (by rw [hnn]; exact hK) hd2)
  have HN := Lib.hid hnn
  have HD1 := Lib.hid (fun W => decS_any (n := (nn : Int)) (by omega) (by omega) W)
  have HD2 := Lib.hid (fun W => decS_any (n := x1) (by omega) (by omega) W)
  rw [hd1] at HD1
  rw [hd2] at HD2
  have i0 : (0 : Int) ≤ (nn : Int) := by omega
  have i1 : (nn : Int) ≤ (x0.size : Int) := by omega
  have f1 : ¬ 9223372036854775807 < d1.size + 1 := by omega
  have f2 : ¬ 9223372036854775807 < d1.size + 1 + K.size := by omega
  have f3 : ¬ 9223372036854775807 < d1.size + 1 + K.size + 1 := by omega
  have f4 : ¬ 9223372036854775807 < d1.size + 1 + K.size + 1 + d2.size := by omega
  have f5 : ¬ 9223372036854775807 < d1.size + 1 + K.size + 1 + d2.size + 1 := by omega
  have f6 : ¬ 9223372036854775807 < d1.size + 1 + K.size + 1 + d2.size + 1 + x3.size := by omega
  have f7 : ¬ 9223372036854775807 < d1.size + 1 + K.size + 1 + d2.size + 1 + x3.size + 1 := by omega
  clear hnn hd1 hd2
  go_enter Tryd.func29, Tryd.ntmps29
  obtain ⟨-, c0, c1, c2, c3⟩ := KS.out _ (Below.refl _ _)
  go_wp2_with fail
  clear hw1 c0 c1 c2 c3
  refine (alikeS_any last x0 (by omega) (by omega) w1).mono ?_
  rw [HN.out]
  rintro e w2 ⟨rfl, b2'⟩
  have G2 := Lib.hid b2'
  clear b2'
  go_wp2_with fail
  go_region_held3 (fun W => Below w1.heap.size w1 W ∧ W.cell? ⟨w.heap.size, 0, none⟩ = some (.string x0) ∧ W.cell? ⟨w.heap.size, 1, none⟩ = some (.int .i64 x1) ∧ W.cell? ⟨w.heap.size, 2, none⟩ = some (.bool x2) ∧ W.cell? ⟨w.heap.size, 3, none⟩ = some (.string x3))
    (first | exact KS.out _ GB.out | exact KS.out _ GA.out | exact KS.out _ (G2.out.drew))
    (first
      | (have gA := GA; go_at_call 26; refine (HD2.out _).mono ?_; rintro e wB ⟨rfl, bB⟩; have GB := Lib.hid (GA.out.trans (bB.mono GA.out.size)))
      | (go_at_call 26; refine (HD1.out _).mono ?_; rintro e wA ⟨rfl, bA⟩; have GA := Lib.hid ((G2.out.drew).trans (bA.mono G2.out.size))))
  rename_i hH
  obtain ⟨-, c0, c1, c2, c3⟩ := hH
  have GW := Lib.hid (B1.out.trans (GB.out.mono B1.out.size))
  clear GA GB gA bA bB
  cases x2 with
  | true =>
    go_wp2
    go_ret
    exact ⟨by rw [HF.out]; rfl, GW.out⟩
  | false =>
    go_wp2
    go_ret
    exact ⟨by rw [HF.out, ← ByteArray.append_assoc]; rfl, GW.out⟩
set_option maxRecDepth 100000 in
set_option maxHeartbeats 4000000 in
theorem lineI_any (last : ByteArray) (x0 : ByteArray) (x1 : Int) (x2 : Bool) (x3 : ByteArray) (hl : last.size ≤ 24) (he : entB (x0, x1, x2, x3) = true) (w : World) (htab : Lib.TabIs Tryd.prog w "internal/strconv.uint64pow10" .u64 Lib.pow10Tab) :
    Calls Tryd.prog 18 #[.agg #[.string x0, .int .i64 x1, .bool x2, .string x3], .string last] w fun e w' => e = .returned (.string (lineB last (x0, x1, x2, x3))) ∧ Below w.heap.size w w' := by
  obtain ⟨b0, b1, b2, b3⟩ := ent_bounds he
  dsimp only at b0 b1 b2 b3
  have HT := Lib.hid htab
  clear he htab
  obtain ⟨w1, hw1⟩ : ∃ W, w.alloc (.cells #[.string x0, .int .i64 x1, .bool x2, .string x3] 32) = W := ⟨_, rfl⟩
  have B1 := Lib.hid (show Below w.heap.size w w1 by rw [← hw1]; exact below_alloc _ _)
  have KS := Lib.hid (show ∀ W, Below w1.heap.size w1 W → Below w1.heap.size w1 W ∧ W.cell? ⟨w.heap.size, 0, none⟩ = some (.string x0) ∧ W.cell? ⟨w.heap.size, 1, none⟩ = some (.int .i64 x1) ∧ W.cell? ⟨w.heap.size, 2, none⟩ = some (.bool x2) ∧ W.cell? ⟨w.heap.size, 3, none⟩ = some (.string x3) from fun W hb => by
    have q := (show Box w1 w.heap.size [.string x0, .int .i64 x1, .bool x2, .string x3] by rw [← hw1]; exact Box.alloc w _ _).below hb
    exact ⟨hb, (q 0 _ rfl).1, (q 1 _ rfl).1, (q 2 _ rfl).1, (q 3 _ rfl).1⟩)
  go_enter Tryd.func18, Tryd.ntmps18
  go_wp2
  clear hw1
  go_loopg [5] last.size (fun q v5 wr => ∃ n : Nat, n + q = last.size ∧ v5 = .int .i64 n ∧ n ≤ x0.size ∧ (∀ (h1 : n ≤ last.size) (h2 : n ≤ x0.size) j (h : j < n), last[j]'(by omega) = x0[j]'(by omega)) ∧ Below w1.heap.size w1 wr)
  case atStart => exact ⟨0, by omega, rfl, Nat.zero_le _, fun _ _ j h => absurd h (Nat.not_lt_zero _), Below.refl _ _⟩
  case round =>
    obtain ⟨n, hq, rfl, hnb, hall, hbel⟩ := hrel
    have HQ := Lib.hid hq
    have HA := Lib.hid hall
    have hna : n ≤ last.size := by omega
    have G := Lib.hid hbel
    obtain ⟨-, c0, c1, c2, c3⟩ := KS.out _ G.out
    clear hq hall hbel
    have i0 : (0 : Int) ≤ (n : Int) := by omega
    by_cases h1 : n < last.size
    · have i1 : (n : Int) < (last.size : Int) := by omega
      by_cases h2 : n < x0.size
      · have i2 : (n : Int) < (x0.size : Int) := by omega
        have i3 : (n : Int) < min (last.size : Int) (x0.size : Int) := by omega
        by_cases he : last[n] = x0[n]
        · have HN := Lib.hid (show ∀ (g1 : n + 1 ≤ last.size) (g2 : n + 1 ≤ x0.size) j (h : j < n + 1), last[j]'(by omega) = x0[j]'(by omega) from fun g1 g2 j h => by
            by_cases q : j = n
            · subst q; exact he
            · exact HA.out hna hnb j (by omega))
          go_wp2_with fail
          go_quiet (fail)
          go_wp2
          go_roundg (gk - 1)
          case measure => have := HQ.out; omega
          case rel => exact ⟨n + 1, by have := HQ.out; omega, by go_num, by omega, HN.out, below_drewN G.out nq⟩
        · have hne : ¬ (last[n].toNat : Int) = (x0[n].toNat : Int) := fun q => he (UInt8.toNat_inj.1 (by omega))
          have HR := Lib.hid (alikeB_of hna hnb (HA.out hna hnb) (.inr (.inr ⟨h1, h2, he⟩)))
          clear he HA HQ
          go_wp2_with fail
          go_quiet (fail)
          have G3 := Lib.hid (below_drewN G.out nq)
          obtain ⟨d1, hd1⟩ : ∃ d, decI (n : Nat) = d := ⟨_, rfl⟩
          obtain ⟨d2, hd2⟩ : ∃ d, decI x1 = d := ⟨_, rfl⟩
          obtain ⟨K, hK⟩ : ∃ K, x0.extract n x0.size = K := ⟨_, rfl⟩
          have s1 : d1.size ≤ 21 := by rw [← hd1]; exact decI_size (by omega) (by omega)
          have s2 : d2.size ≤ 21 := by rw [← hd2]; exact decI_size (by omega) (by omega)
          have sK : K.size ≤ 24 := by rw [← hK, ByteArray.size_extract]; omega
          have HF := Lib.hid (lineB_form last x0 x1 x2 x3 (d1 := d1) (K := K) (d2 := d2) (by rw [HR.out]; exact hd1) (by rw [HR.out]; exact hK) hd2)
          have HD1 := Lib.hid (fun W (h : Lib.TabIs Tryd.prog W "internal/strconv.uint64pow10" .u64 Lib.pow10Tab) => itoaI_any (n := (n : Int)) (by omega) (by omega) W h)
          have HD2 := Lib.hid (fun W (h : Lib.TabIs Tryd.prog W "internal/strconv.uint64pow10" .u64 Lib.pow10Tab) => itoaI_any (n := x1) (by omega) (by omega) W h)
          rw [hd1] at HD1
          rw [hd2] at HD2
          have j1 : (n : Int) ≤ (x0.size : Int) := by omega
          have f1 : ¬ 9223372036854775807 < d1.size + 1 := by omega
          have f2 : ¬ 9223372036854775807 < d1.size + 1 + K.size := by omega
          have f3 : ¬ 9223372036854775807 < d1.size + 1 + K.size + 1 := by omega
          have f4 : ¬ 9223372036854775807 < d1.size + 1 + K.size + 1 + d2.size := by omega
          have f5 : ¬ 9223372036854775807 < 1 + x3.size := by omega
          have f6 : ¬ 9223372036854775807 < d1.size + 1 + K.size + 1 + d2.size + (1 + x3.size) := by omega
          have f7 : ¬ 9223372036854775807 < d1.size + 1 + K.size + 1 + d2.size + (1 + x3.size) + 1 := by omega
          have f8 : ¬ 9223372036854775807 < d1.size + 1 + K.size + 1 + d2.size + 1 := by omega
          clear hd1 hd2 c0 c1 c2 c3
          obtain ⟨-, c0, c1, c2, c3⟩ := KS.out _ G3.out
          go_wp2_with fail
          go_region_held3 (fun W => Below w1.heap.size w1 W ∧ W.cell? ⟨w.heap.size, 0, none⟩ = some (.string x0) ∧ W.cell? ⟨w.heap.size, 1, none⟩ = some (.int .i64 x1) ∧ W.cell? ⟨w.heap.size, 2, none⟩ = some (.bool x2) ∧ W.cell? ⟨w.heap.size, 3, none⟩ = some (.string x3))
            (first | exact KS.out _ GB.out | exact KS.out _ GA.out | exact KS.out _ (G3.out.drew))
            (first
              | (have gA := GA; go_at_call 19; refine (HD2.out _ (tab_below HT.out (B1.out.trans (GA.out.mono B1.out.size)))).mono ?_; rintro e wB ⟨rfl, bB⟩; have GB := Lib.hid (GA.out.trans (bB.mono GA.out.size)))
              | (go_at_call 19; refine (HD1.out _ (tab_below HT.out (B1.out.trans ((G3.out.drew).mono B1.out.size)))).mono ?_; rintro e wA ⟨rfl, bA⟩; have GA := Lib.hid ((G3.out.drew).trans (bA.mono G3.out.size))))
          rename_i hH
          clear c0 c1 c2 c3
          obtain ⟨-, c0, c1, c2, c3⟩ := hH
          have GW := Lib.hid (B1.out.trans (GB.out.mono B1.out.size))
          clear GA GB gA bA bB
          cases x2 with
          | true =>
            go_wp2
            go_ret
            exact ⟨by rw [HF.out]; rfl, GW.out⟩
          | false =>
            go_wp2
            go_ret
            exact ⟨by rw [HF.out]; rfl, GW.out⟩
      · have i2 : ¬ (n : Int) < (x0.size : Int) := by omega
        have i3 : decide ((n : Int) < min (last.size : Int) (x0.size : Int)) = false := decide_eq_false (by omega)
        have HR := Lib.hid (alikeB_of hna hnb (HA.out hna hnb) (.inr (.inl (by omega))))
        clear HA HQ
        go_wp2_with fail
        go_quiet (fail)
        have G3 := Lib.hid (below_drewN G.out nq)
        obtain ⟨d1, hd1⟩ : ∃ d, decI (n : Nat) = d := ⟨_, rfl⟩
        obtain ⟨d2, hd2⟩ : ∃ d, decI x1 = d := ⟨_, rfl⟩
        obtain ⟨K, hK⟩ : ∃ K, x0.extract n x0.size = K := ⟨_, rfl⟩
        have s1 : d1.size ≤ 21 := by rw [← hd1]; exact decI_size (by omega) (by omega)
        have s2 : d2.size ≤ 21 := by rw [← hd2]; exact decI_size (by omega) (by omega)
        have sK : K.size ≤ 24 := by rw [← hK, ByteArray.size_extract]; omega
        have HF := Lib.hid (lineB_form last x0 x1 x2 x3 (d1 := d1) (K := K) (d2 := d2) (by rw [HR.out]; exact hd1) (by rw [HR.out]; exact hK) hd2)
        have HD1 := Lib.hid (fun W (h : Lib.TabIs Tryd.prog W "internal/strconv.uint64pow10" .u64 Lib.pow10Tab) => itoaI_any (n := (n : Int)) (by omega) (by omega) W h)
        have HD2 := Lib.hid (fun W (h : Lib.TabIs Tryd.prog W "internal/strconv.uint64pow10" .u64 Lib.pow10Tab) => itoaI_any (n := x1) (by omega) (by omega) W h)
        rw [hd1] at HD1
        rw [hd2] at HD2
        have j1 : (n : Int) ≤ (x0.size : Int) := by omega
        have f1 : ¬ 9223372036854775807 < d1.size + 1 := by omega
        have f2 : ¬ 9223372036854775807 < d1.size + 1 + K.size := by omega
        have f3 : ¬ 9223372036854775807 < d1.size + 1 + K.size + 1 := by omega
        have f4 : ¬ 9223372036854775807 < d1.size + 1 + K.size + 1 + d2.size := by omega
        have f5 : ¬ 9223372036854775807 < 1 + x3.size := by omega
        have f6 : ¬ 9223372036854775807 < d1.size + 1 + K.size + 1 + d2.size + (1 + x3.size) := by omega
        have f7 : ¬ 9223372036854775807 < d1.size + 1 + K.size + 1 + d2.size + (1 + x3.size) + 1 := by omega
        have f8 : ¬ 9223372036854775807 < d1.size + 1 + K.size + 1 + d2.size + 1 := by omega
        clear hd1 hd2 c0 c1 c2 c3
        obtain ⟨-, c0, c1, c2, c3⟩ := KS.out _ G3.out
        go_wp2_with fail
        go_region_held3 (fun W => Below w1.heap.size w1 W ∧ W.cell? ⟨w.heap.size, 0, none⟩ = some (.string x0) ∧ W.cell? ⟨w.heap.size, 1, none⟩ = some (.int .i64 x1) ∧ W.cell? ⟨w.heap.size, 2, none⟩ = some (.bool x2) ∧ W.cell? ⟨w.heap.size, 3, none⟩ = some (.string x3))
          (first | exact KS.out _ GB.out | exact KS.out _ GA.out | exact KS.out _ (G3.out.drew))
          (first
            | (have gA := GA; go_at_call 19; refine (HD2.out _ (tab_below HT.out (B1.out.trans (GA.out.mono B1.out.size)))).mono ?_; rintro e wB ⟨rfl, bB⟩; have GB := Lib.hid (GA.out.trans (bB.mono GA.out.size)))
            | (go_at_call 19; refine (HD1.out _ (tab_below HT.out (B1.out.trans ((G3.out.drew).mono B1.out.size)))).mono ?_; rintro e wA ⟨rfl, bA⟩; have GA := Lib.hid ((G3.out.drew).trans (bA.mono G3.out.size))))
        rename_i hH
        clear c0 c1 c2 c3
        obtain ⟨-, c0, c1, c2, c3⟩ := hH
        have GW := Lib.hid (B1.out.trans (GB.out.mono B1.out.size))
        clear GA GB gA bA bB
        cases x2 with
        | true =>
          go_wp2
          go_ret
          exact ⟨by rw [HF.out]; rfl, GW.out⟩
        | false =>
          go_wp2
          go_ret
          exact ⟨by rw [HF.out]; rfl, GW.out⟩
    · have i1 : ¬ (n : Int) < (last.size : Int) := by omega
      have i3 : decide ((n : Int) < min (last.size : Int) (x0.size : Int)) = false := decide_eq_false (by omega)
      have HR := Lib.hid (alikeB_of hna hnb (HA.out hna hnb) (.inl (by omega)))
      clear HA HQ
      go_wp2_with fail
      go_quiet (fail)
      have G3 := Lib.hid (below_drewN G.out nq)
      obtain ⟨d1, hd1⟩ : ∃ d, decI (n : Nat) = d := ⟨_, rfl⟩
      obtain ⟨d2, hd2⟩ : ∃ d, decI x1 = d := ⟨_, rfl⟩
      obtain ⟨K, hK⟩ : ∃ K, x0.extract n x0.size = K := ⟨_, rfl⟩
      have s1 : d1.size ≤ 21 := by rw [← hd1]; exact decI_size (by omega) (by omega)
      have s2 : d2.size ≤ 21 := by rw [← hd2]; exact decI_size (by omega) (by omega)
      have sK : K.size ≤ 24 := by rw [← hK, ByteArray.size_extract]; omega
      have HF := Lib.hid (lineB_form last x0 x1 x2 x3 (d1 := d1) (K := K) (d2 := d2) (by rw [HR.out]; exact hd1) (by rw [HR.out]; exact hK) hd2)
      have HD1 := Lib.hid (fun W (h : Lib.TabIs Tryd.prog W "internal/strconv.uint64pow10" .u64 Lib.pow10Tab) => itoaI_any (n := (n : Int)) (by omega) (by omega) W h)
      have HD2 := Lib.hid (fun W (h : Lib.TabIs Tryd.prog W "internal/strconv.uint64pow10" .u64 Lib.pow10Tab) => itoaI_any (n := x1) (by omega) (by omega) W h)
      rw [hd1] at HD1
      rw [hd2] at HD2
      have j1 : (n : Int) ≤ (x0.size : Int) := by omega
      have f1 : ¬ 9223372036854775807 < d1.size + 1 := by omega
      have f2 : ¬ 9223372036854775807 < d1.size + 1 + K.size := by omega
      have f3 : ¬ 9223372036854775807 < d1.size + 1 + K.size + 1 := by omega
      have f4 : ¬ 9223372036854775807 < d1.size + 1 + K.size + 1 + d2.size := by omega
      have f5 : ¬ 9223372036854775807 < 1 + x3.size := by omega
      have f6 : ¬ 9223372036854775807 < d1.size + 1 + K.size + 1 + d2.size + (1 + x3.size) := by omega
      have f7 : ¬ 9223372036854775807 < d1.size + 1 + K.size + 1 + d2.size + (1 + x3.size) + 1 := by omega
      have f8 : ¬ 9223372036854775807 < d1.size + 1 + K.size + 1 + d2.size + 1 := by omega
      clear hd1 hd2 c0 c1 c2 c3
      obtain ⟨-, c0, c1, c2, c3⟩ := KS.out _ G3.out
      go_wp2_with fail
      go_region_held3 (fun W => Below w1.heap.size w1 W ∧ W.cell? ⟨w.heap.size, 0, none⟩ = some (.string x0) ∧ W.cell? ⟨w.heap.size, 1, none⟩ = some (.int .i64 x1) ∧ W.cell? ⟨w.heap.size, 2, none⟩ = some (.bool x2) ∧ W.cell? ⟨w.heap.size, 3, none⟩ = some (.string x3))
        (first | exact KS.out _ GB.out | exact KS.out _ GA.out | exact KS.out _ (G3.out.drew))
        (first
          | (have gA := GA; go_at_call 19; refine (HD2.out _ (tab_below HT.out (B1.out.trans (GA.out.mono B1.out.size)))).mono ?_; rintro e wB ⟨rfl, bB⟩; have GB := Lib.hid (GA.out.trans (bB.mono GA.out.size)))
          | (go_at_call 19; refine (HD1.out _ (tab_below HT.out (B1.out.trans ((G3.out.drew).mono B1.out.size)))).mono ?_; rintro e wA ⟨rfl, bA⟩; have GA := Lib.hid ((G3.out.drew).trans (bA.mono G3.out.size))))
      rename_i hH
      clear c0 c1 c2 c3
      obtain ⟨-, c0, c1, c2, c3⟩ := hH
      have GW := Lib.hid (B1.out.trans (GB.out.mono B1.out.size))
      clear GA GB gA bA bB
      cases x2 with
      | true =>
        go_wp2
        go_ret
        exact ⟨by rw [HF.out]; rfl, GW.out⟩
      | false =>
        go_wp2
        go_ret
        exact ⟨by rw [HF.out]; rfl, GW.out⟩
end Go.Proofs.YtfekpbkcidhbfaaDoor
