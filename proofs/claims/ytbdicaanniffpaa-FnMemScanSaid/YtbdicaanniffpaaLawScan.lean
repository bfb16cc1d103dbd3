import Derived.Test.YtbdicaanniffpaaDrawList
import Derived.Test.YtbdicaanniffpaaWmE
import Derived.Test.YtbdicaanniffpaaLawsP
import Derived.Test.YtbdicaanniffpaaScanJ
/- The walk of FnMemScan. -/
namespace Go.Proofs.Ytbdicaanniffpaa
open Go Go.RowKit

theorem cnt_step {q : ByteArray → Bool} {last : ByteArray} {l : List EntryD} {i n N : Nat} (hi : i < l.length) (h : n + cntR q last (l.drop i) = N) : n + (if l[i].1 ≠ last ∧ q l[i].1 = true then 1 else 0) + cntR q l[i].1 (l.drop (i + 1)) = N := by
  rw [List.drop_eq_getElem_cons hi, cntR] at h
  omega
theorem starts_size {s pre : ByteArray} (h : startsB s pre = true) : pre.size ≤ s.size := by
  cases hd : decide (pre.size ≤ s.size) with
  | true => exact of_decide_eq_true hd
  | false => rw [starts_short (of_decide_eq_false hd)] at h; cases h

set_option maxRecDepth 100000 in
set_option maxHeartbeats 4000000 in
theorem fnMemScanWalk (a : Option Addr) (c : Nat) (l : List UInt8) {w : World} (hl : l.length ≤ c) (hc : c ≤ maxLen) (h : BytesS w a l) :
    Calls Try.prog 3 #[.slice a l.length c] w fun e w' => e = .returned (.bool true) ∧ Below w.heap.size w w' := by
  have hcl := hc
  unfold maxLen at hcl
  by_cases hb : (1048576 : Int) < (l.length : Int)
  · go_enter Try.func3, Try.ntmps3
    go_wp2
    go_ret
    exact ⟨rfl, Below.refl _ _⟩
  have hb' : (l.length : Int) ≤ 1048576 := by omega
  clear hb
  go_enter Try.func3, Try.ntmps3
  go_wp2_with fail
  refine (drawScan_any a c l _ hl hc h).mono ?_
  rintro e w1 ⟨b, cb, L, pre, q, rfl, e1, hcb, hE, hn, hps, f0, f1, b1⟩
  have E1 := Lib.hid e1
  have HE := Lib.hid hE
  clear e1 hE
  obtain ⟨R, hR⟩ : ∃ R, R = scanV L pre q := ⟨_, rfl⟩
  have hRn : R.length ≤ 240 := by rw [hR]; exact scanV_len _ _ _
  have HR := Lib.hid hR
  clear hR
  go_wp2_with fail
  refine (implScan_any _ _ L pre q _ hcb E1.out HE.out.ok).mono ?_
  rintro e w2 ⟨v2, rfl, o2, b2⟩
  rw [← HR.out] at o2
  obtain ⟨a2, c2, rfl⟩ := own_shape o2
  have hc2 := own_cap o2
  have O2 := Lib.hid o2
  have B2 : Below w.heap.size w w2 := b1.trans (b2.mono b1.size)
  have E2 := Lib.hid (E1.out.below b2)
  clear o2 b2 b1 E1
  go_wp2_with fail
  refine (specScan_any _ _ L pre q _ E2.out HE.out.ok).mono ?_
  rintro e w3 ⟨v3, rfl, o3, b3⟩
  rw [← HR.out] at o3
  obtain ⟨a3, c3, rfl⟩ := own_shape o3
  have O3 := Lib.hid o3
  have X3 := Lib.hid (own_el encEntry_len (by unfold maxLen; omega) (own_below O2.out b3))
  have E3 := Lib.hid (E2.out.below b3)
  have B3 : Below w.heap.size w w3 := B2.trans (b3.mono B2.size)
  clear o3 b3 O2 E2 B2
  go_wp2_with fail
  refine (wmEnts_any _ _ _ _ R _ (by omega) X3.out (own_el encEntry_len (by unfold maxLen; omega) O3.out)).mono ?_
  rintro e w4 ⟨rfl, b4⟩
  have X4 := Lib.hid (X3.out.below b4)
  have E4 := Lib.hid (E3.out.below b4)
  have B4 : Below w.heap.size w w4 := B3.trans (b4.mono B3.size)
  clear b4 O3 X3 B3 E3
  obtain ⟨B, hB⟩ : ∃ B, B = entsB L := ⟨_, rfl⟩
  have HB := Lib.hid hB
  clear hB
  go_wp2_with fail
  refine (implEntries_any _ _ L _ E4.out HE.out.ok).mono ?_
  rintro e w5 ⟨rfl, b5⟩
  rw [← HB.out]
  have X5 := Lib.hid (X4.out.below b5)
  have E5 := Lib.hid (E4.out.below b5)
  have B5 : Below w.heap.size w w5 := B4.trans (b5.mono B4.size)
  clear b5 X4 E4 B4
  go_wp2_with fail
  refine (specEntries_any _ _ L _ E5.out HE.out.ok).mono ?_
  rintro e w6 ⟨rfl, b6⟩
  rw [← HB.out]
  have X6 := Lib.hid (X5.out.below b6)
  have E6 := Lib.hid (E5.out.below b6)
  have B6 : Below w.heap.size w w6 := B5.trans (b6.mono B5.size)
  clear b6 X5 E5 B5
  go_wp2_with fail
  refine (specEntries_any _ _ L _ E6.out HE.out.ok).mono ?_
  rintro e w7 ⟨rfl, b7⟩
  rw [← HB.out]
  have X7 := Lib.hid (X6.out.below b7)
  have E7 := Lib.hid (E6.out.below b7)
  have B7 : Below w.heap.size w w7 := B6.trans (b7.mono B6.size)
  clear b7 X6 E6 B6
  cases B with
  | false =>
    have hR0 : ((R.length : Int) == 0) = true := by rw [HR.out, scanV_no HB.out.symm]; rfl
    go_wp2
    go_ret
    exact ⟨rfl, B7⟩
  | true =>
    have HRV := Lib.hid (show R = scanR pre q ⟨#[]⟩ L by rw [HR.out, scanV_yes HB.out.symm])
    have HPW := Lib.hid (entsB_all HB.out.symm).2.2
    have HG := Lib.hid (show ∀ i (hi : i < R.length), getE L R[i].1 q = some R[i] ∧ R[i].2.2.1 = false ∧ startsB R[i].1 pre = true from fun i hi => by
      have := scan_get L _ HPW.out (fun x _ => nil_le _) (show R[i] ∈ scanR pre q ⟨#[]⟩ L by rw [← HRV.out]; exact List.getElem_mem _)
      exact this.2)
    have HA := Lib.hid (show ∀ i (hi : i + 1 < R.length), ltS (R[i]'(by omega)).1 R[i+1].1 = true from fun i hi => by
      have h1 : R.Pairwise (fun a b => ltS a.1 b.1 = true) := by rw [HRV.out]; exact scan_asc L _ HPW.out
      exact List.pairwise_iff_getElem.1 h1 i (i + 1) (by omega) hi (by omega))
    have hL2 : L.length ≤ 240 := (entsB_at HB.out.symm).1
    go_wp2
    go_loopw [7] (fun v wr => ∃ i : Nat, i ≤ R.length ∧ v = .int .i64 i ∧ ElS 4 encEntry wr a2 R ∧ ElS 4 encEntry wr b L ∧ Below w.heap.size w wr) (fun v _ => R.length - (intOf v).toNat)
    case atStart => exact ⟨0, by omega, rfl, X7.out, E7.out, B7⟩
    case round =>
      clear X7 E7 B7
      obtain ⟨i, hi, rfl, hx, he, hbel⟩ := hrel
      have HX := Lib.hid hx
      have HEE := Lib.hid he
      clear hx he
      by_cases hlt : i < R.length
      · obtain ⟨ba, oa, rfl, hca⟩ := HX.out.2.resolve_left (by intro e; subst e; simp at hlt)
        have HC := Lib.hid hca
        clear hca
        obtain ⟨c0, c1, c2', c3⟩ := cellsEntry (Below.refl _ wr) HC.out i hlt
        have hi0 : (0 : Int) ≤ (i : Int) := by omega
        have hin : (i : Int) < (R.length : Int) := by omega
        obtain ⟨g1, g2, g3⟩ := HG.out i hlt
        have HV := Lib.hid (show getVV L R[i].1 q = R[i].2.2.2 by unfold getVV getV; rw [if_pos HB.out.symm, g1]; rfl)
        have HBB := Lib.hid (show getBB L R[i].1 q = true by unfold getBB getB; rw [if_pos HB.out.symm, g1]; simp [optB, g2])
        have HST := Lib.hid (show ((R[i].1.extract 0 pre.size).toList == pre.toList) = true by rw [starts_cut]; exact g3)
        have hsz := starts_size g3
        have hszi : (pre.size : Int) ≤ (R[i].1.size : Int) := by omega
        have hszd : decide (R[i].1.size < pre.size) = false := decide_eq_false (by omega)
        have qv : (R[i].2.2.2.toList == R[i].2.2.2.toList) = true := by simp
        clear g1 g2 g3
        go_wp2_with fail
        refine (implGet_any _ _ L R[i].1 q _ (by omega) HEE.out HE.out.ok).mono ?_
        rintro e u1 ⟨rfl, k1⟩
        rw [HV.out, HBB.out]
        have HX1 := Lib.hid (HX.out.below k1)
        have HE1 := Lib.hid (HEE.out.below k1)
        have C1 : Below w.heap.size w u1 := hbel.trans (k1.mono hbel.size)
        obtain ⟨d0, d1, d2, d3⟩ := cellsEntry k1 HC.out i hlt
        clear c0 c1 c2' c3
        by_cases h0 : i = 0
        · have h0i : decide (0 < i) = false := decide_eq_false (by omega)
          have hst := HST.out
          clear h0 k1
          go_wp2
          go_quiet (fail)
          go_wp2
          go_roundw
          case rel => exact ⟨i + 1, by omega, by go_num, HX1.out.below (bel_drewN (Below.refl _ _) _), HE1.out.below (bel_drewN (Below.refl _ _) _), below_drewN C1 nq⟩
          case measure => simp [intOf]; omega
        · obtain ⟨m, hm⟩ : ∃ m, i = m + 1 := ⟨i - 1, by omega⟩
          have h0i : decide (0 < i) = true := decide_eq_true (by omega)
          have h0p : (0 : Int) < (i : Int) := by omega
          have hkm : (i : Int) - 1 = (m : Int) := by omega
          have hkw : IntKind.i64.wrap (m : Int) = (m : Int) := wrap_len (by omega)
          have hml : m < R.length := by omega
          have hm0 : (0 : Int) ≤ (m : Int) := by omega
          have hmn : (m : Int) < (R.length : Int) := by omega
          obtain ⟨f0', f1', f2', f3'⟩ := cellsEntry k1 HC.out m hml
          have hap : Op.bytesLess R[m].1.toList R[i].1.toList = true := by subst hm; exact HA.out m hlt
          have hst := HST.out
          clear hm h0 k1
          go_wp2
          go_quiet (fail)
          go_wp2
          go_roundw
          case rel => exact ⟨i + 1, by omega, by go_num, HX1.out.below (bel_drewN (Below.refl _ _) _), HE1.out.below (bel_drewN (Below.refl _ _) _), below_drewN C1 nq⟩
          case measure => simp [intOf]; omega
      · have HCN := Lib.hid (show cntR (fun k => getB L k q && startsB k pre) ⟨#[]⟩ L = R.length by rw [HRV.out]; exact scan_count HB.out.symm)
        go_wp2
        go_loopw [10, 11, 12] (fun v10 v11 v12 wr => ∃ (j n : Nat) (last : ByteArray), j ≤ L.length ∧ v12 = .int .i64 j ∧ v10 = .int .i64 n ∧ v11 = .string last ∧ n ≤ j ∧ n + cntR (fun k => getB L k q && startsB k pre) last (L.drop j) = R.length ∧ ElS 4 encEntry wr b L ∧ Below w.heap.size w wr) (fun _ _ v12 _ => L.length - (intOf v12).toNat)
        case atStart => exact ⟨0, 0, ⟨#[]⟩, by omega, rfl, rfl, rfl, by omega, by rw [List.drop_zero, HCN.out]; omega, HEE.out, hbel⟩
        case round =>
          clear HEE hbel HX
          obtain ⟨j, n, last, hj, rfl, rfl, rfl, hnj, hcnt, he, hbel⟩ := hrel
          have HEE := Lib.hid he
          clear he
          by_cases hjl : j < L.length
          · obtain ⟨ba, oa, rfl, hca⟩ := HEE.out.2.resolve_left (by intro e; subst e; simp at hjl)
            have HC := Lib.hid hca
            clear hca
            obtain ⟨c0, c1, c2', c3⟩ := cellsEntry (Below.refl _ wr) HC.out j hjl
            have hj0 : (0 : Int) ≤ (j : Int) := by omega
            have hjn : (j : Int) < (L.length : Int) := by omega
            have HN := Lib.hid (cnt_step hjl hcnt)
            have HBB := Lib.hid (show getBB L L[j].1 q = getB L L[j].1 q by unfold getBB; rw [if_pos HB.out.symm])
            clear hcnt
            go_wp2_with fail
            refine (implGet_any _ _ L L[j].1 q _ (by omega) HEE.out HE.out.ok).mono ?_
            rintro e u1 ⟨rfl, k1⟩
            rw [HBB.out]
            have HE1 := Lib.hid (HEE.out.below k1)
            have C1 : Below w.heap.size w u1 := hbel.trans (k1.mono hbel.size)
            clear c0 c1 c2' c3 k1
            by_cases hkl : L[j].1 = last
            · have q1 : (L[j].1.toList == last.toList) = true := by rw [hkl]; simp
              have HN2 := Lib.hid (show n + cntR (fun k => getB L k q && startsB k pre) L[j].1 (L.drop (j + 1)) = R.length by have := HN.out; rwa [if_neg (fun h => h.1 hkl), Nat.add_zero] at this)
              clear hkl
              go_wp2
              go_roundw
              case rel => exact ⟨j + 1, n, L[j].1, by omega, by go_num, rfl, rfl, by omega, HN2.out, HE1.out, C1⟩
              case measure => simp [intOf]; omega
            · have q1 := eqL_no hkl
              have HKL := Lib.hid hkl
              clear hkl
              cases hg : getB L L[j].1 q with
              | false =>
                have HN2 := Lib.hid (show n + cntR (fun k => getB L k q && startsB k pre) L[j].1 (L.drop (j + 1)) = R.length by have := HN.out; rwa [if_neg (fun h => by have := h.2; rw [hg] at this; simp at this), Nat.add_zero] at this)
                clear hg
                go_wp2
                go_roundw
                case rel => exact ⟨j + 1, n, L[j].1, by omega, by go_num, rfl, rfl, by omega, HN2.out, HE1.out, C1⟩
                case measure => simp [intOf]; omega
              | true =>
                cases hs : startsB L[j].1 pre with
                | false =>
                  have HN2 := Lib.hid (show n + cntR (fun k => getB L k q && startsB k pre) L[j].1 (L.drop (j + 1)) = R.length by have := HN.out; rwa [if_neg (fun h => by have := h.2; rw [hs] at this; simp at this), Nat.add_zero] at this)
                  by_cases hz : pre.size ≤ L[j].1.size
                  · have hzi : (pre.size : Int) ≤ (L[j].1.size : Int) := by omega
                    have hzd : decide (pre.size ≤ L[j].1.size) = true := decide_eq_true hz
                    have hst : ((L[j].1.extract 0 pre.size).toList == pre.toList) = false := by rw [starts_cut]; exact hs
                    clear hg hs
                    go_wp2
                    go_roundw
                    case rel => exact ⟨j + 1, n, L[j].1, by omega, by go_num, rfl, rfl, by omega, HN2.out, HE1.out, C1⟩
                    case measure => simp [intOf]; omega
                  · have hzi : (L[j].1.size : Int) < (pre.size : Int) := by omega
                    have hzd : decide (pre.size ≤ L[j].1.size) = false := decide_eq_false hz
                    clear hg hs
                    go_wp2
                    go_roundw
                    case rel => exact ⟨j + 1, n, L[j].1, by omega, by go_num, rfl, rfl, by omega, HN2.out, HE1.out, C1⟩
                    case measure => simp [intOf]; omega
                | true =>
                  have HN2 := Lib.hid (show n + 1 + cntR (fun k => getB L k q && startsB k pre) L[j].1 (L.drop (j + 1)) = R.length by have := HN.out; rwa [if_pos ⟨HKL.out, by rw [hg, hs]; rfl⟩] at this)
                  have hz := starts_size hs
                  have hzi : (pre.size : Int) ≤ (L[j].1.size : Int) := by omega
                  have hzd : decide (pre.size ≤ L[j].1.size) = true := decide_eq_true hz
                  have hst : ((L[j].1.extract 0 pre.size).toList == pre.toList) = true := by rw [starts_cut]; exact hs
                  clear hg hs
                  go_wp2
                  go_roundw
                  case rel => exact ⟨j + 1, n + 1, L[j].1, by omega, by go_num, by go_num, rfl, by omega, HN2.out, HE1.out, C1⟩
                  case measure => simp [intOf]; omega
          · have hnr : n = R.length := by rw [show L.drop j = [] from List.drop_of_length_le (by omega)] at hcnt; simpa [cntR] using hcnt
            have hnb : ((n : Int) == (R.length : Int)) = true := by simp [hnr]
            clear hcnt hnr
            go_wp2
            go_ret
            exact ⟨rfl, hbel⟩
end Go.Proofs.Ytbdicaanniffpaa
