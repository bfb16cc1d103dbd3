import Derived.Test.YtlaehhdbagiciabUseMayS
import Derived.Test.YtlaehhdbagiciabSpaceG
/- Whether uses are ok: the program. -/
namespace Go.Proofs.Ytlaehhdbagiciab
open Go Go.RowKit

theorem count_isE {n lo : Int} {b : Bool} (h : inB n lo 99999 = b) (w : World) :
    Calls Try.prog 67 #[.int .i64 n, .int .i64 lo] w fun e w' => e = .returned (.bool b) ∧ w' = w := count_is h w
set_option maxRecDepth 100000 in
set_option maxHeartbeats 2000000 in
theorem usesOk_any (a b : Option Addr) (c cb : Nat) (nbl : List Nat) (l : List SpaceD) (hln : nbl.length = l.length) (u : List UseD) (w : World) (hp : PtS w a nbl) (hn : NmS w nbl l) (hu : ElS 2 encUse w b u) :
    Calls Try.prog 66 #[.agg #[.slice a nbl.length c], .slice b u.length cb] w fun e w' => e = .returned (.bool (usesB l u)) ∧ Below w.heap.size w w' := by
  have HP := Lib.hid hp
  have HN := Lib.hid hn
  have HY := Lib.hid hu
  have hu1 := hu.1
  unfold maxLen at hu1
  have hlen := hp.1
  have HLN := Lib.hid hln
  clear hp hn hu hln
  by_cases hq : u.length = nbl.length
  · have hni : ((u.length : Int) != (nbl.length : Int)) = false := by rw [hq]; simp
    have HD := Lib.hid (show usesB l u = upto (useP l u) u.length by unfold usesB; rw [decide_eq_true (hq.trans HLN.out)]; rfl)
    have HNL := Lib.hid hq
    clear hq
    go_enter Try.func66, Try.ntmps66
    go_wp2
    go_loopw [15] (fun i wr => ∃ k : Nat, k ≤ u.length ∧ i = .int .i64 k ∧ upto (useP l u) k = true ∧ Box wr w.heap.size [.slice a nbl.length c] ∧ Below w.heap.size w wr) (fun i _ => u.length - (intOf i).toNat)
    case atStart => exact ⟨0, Nat.zero_le _, rfl, rfl, Box.alloc _ _ _, (by repeat (first | exact Below.refl _ _ | (refine Below.alloc ?_ (by first | (simp; done) | (simp; omega)) _) | (refine Below.setCell ?_ (by first | (simp; done) | (simp; omega)) _) | (refine Below.drew ?_)))⟩
    case round =>
      obtain ⟨k, hk, rfl, hto, hbx, hbel⟩ := hrel
      have HT := Lib.hid hto
      have HB := Lib.hid hbel
      have HBX := Lib.hid hbx
      clear hto hbel hbx
      by_cases hlt : k < u.length
      · have hkn : k < nbl.length := by have := HNL.out; omega
        have hkl : k < l.length := by have := HLN.out; omega
        obtain ⟨b1, o1, rfl, hcell⟩ := HP.out.2.resolve_left (fun e => by rw [e] at hkn; simp at hkn)
        obtain ⟨b2, o2, rfl, hc2⟩ := HY.out.2.resolve_left (fun e => by rw [e] at hlt; simp at hlt)
        obtain ⟨cu0, cu1⟩ := cellsUse HB.out hc2 k hlt
        have h1 := hcell k hkn
        have c1 := (HB.out.cell (by have := World.block_lt_of_cell? w _ h1; simpa using this)).trans h1
        have h2 := HN.out k hkn hkl
        have c2 := (HB.out.cell (by have := World.block_lt_of_cell? w _ h2; simpa using this)).trans h2
        have tc := (HBX.out 0 _ rfl).1
        have hbz := HB.out.size
        have hwb : w.heap.size < wr.heap.size := HBX.out.lt
        have hk0 : (0 : Int) ≤ (k : Int) := by omega
        have hk1 : (k : Int) < (nbl.length : Int) := by omega
        have hk2 : (k : Int) < (u.length : Int) := by omega
        have hb1 : b1 < wr.heap.size := by have := World.block_lt_of_cell? wr _ c1; simpa using this
        clear hcell h1 h2 hc2
        obtain ⟨bk, hbk⟩ : ∃ bk, nbl[k] = bk := ⟨_, rfl⟩
        rw [hbk] at c1 c2
        have hbkl : bk < wr.heap.size := by have := World.block_lt_of_cell? wr _ c2; simpa using this
        clear hbk
        have HP1 := Lib.hid (show useP l u k = (decide (u[k].1 = l[k].1) && inB u[k].2 0 99999) by unfold useP; rw [getD_us hlt, nmS_at hkl])
        by_cases e : u[k].1 = l[k].1
        · have q1 : (!u[k].1.toList == l[k].1.toList) = false := by rw [e]; simp
          have HP2 := Lib.hid (show useP l u k = inB u[k].2 0 99999 by rw [HP1.out, decide_eq_true e]; rfl)
          clear e
          obtain ⟨q, hq⟩ : ∃ q, inB u[k].2 0 99999 = q := ⟨_, rfl⟩
          have HQ := Lib.hid hq
          clear hq
          cases q with
          | true =>
            have HS := Lib.hid (show upto (useP l u) (k + 1) = true by rw [upto_succ, HT.out, HP2.out, HQ.out]; rfl)
            go_wp2_with fail
            go_quiet ((go_at_call 67; exact Calls.quiet_of_same (count_isE HQ.out _)))
            go_wp2_with fail
            have BW := Lib.hid (show Below wr.heap.size wr ((wr.alloc (.cells #[.string u[k].1, .int .i64 u[k].2] 69)).drewN nq) from below_drewN (below_alloc wr _) nq)
            go_roundw
            case rel => exact ⟨k + 1, by omega, by go_num, HS.out, HBX.out.below BW.out, HB.out.trans (BW.out.mono hbz)⟩
            case measure => simp [intOf]; omega
          | false =>
            have HF := Lib.hid (show usesB l u = false by rw [HD.out, upto_no hlt (by rw [HP2.out, HQ.out])])
            go_wp2_with fail
            go_quiet ((go_at_call 67; exact Calls.quiet_of_same (count_isE HQ.out _)))
            go_wp2_with fail
            go_ret
            exact ⟨ret_bool HF.out.symm, HB.out.trans ((below_drewN (below_alloc wr _) nq).mono hbz)⟩
        · have q1 : (!u[k].1.toList == l[k].1.toList) = true := by rw [toList_no e]; rfl
          have HF := Lib.hid (show usesB l u = false by rw [HD.out, upto_no hlt (by rw [HP1.out, decide_eq_false e]; rfl)])
          clear e
          go_wp2_with fail
          go_quiet ((go_at_call 67; fail))
          go_wp2_with fail
          go_ret
          exact ⟨ret_bool HF.out.symm, HB.out.trans ((below_drewN (below_alloc wr _) nq).mono hbz)⟩
      · have hkl : k = u.length := by omega
        subst hkl
        have HN2 := Lib.hid (show usesB l u = true by rw [HD.out, HT.out])
        go_wp2
        go_ret
        exact ⟨ret_bool HN2.out.symm, HB.out⟩
  · have hni : ((u.length : Int) != (nbl.length : Int)) = true := by rw [bne_iff_ne]; omega
    have HD := Lib.hid (show usesB l u = false by unfold usesB; rw [decide_eq_false (by have := HLN.out; omega)]; rfl)
    clear hq
    go_enter Try.func66, Try.ntmps66
    go_wp2
    go_ret
    exact ⟨ret_bool HD.out.symm, (by repeat (first | exact Below.refl _ _ | (refine Below.alloc ?_ (by first | (simp; done) | (simp; omega)) _) | (refine Below.setCell ?_ (by first | (simp; done) | (simp; omega)) _) | (refine Below.drew ?_)))⟩
end Go.Proofs.Ytlaehhdbagiciab
