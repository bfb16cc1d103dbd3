import Derived.Test.YtbioljpjpflboaaGreatDoorSpaceInS
import Derived.Test.YtbioljpjpflboaaGreatDoorUse
import Derived.Deep.QuietTactic
import Derived.BigQuiet
import Derived.Test.YtbioljpjpflboaaGreatDoorModelT
import Derived.Test.YtbioljpjpflboaaGreatDoorThingOk
import Derived.Test.YtbioljpjpflboaaGreatDoorOpen
import Derived.Test.YtbioljpjpflboaaGreatDoorModelPS
import Derived.Test.YtbioljpjpflboaaGreatDoorSpaceI
import Derived.Test.YtbioljpjpflboaaGreatDoorUseSumS
import Derived.Test.YtbioljpjpflboaaGreatDoorModelL
import Derived.Test.YtbioljpjpflboaaGreatDoorShelf
import Derived.Test.YtbioljpjpflboaaGreatDoorShape
import Derived.Test.YtbioljpjpflboaaGreatDoorBase
import Derived.Laws.AppendOwn
import Derived.Laws.IdiomCopy
import Derived.RangeFuncBox
import Derived.WalkSpells
import Derived.Lib.Hide
import Derived.Lib.SliceRun
import Derived.Test.YtbioljpjpflboaaGreatDoorModelK
/- What spaces use: the model. -/
namespace Go.Proofs.YtbioljpjpflboaaGreatDoor
open Go Go.RowKit

def isU (name : ByteArray) (x : UseD) : Bool := decide (x.1 = name)
/-- how much a space uses, by uses -/
def useN (u : List UseD) (name : ByteArray) : Int := match u.find? (isU name) with | some x => x.2 | none => 0
theorem useN_at {u : List UseD} {name : ByteArray} {k : Nat} (hk : k < u.length) (h : u[k].1 = name) (ht : ∀ j, j < k → ∀ (hl : j < u.length), u[j].1 ≠ name) : useN u name = u[k].2 := by
  unfold useN
  have : u.find? (isU name) = some u[k] := by
    rw [List.find?_eq_some_iff_getElem]
    exact ⟨by simpa [isU] using h, k, hk, rfl, fun j hj => by simpa [isU] using ht j hj _⟩
  rw [this]
theorem useN_none {u : List UseD} {name : ByteArray} (h : ∀ j (hj : j < u.length), u[j].1 ≠ name) : useN u name = 0 := by
  unfold useN
  have : u.find? (isU name) = none := by
    rw [List.find?_eq_none]
    intro x hx
    obtain ⟨j, hj, rfl⟩ := List.mem_iff_getElem.1 hx
    simpa [isU] using h j hj
  rw [this]

/-- one use is ok at its place -/
def useP (l : List SpaceD) (u : List UseD) (i : Nat) : Bool := decide ((u.getD i default).1 = nmS l i) && inB (u.getD i default).2 0 99999
/-- uses are ok with spaces -/
def usesB (l : List SpaceD) (u : List UseD) : Bool := decide (u.length = l.length) && upto (useP l u) u.length
theorem getD_us {u : List UseD} {k : Nat} (h : k < u.length) : u.getD k default = u[k] := by rw [List.getD_eq_getElem?_getD, List.getElem?_eq_getElem h]; rfl

set_option maxRecDepth 100000 in
set_option maxHeartbeats 2000000 in
theorem l8Uses_any (a b : Option Addr) (ca cb : Nat) (l : List SpaceD) (u : List UseD) (w : World) (hl : ElS 5 encSpace w a l) (hu : ElS 2 encUse w b u) :
    Calls Tryz.prog 55 #[.slice a l.length ca, .slice b u.length cb] w fun e w' => e = .returned (.bool (usesB l u)) ∧ Below w.heap.size w w' := by
  have hl1 := hl.1
  have hu1 := hu.1
  unfold maxLen at hl1 hu1
  have HX := Lib.hid hl
  have HY := Lib.hid hu
  clear hl hu
  by_cases hn : u.length = l.length
  · have hni : ((u.length : Int) != (l.length : Int)) = false := by rw [hn]; simp
    have HD := Lib.hid (show usesB l u = upto (useP l u) u.length by unfold usesB; rw [decide_eq_true hn]; rfl)
    have HNL := Lib.hid hn
    clear hn
    go_enter Tryz.func55, Tryz.ntmps55
    go_wp2
    go_loopw [5] (fun i wr => ∃ k : Nat, k ≤ u.length ∧ i = .int .i64 k ∧ upto (useP l u) k = true ∧ Below w.heap.size w wr) (fun i _ => u.length - (intOf i).toNat)
    case atStart => exact ⟨0, Nat.zero_le _, rfl, rfl, Below.refl _ _⟩
    case round =>
      obtain ⟨k, hk, rfl, hto, hbel⟩ := hrel
      have HT := Lib.hid hto
      have HB := Lib.hid hbel
      clear hto hbel
      by_cases hlt : k < u.length
      · have hll : k < l.length := by have := HNL.out; omega
        obtain ⟨b1, o1, rfl, hc1⟩ := HX.out.2.resolve_left (fun e => by rw [e] at hll; simp at hll)
        obtain ⟨b2, o2, rfl, hc2⟩ := HY.out.2.resolve_left (fun e => by rw [e] at hlt; simp at hlt)
        have cl := (cellsSpace HB.out hc1 k hll).1
        obtain ⟨cu0, cu1⟩ := cellsUse HB.out hc2 k hlt
        have hk0 : (0 : Int) ≤ (k : Int) := by omega
        have hk1 : (k : Int) < (l.length : Int) := by omega
        have hk2 : (k : Int) < (u.length : Int) := by omega
        clear hc1 hc2
        have HP := Lib.hid (show useP l u k = (decide (u[k].1 = l[k].1) && inB u[k].2 0 99999) by unfold useP; rw [getD_us hlt, nmS_at hll])
        by_cases e : u[k].1 = l[k].1
        · have q1 : (!u[k].1.toList == l[k].1.toList) = false := by rw [e]; simp
          have HP2 := Lib.hid (show useP l u k = inB u[k].2 0 99999 by rw [HP.out, decide_eq_true e]; rfl)
          clear e
          obtain ⟨q, hq⟩ : ∃ q, inB u[k].2 0 99999 = q := ⟨_, rfl⟩
          have HQ := Lib.hid hq
          clear hq
          cases q with
          | true =>
            have HS := Lib.hid (show upto (useP l u) (k + 1) = true by rw [upto_succ, HT.out, HP2.out, HQ.out]; rfl)
            go_wp2_with fail
            go_quiet ((go_at_call 53; exact Calls.quiet_of_same (in_is HQ.out _)))
            go_wp2_with fail
            go_roundw
            case rel => exact ⟨k + 1, by omega, by go_num, HS.out, below_drewN HB.out _⟩
            case measure => simp [intOf]; omega
          | false =>
            have HF := Lib.hid (show usesB l u = false by rw [HD.out, upto_no hlt (by rw [HP2.out, HQ.out])])
            go_wp2_with fail
            go_quiet ((go_at_call 53; exact Calls.quiet_of_same (in_is HQ.out _)))
            go_wp2_with fail
            go_ret
            exact ⟨ret_bool HF.out.symm, below_drewN HB.out _⟩
        · have q1 : (!u[k].1.toList == l[k].1.toList) = true := by rw [toList_no e]; rfl
          have HF := Lib.hid (show usesB l u = false by rw [HD.out, upto_no hlt (by rw [HP.out, decide_eq_false e]; rfl)])
          clear e
          go_wp2_with fail
          go_quiet ((go_at_call 53; fail))
          go_wp2_with fail
          go_ret
          exact ⟨ret_bool HF.out.symm, below_drewN HB.out _⟩
      · have hkl : k = u.length := by omega
        subst hkl
        have HN := Lib.hid (show usesB l u = true by rw [HD.out, HT.out])
        go_wp2
        go_ret
        exact ⟨ret_bool HN.out.symm, HB.out⟩
  · have hni : ((u.length : Int) != (l.length : Int)) = true := by rw [bne_iff_ne]; omega
    have HD := Lib.hid (show usesB l u = false by unfold usesB; rw [decide_eq_false hn]; rfl)
    clear hn
    go_enter Tryz.func55, Tryz.ntmps55
    go_wp2
    go_ret
    exact ⟨ret_bool HD.out.symm, Below.refl _ _⟩
end Go.Proofs.YtbioljpjpflboaaGreatDoor

/- Whether a model is ok, of the model: ModelOk. -/
namespace Go.Proofs.YtbioljpjpflboaaGreatDoor
open Go Go.RowKit

def mAt (rev : Int) (S : List SpaceD) (U : List UseD) (T : List ThingD) (i : Nat) : Bool := !decide (rev < (S.getD i default).2.2.2.2) && decide ((U.getD i default).2 = sumS S T (S.getD i default).1)
def mAll (rev : Int) (S : List SpaceD) (U : List UseD) (T : List ThingD) : Bool := (List.range S.length).all (mAt rev S U T)
def modelB (m : ModelD) : Bool := inB m.rev 0 99999 && (inB m.uid 0 99999 && (inB m.flo 0 m.rev && (spsOk m.sps && (usesB m.sps m.uses && (thingsB m.rev m.uid m.sps m.ths && (pastsB m.rev m.flo m.pasts && mAll m.rev m.sps m.uses m.ths))))))
theorem mAt_eq {rev : Int} {S : List SpaceD} {U : List UseD} {T : List ThingD} {i : Nat} (h : i < S.length) (h2 : i < U.length) : mAt rev S U T i = (!decide (rev < S[i].2.2.2.2) && decide (U[i].2 = sumS S T S[i].1)) := by simp [mAt, h, h2]
theorem mAll_no {rev : Int} {S : List SpaceD} {U : List UseD} {T : List ThingD} {i : Nat} (h : i < S.length) (hi : mAt rev S U T i = false) : mAll rev S U T = false := by
  unfold mAll
  exact List.all_eq_false.2 ⟨i, List.mem_range.2 h, by rw [hi]; simp⟩
theorem mAll_yes {rev : Int} {S : List SpaceD} {U : List UseD} {T : List ThingD} {k : Nat} (hk : S.length ≤ k) (h : ∀ i, i < k → i < S.length → mAt rev S U T i = true) : mAll rev S U T = true := by
  unfold mAll
  exact List.all_eq_true.2 fun i hi => h i (Nat.lt_of_lt_of_le (List.mem_range.1 hi) hk) (List.mem_range.1 hi)
theorem usesB_len {S : List SpaceD} {U : List UseD} (h : usesB S U = true) : U.length = S.length := by
  unfold usesB at h
  simp only [Bool.and_eq_true, decide_eq_true_eq] at h
  exact h.1
theorem l8Uses_isM {a b : Option Addr} {l : List SpaceD} {u : List UseD} {w : World} (hl : ElS 5 encSpace w a l) (hu : ElS 2 encUse w b u) {q : Bool} (h : usesB l u = q) (ca cb : Nat) :
    Calls Tryz.prog 55 #[.slice a l.length ca, .slice b u.length cb] w fun e w' => e = .returned (.bool q) ∧ Below w.heap.size w w' :=
  (l8Uses_any a b ca cb l u w hl hu).mono fun _ _ ⟨h1, k⟩ => ⟨by rw [h1, h], k⟩
theorem l10Things_is {v : Value} {m : ModelD} {w : World} {q : Bool} (hq : thingsB m.rev m.uid m.sps m.ths = q) (h : VwModel w v m) (hb : (bulkThingS m.ths : Int) ≤ 1048576) (hbs : (bulkSpaceS m.sps : Int) ≤ 1048576) :
    Calls Tryz.prog 56 #[v] w fun e w' => e = .returned (.bool q) ∧ Below w.heap.size w w' := by
  subst hq
  exact l10Things_any h hb hbs
theorem l10Pasts_is {v : Value} {m : ModelD} {w : World} {q : Bool} (hq : pastsB m.rev m.flo m.pasts = q) (h : VwModel w v m) (hr : 0 ≤ m.rev ∧ m.rev ≤ 99999) (hf : 0 ≤ m.flo ∧ m.flo ≤ m.rev) (hb : (bulkPastS m.pasts : Int) ≤ 1048576) :
    Calls Tryz.prog 57 #[v] w fun e w' => e = .returned (.bool q) ∧ Below w.heap.size w w' := by
  subst hq
  exact l10Pasts_any h hr hf hb
theorem l8Sum_is {a b : Option Addr} {ca cb : Nat} {l : List SpaceD} {xs : List ThX} {name : ByteArray} {z : Int} (hz : sumS l (thsOf xs) name = z) {w : World} (hl : ElS 5 encSpace w a l) (hok : ∀ x ∈ l, OkSpace x) (hu : ElS 7 encT w b xs) (hxk : ∀ x ∈ xs, OkX w x) (hb : (bulkThingS (thsOf xs) : Int) ≤ 1048576) :
    Calls Tryz.prog 58 #[.slice a l.length ca, .slice b xs.length cb, .string name] w fun e w' => e = .returned (.int .i64 z) ∧ Below w.heap.size w w' := by
  subst hz
  exact l8Sum_any a b ca cb l xs name w hl hok hu hxk hb
theorem bulk_parts {m : ModelD} (h : (bulkModel m : Int) ≤ 1048576) : (bulkSpaceS m.sps : Int) ≤ 1048576 ∧ (bulkUseS m.uses : Int) ≤ 1048576 ∧ (bulkThingS m.ths : Int) ≤ 1048576 ∧ (bulkPastS m.pasts : Int) ≤ 1048576 := by
  unfold bulkModel at h
  omega
set_option maxRecDepth 100000 in
set_option maxHeartbeats 20000000 in
theorem specModelOk_any {v : Value} {m : ModelD} {w : World} (h : VwModel w v m) (hb : (bulkModel m : Int) ≤ 1048576) :
    Calls Tryz.prog 20 #[v] w fun e w' => e = .returned (.bool (modelB m)) ∧ Below w.heap.size w w' := by
  obtain ⟨hbs, hbu, hbt, hbp⟩ := bulk_parts hb
  have HV := Lib.hid h
  obtain ⟨v3, v4, v5, v6, rfl, h3, h4, h5, h6⟩ := h
  obtain ⟨rev, uid, flo, S, U, T, P⟩ := m
  simp only at h3 h4 h5 h6 hbs hbu hbt hbp ⊢
  obtain ⟨a3, ca3, rfl, hl3, hk3⟩ := h3
  obtain ⟨a4, ca4, rfl, hl4, -⟩ := h4
  obtain ⟨a5, ca5, xs, rfl, hl5, rfl, hk5⟩ := h5
  obtain ⟨a6, ca6, rfl, hl6, -⟩ := h6
  have hsl := bulkSpaceS_len hbs
  have HX3 := Lib.hid hl3
  have HK3 := Lib.hid hk3
  have HX4 := Lib.hid hl4
  have HX5 := Lib.hid hl5
  have HK5 := Lib.hid hk5
  obtain ⟨q1, hq1⟩ : ∃ q, inB rev 0 99999 = q := ⟨_, rfl⟩
  obtain ⟨q2, hq2⟩ : ∃ q, inB uid 0 99999 = q := ⟨_, rfl⟩
  obtain ⟨q3, hq3⟩ : ∃ q, inB flo 0 rev = q := ⟨_, rfl⟩
  obtain ⟨q4, hq4⟩ : ∃ q, spsOk S = q := ⟨_, rfl⟩
  obtain ⟨q5, hq5⟩ : ∃ q, usesB S U = q := ⟨_, rfl⟩
  obtain ⟨q6, hq6⟩ : ∃ q, thingsB rev uid S (thsOf xs) = q := ⟨_, rfl⟩
  obtain ⟨q7, hq7⟩ : ∃ q, pastsB rev flo P = q := ⟨_, rfl⟩
  have HM := Lib.hid (show modelB ⟨rev, uid, flo, S, U, thsOf xs, P⟩ = (q1 && (q2 && (q3 && (q4 && (q5 && (q6 && (q7 && mAll rev S U (thsOf xs)))))))) by
    unfold modelB
    simp only [hq1, hq2, hq3, hq4, hq5, hq6, hq7])
  have Q1 := Lib.hid hq1
  have Q2 := Lib.hid hq2
  have Q3 := Lib.hid hq3
  have Q4 := Lib.hid hq4
  have Q5 := Lib.hid hq5
  have Q6 := Lib.hid hq6
  have Q7 := Lib.hid hq7
  clear hl3 hk3 hl4 hl5 hk5 hl6 hq1 hq2 hq3 hq4 hq5 hq6 hq7 hb
  go_enter Tryz.func20, Tryz.ntmps20
  go_wp2_with fail
  obtain ⟨w1, hA⟩ : ∃ wA, w.alloc (.cells #[.int .i64 rev, .int .i64 uid, .int .i64 flo, .slice a3 S.length ca3, .slice a4 U.length ca4, .slice a5 xs.length ca5, .slice a6 P.length ca6] 35) = wA := ⟨_, rfl⟩
  have BX := Lib.hid (show Box w1 w.heap.size [.int .i64 rev, .int .i64 uid, .int .i64 flo, .slice a3 S.length ca3, .slice a4 U.length ca4, .slice a5 xs.length ca5, .slice a6 P.length ca6] by rw [← hA]; exact Box.alloc w _ _)
  have B1 := Lib.hid (show Below w.heap.size w w1 by rw [← hA]; exact below_alloc _ _)
  have KS := Lib.hid (show ∀ W, Below w1.heap.size w1 W → W.cell? ⟨w.heap.size, 0, none⟩ = some (.int .i64 rev) ∧ W.cell? ⟨w.heap.size, 1, none⟩ = some (.int .i64 uid) ∧ W.cell? ⟨w.heap.size, 2, none⟩ = some (.int .i64 flo) ∧ W.cell? ⟨w.heap.size, 3, none⟩ = some (.slice a3 S.length ca3) ∧ W.cell? ⟨w.heap.size, 4, none⟩ = some (.slice a4 U.length ca4) ∧ W.cell? ⟨w.heap.size, 5, none⟩ = some (.slice a5 xs.length ca5) ∧ W.cell? ⟨w.heap.size, 6, none⟩ = some (.slice a6 P.length ca6) from fun W hb => by
    have h := BX.out.below hb
    exact ⟨(h 0 _ rfl).1, (h 1 _ rfl).1, (h 2 _ rfl).1, (h 3 _ rfl).1, (h 4 _ rfl).1, (h 5 _ rfl).1, (h 6 _ rfl).1⟩)
  have z1 : w1.heap.size = w.heap.size + 1 := by rw [← hA, World.size_alloc]
  have HF := Lib.hid (show ∀ W, Below w1.heap.size w1 W → Below w.heap.size w W from fun W hb => B1.out.trans (hb.mono (by omega)))
  rw [hA]
  clear hA
  obtain ⟨y0, y1, y2, y3, y4, y5, y6⟩ := KS.out _ (Below.refl _ _)
  skip
  refine (in_isP Q1.out _).mono ?_
  rintro e w' ⟨rfl, rfl⟩
  cases q1 with
  | false =>
    have HN := Lib.hid (HM.out.trans (by rfl))
    go_wp2
    go_ret
    exact ⟨by rw [HN.out]; rfl, HF.out _ (Below.refl _ _)⟩
  | true =>
  go_wp2_with fail
  refine (in_isP Q2.out _).mono ?_
  rintro e w' ⟨rfl, rfl⟩
  cases q2 with
  | false =>
    have HN := Lib.hid (HM.out.trans (by rfl))
    go_wp2
    go_ret
    exact ⟨by rw [HN.out]; rfl, HF.out _ (Below.refl _ _)⟩
  | true =>
  go_wp2_with fail
  refine (in_isP Q3.out _).mono ?_
  rintro e w' ⟨rfl, rfl⟩
  cases q3 with
  | false =>
    have HN := Lib.hid (HM.out.trans (by rfl))
    go_wp2
    go_ret
    exact ⟨by rw [HN.out]; rfl, HF.out _ (Below.refl _ _)⟩
  | true =>
  go_wp2_with fail
  refine (specSpaces_is (HX3.out.below B1.out) HK3.out hsl Q4.out ca3).mono ?_
  rintro e w5 ⟨rfl, b5⟩
  have B5 := Lib.hid (b5)
  clear y0 y1 y2 y3 y4 y5 y6 b5
  obtain ⟨y0, y1, y2, y3, y4, y5, y6⟩ := KS.out _ B5.out
  cases q4 with
  | false =>
    have HN := Lib.hid (HM.out.trans (by rfl))
    go_wp2
    go_ret
    exact ⟨by rw [HN.out]; rfl, HF.out _ B5.out⟩
  | true =>
  go_wp2_with fail
  refine (l8Uses_isM ((HX3.out.below B1.out).below B5.out) ((HX4.out.below B1.out).below B5.out) Q5.out ca3 ca4).mono ?_
  rintro e w6 ⟨rfl, b6⟩
  have B6 := Lib.hid (B5.out.trans (b6.mono B5.out.size))
  clear y0 y1 y2 y3 y4 y5 y6 b6
  obtain ⟨y0, y1, y2, y3, y4, y5, y6⟩ := KS.out _ B6.out
  cases q5 with
  | false =>
    have HN := Lib.hid (HM.out.trans (by rfl))
    go_wp2
    go_ret
    exact ⟨by rw [HN.out]; rfl, HF.out _ B6.out⟩
  | true =>
  go_wp2_with fail
  refine (l10Things_is Q6.out ((HV.out.below B1.out).below B6.out) hbt hbs).mono ?_
  rintro e w7 ⟨rfl, b7⟩
  have B7 := Lib.hid (B6.out.trans (b7.mono B6.out.size))
  clear y0 y1 y2 y3 y4 y5 y6 b7
  obtain ⟨y0, y1, y2, y3, y4, y5, y6⟩ := KS.out _ B7.out
  cases q6 with
  | false =>
    have HN := Lib.hid (HM.out.trans (by rfl))
    go_wp2
    go_ret
    exact ⟨by rw [HN.out]; rfl, HF.out _ B7.out⟩
  | true =>
  have hr0 : 0 ≤ rev ∧ rev ≤ 99999 := of_decide_eq_true Q1.out
  have hf0 : 0 ≤ flo ∧ flo ≤ rev := of_decide_eq_true Q3.out
  go_wp2_with fail
  refine (l10Pasts_is Q7.out ((HV.out.below B1.out).below B7.out) hr0 hf0 hbp).mono ?_
  rintro e w8 ⟨rfl, b8⟩
  have B8 := Lib.hid (B7.out.trans (b8.mono B7.out.size))
  clear y0 y1 y2 y3 y4 y5 y6 b8
  obtain ⟨y0, y1, y2, y3, y4, y5, y6⟩ := KS.out _ B8.out
  cases q7 with
  | false =>
    have HN := Lib.hid (HM.out.trans (by rfl))
    go_wp2
    go_ret
    exact ⟨by rw [HN.out]; rfl, HF.out _ B8.out⟩
  | true =>
  have hul := usesB_len Q5.out
  have HUL := Lib.hid hul
  clear hul hr0 hf0
  go_wp2_with fail
  go_loopw [3] (fun i wr => ∃ k : Nat, k ≤ S.length ∧ i = .int .i64 k ∧ (∀ j, j < k → j < S.length → mAt rev S U (thsOf xs) j = true) ∧ Below w1.heap.size w1 wr) (fun i _ => S.length - (intOf i).toNat)
  case atStart => exact ⟨0, Nat.zero_le _, rfl, fun j h => absurd h (Nat.not_lt_zero _), B8.out⟩
  case round =>
    clear y0 y1 y2 y3 y4 y5 y6
    obtain ⟨k, hk, rfl, hto, hbel⟩ := hrel
    have HT := Lib.hid hto
    have HB := Lib.hid hbel
    have zb := hbel.size
    clear hto
    obtain ⟨y0, y1, y2, y3, y4, y5, y6⟩ := KS.out _ hbel
    by_cases hlt : k < S.length
    · have hltU : k < U.length := by have := HUL.out; omega
      obtain ⟨bb, ob, rfl, hcb⟩ := HX3.out.2.resolve_left (by intro e; rw [e] at hlt; simp at hlt)
      obtain ⟨bu, ou, rfl, hcu⟩ := HX4.out.2.resolve_left (by intro e; rw [e] at hltU; simp at hltU)
      have HCB := Lib.hid (((HX3.out.below B1.out).2).resolve_left (by intro e; rw [e] at hlt; simp at hlt))
      have HCU := Lib.hid (((HX4.out.below B1.out).2).resolve_left (by intro e; rw [e] at hltU; simp at hltU))
      have hkI : (k : Int) < (S.length : Int) := by omega
      have hkU : (k : Int) < (U.length : Int) := by omega
      have hk0 : (0 : Int) ≤ (k : Int) := by omega
      obtain ⟨z, hz⟩ : ∃ z, sumS S (thsOf xs) S[k].1 = z := ⟨_, rfl⟩
      have HZ := Lib.hid hz
      have HAT := Lib.hid (show mAt rev S U (thsOf xs) k = (!decide (rev < S[k].2.2.2.2) && decide (U[k].2 = z)) by rw [mAt_eq hlt hltU, hz])
      have KR := Lib.hid (show ∀ W, Below wr.heap.size wr W → Below wr.heap.size wr W ∧ W.cell? ⟨w.heap.size, 0, none⟩ = some (.int .i64 rev) ∧ W.cell? ⟨w.heap.size, 3, none⟩ = some (.slice (some ⟨bb, ob, none⟩) S.length ca3) ∧ W.cell? ⟨w.heap.size, 4, none⟩ = some (.slice (some ⟨bu, ou, none⟩) U.length ca4) ∧ W.cell? ⟨w.heap.size, 5, none⟩ = some (.slice a5 xs.length ca5) ∧ W.cell? ⟨bb, ob + k * 5, none⟩ = some (.string S[k].1) ∧ W.cell? ⟨bb, ob + k * 5 + 4, none⟩ = some (.int .i64 S[k].2.2.2.2) ∧ W.cell? ⟨bu, ou + k * 2 + 1, none⟩ = some (.int .i64 U[k].2) from fun W hb => by
        have hb1 := HB.out.trans (hb.mono zb)
        have hb2 := HF.out _ hb1
        obtain ⟨y0, y1, y2, y3, y4, y5, y6⟩ := KS.out _ hb1
        obtain ⟨c0, _, _, _, c4⟩ := cellsSpace hb2 hcb k hlt
        obtain ⟨_, d1⟩ := cellsUse hb2 hcu k hltU
        exact ⟨hb, y0, y3, y4, y5, c0, c4, d1⟩)
      clear hcb hcu hbel HCB HCU hz
      by_cases hr : rev < S[k].2.2.2.2
      · have hd : decide (rev < S[k].2.2.2.2) = true := decide_eq_true hr
        have HN := Lib.hid (HM.out.trans (show (true && (true && (true && (true && (true && (true && (true && mAll rev S U (thsOf xs)))))))) = false by rw [mAll_no hlt (by rw [HAT.out, hd]; rfl)]; rfl))
        clear hr
        go_wp2_with fail
        refine wp_region_held_drew (S := fun W => Below wr.heap.size wr W ∧ W.cell? ⟨w.heap.size, 0, none⟩ = some (.int .i64 rev) ∧ W.cell? ⟨w.heap.size, 3, none⟩ = some (.slice (some ⟨bb, ob, none⟩) S.length ca3) ∧ W.cell? ⟨w.heap.size, 4, none⟩ = some (.slice (some ⟨bu, ou, none⟩) U.length ca4) ∧ W.cell? ⟨w.heap.size, 5, none⟩ = some (.slice a5 xs.length ca5) ∧ W.cell? ⟨bb, ob + k * 5, none⟩ = some (.string S[k].1) ∧ W.cell? ⟨bb, ob + k * 5 + 4, none⟩ = some (.int .i64 S[k].2.2.2.2) ∧ W.cell? ⟨bu, ou + k * 2 + 1, none⟩ = some (.int .i64 U[k].2)) (by kernel_rfl) (KR.out _ (Below.refl _ _).drew) (fun hHeld => ?_)
        refine wpAnyH_take (i := 0) (oi := { dst := some 53, op := Op.fieldAddr 35 (Operand.tmp 1) 3, type := 0, pos := "l10_model.go:52", after := _, guard := none }) (v := ?_) rfl (by kernel_rfl) (by kernel_rfl) (by kernel_rfl) (fun _ _ _ h => h) (Or.inl ⟨by rfl, ?_⟩) (by assumption) ?_
        rotate_left
        · (intro w hSw; (try dsimp only at hSw); go_simp; (try with_reducible rfl))
        simp only [Act.put, List.setIfInBounds_toArray, List.set_cons_zero, List.set_cons_succ]
        refine wpAnyH_take (i := 1) (oi := { dst := some 54, op := Op.load 30 (Operand.tmp 53), type := 30, pos := "l10_model.go:52", after := _, guard := none }) (v := ?_) rfl (by kernel_rfl) (by kernel_rfl) (by kernel_rfl) (fun _ _ _ h => h) (Or.inl ⟨by rfl, ?_⟩) (by assumption) ?_
        rotate_left
        · (intro w hSw; (try dsimp only at hSw); go_simp; (try with_reducible rfl))
        simp only [Act.put, List.setIfInBounds_toArray, List.set_cons_zero, List.set_cons_succ]
        refine wpAnyH_take (i := 2) (oi := { dst := some 55, op := Op.move (Operand.tmp 3), type := 3, pos := "l10_model.go:52", after := _, guard := none }) (v := ?_) rfl (by kernel_rfl) (by kernel_rfl) (by kernel_rfl) (fun _ _ _ h => h) (Or.inl ⟨by rfl, ?_⟩) (by assumption) ?_
        rotate_left
        · (intro w hSw; (try dsimp only at hSw); go_simp; (try with_reducible rfl))
        simp only [Act.put, List.setIfInBounds_toArray, List.set_cons_zero, List.set_cons_succ]
        refine wpAnyH_take (i := 3) (oi := { dst := some 56, op := Op.indexAddr 30 (Operand.tmp 54) (Operand.tmp 55), type := 0, pos := "l10_model.go:52", after := _, guard := none }) (v := ?_) rfl (by kernel_rfl) (by kernel_rfl) (by kernel_rfl) (fun _ _ _ h => h) (Or.inl ⟨by rfl, ?_⟩) (by assumption) ?_
        rotate_left
        · (intro w hSw; (try dsimp only at hSw); go_simp; (try with_reducible rfl))
        simp only [Act.put, List.setIfInBounds_toArray, List.set_cons_zero, List.set_cons_succ]
        refine wpAnyH_take (i := 4) (oi := { dst := some 57, op := Op.fieldAddr 51 (Operand.tmp 56) 4, type := 0, pos := "l10_model.go:52", after := _, guard := none }) (v := ?_) rfl (by kernel_rfl) (by kernel_rfl) (by kernel_rfl) (fun _ _ _ h => h) (Or.inl ⟨by rfl, ?_⟩) (by assumption) ?_
        rotate_left
        · (intro w hSw; (try dsimp only at hSw); go_simp; (try with_reducible rfl))
        simp only [Act.put, List.setIfInBounds_toArray, List.set_cons_zero, List.set_cons_succ]
        refine wpAnyH_take (i := 5) (oi := { dst := some 58, op := Op.load 3 (Operand.tmp 57), type := 3, pos := "l10_model.go:52", after := _, guard := none }) (v := ?_) rfl (by kernel_rfl) (by kernel_rfl) (by kernel_rfl) (fun _ _ _ h => h) (Or.inl ⟨by rfl, ?_⟩) (by assumption) ?_
        rotate_left
        · (intro w hSw; (try dsimp only at hSw); go_simp; (try with_reducible rfl))
        simp only [Act.put, List.setIfInBounds_toArray, List.set_cons_zero, List.set_cons_succ]
        refine wpAnyH_take (i := 6) (oi := { dst := some 59, op := Op.fieldAddr 35 (Operand.tmp 1) 0, type := 0, pos := "l10_model.go:52", after := _, guard := none }) (v := ?_) rfl (by kernel_rfl) (by kernel_rfl) (by kernel_rfl) (fun _ _ _ h => h) (Or.inl ⟨by rfl, ?_⟩) (by assumption) ?_
        rotate_left
        · (intro w hSw; (try dsimp only at hSw); go_simp; (try with_reducible rfl))
        simp only [Act.put, List.setIfInBounds_toArray, List.set_cons_zero, List.set_cons_succ]
        refine wpAnyH_take (i := 7) (oi := { dst := some 60, op := Op.load 3 (Operand.tmp 59), type := 3, pos := "l10_model.go:52", after := _, guard := none }) (v := ?_) rfl (by kernel_rfl) (by kernel_rfl) (by kernel_rfl) (fun _ _ _ h => h) (Or.inl ⟨by rfl, ?_⟩) (by assumption) ?_
        rotate_left
        · (intro w hSw; (try dsimp only at hSw); go_simp; (try with_reducible rfl))
        simp only [Act.put, List.setIfInBounds_toArray, List.set_cons_zero, List.set_cons_succ]
        refine wpAnyH_take (i := 8) (oi := { dst := some 61, op := Op.binOp BinOp.gtr 3 (Operand.tmp 58) (Operand.tmp 60) 3, type := 4, pos := "l10_model.go:52", after := _, guard := none }) (v := ?_) rfl (by kernel_rfl) (by kernel_rfl) (by kernel_rfl) (fun _ _ _ h => h) (Or.inl ⟨by rfl, ?_⟩) (by assumption) ?_
        rotate_left
        · (intro w hSw; (try dsimp only at hSw); go_simp; (try with_reducible rfl))
        simp only [Act.put, List.setIfInBounds_toArray, List.set_cons_zero, List.set_cons_succ]
        refine wpAnyH_take (i := 9) (oi := { dst := some 62, op := Op.move (Operand.tmp 61), type := 4, pos := "l10_model.go:52", after := _, guard := none }) (v := ?_) rfl (by kernel_rfl) (by kernel_rfl) (by kernel_rfl) (fun _ _ _ h => h) (Or.inl ⟨by rfl, ?_⟩) (by assumption) ?_
        rotate_left
        · (intro w hSw; (try dsimp only at hSw); go_simp; (try with_reducible rfl))
        simp only [Act.put, List.setIfInBounds_toArray, List.set_cons_zero, List.set_cons_succ]
        refine wpAnyH_take (i := 10) (oi := { dst := some 63, op := Op.fieldAddr 35 (Operand.tmp 1) 4, type := 0, pos := "l10_model.go:52", after := _, guard := some (9, false) }) (v := undef) rfl (by kernel_rfl) (by kernel_rfl) (by kernel_rfl) (fun _ _ _ h => h) (Or.inr ⟨by rfl, rfl⟩) (by assumption) ?_
        simp only [Act.put, List.setIfInBounds_toArray, List.set_cons_zero, List.set_cons_succ]
        refine wpAnyH_take (i := 11) (oi := { dst := some 64, op := Op.load 31 (Operand.tmp 63), type := 31, pos := "l10_model.go:52", after := _, guard := some (9, false) }) (v := undef) rfl (by kernel_rfl) (by kernel_rfl) (by kernel_rfl) (fun _ _ _ h => h) (Or.inr ⟨by rfl, rfl⟩) (by assumption) ?_
        simp only [Act.put, List.setIfInBounds_toArray, List.set_cons_zero, List.set_cons_succ]
        refine wpAnyH_take (i := 12) (oi := { dst := some 65, op := Op.move (Operand.tmp 3), type := 3, pos := "l10_model.go:52", after := _, guard := some (9, false) }) (v := undef) rfl (by kernel_rfl) (by kernel_rfl) (by kernel_rfl) (fun _ _ _ h => h) (Or.inr ⟨by rfl, rfl⟩) (by assumption) ?_
        simp only [Act.put, List.setIfInBounds_toArray, List.set_cons_zero, List.set_cons_succ]
        refine wpAnyH_take (i := 13) (oi := { dst := some 66, op := Op.indexAddr 31 (Operand.tmp 64) (Operand.tmp 65), type := 0, pos := "l10_model.go:52", after := _, guard := some (9, false) }) (v := undef) rfl (by kernel_rfl) (by kernel_rfl) (by kernel_rfl) (fun _ _ _ h => h) (Or.inr ⟨by rfl, rfl⟩) (by assumption) ?_
        simp only [Act.put, List.setIfInBounds_toArray, List.set_cons_zero, List.set_cons_succ]
        refine wpAnyH_take (i := 14) (oi := { dst := some 67, op := Op.fieldAddr 54 (Operand.tmp 66) 1, type := 0, pos := "l10_model.go:52", after := _, guard := some (9, false) }) (v := undef) rfl (by kernel_rfl) (by kernel_rfl) (by kernel_rfl) (fun _ _ _ h => h) (Or.inr ⟨by rfl, rfl⟩) (by assumption) ?_
        simp only [Act.put, List.setIfInBounds_toArray, List.set_cons_zero, List.set_cons_succ]
        refine wpAnyH_take (i := 15) (oi := { dst := some 68, op := Op.load 3 (Operand.tmp 67), type := 3, pos := "l10_model.go:52", after := _, guard := some (9, false) }) (v := undef) rfl (by kernel_rfl) (by kernel_rfl) (by kernel_rfl) (fun _ _ _ h => h) (Or.inr ⟨by rfl, rfl⟩) (by assumption) ?_
        simp only [Act.put, List.setIfInBounds_toArray, List.set_cons_zero, List.set_cons_succ]
        refine wpAnyH_take (i := 16) (oi := { dst := some 69, op := Op.fieldAddr 35 (Operand.tmp 1) 3, type := 0, pos := "l10_model.go:52", after := _, guard := some (9, false) }) (v := undef) rfl (by kernel_rfl) (by kernel_rfl) (by kernel_rfl) (fun _ _ _ h => h) (Or.inr ⟨by rfl, rfl⟩) (by assumption) ?_
        simp only [Act.put, List.setIfInBounds_toArray, List.set_cons_zero, List.set_cons_succ]
        refine wpAnyH_take (i := 17) (oi := { dst := some 70, op := Op.load 30 (Operand.tmp 69), type := 30, pos := "l10_model.go:52", after := _, guard := some (9, false) }) (v := undef) rfl (by kernel_rfl) (by kernel_rfl) (by kernel_rfl) (fun _ _ _ h => h) (Or.inr ⟨by rfl, rfl⟩) (by assumption) ?_
        simp only [Act.put, List.setIfInBounds_toArray, List.set_cons_zero, List.set_cons_succ]
        refine wpAnyH_take (i := 18) (oi := { dst := some 71, op := Op.fieldAddr 35 (Operand.tmp 1) 5, type := 0, pos := "l10_model.go:52", after := _, guard := some (9, false) }) (v := undef) rfl (by kernel_rfl) (by kernel_rfl) (by kernel_rfl) (fun _ _ _ h => h) (Or.inr ⟨by rfl, rfl⟩) (by assumption) ?_
        simp only [Act.put, List.setIfInBounds_toArray, List.set_cons_zero, List.set_cons_succ]
        refine wpAnyH_take (i := 19) (oi := { dst := some 72, op := Op.load 32 (Operand.tmp 71), type := 32, pos := "l10_model.go:52", after := _, guard := some (9, false) }) (v := undef) rfl (by kernel_rfl) (by kernel_rfl) (by kernel_rfl) (fun _ _ _ h => h) (Or.inr ⟨by rfl, rfl⟩) (by assumption) ?_
        simp only [Act.put, List.setIfInBounds_toArray, List.set_cons_zero, List.set_cons_succ]
        refine wpAnyH_take (i := 20) (oi := { dst := some 73, op := Op.fieldAddr 35 (Operand.tmp 1) 3, type := 0, pos := "l10_model.go:52", after := _, guard := some (9, false) }) (v := undef) rfl (by kernel_rfl) (by kernel_rfl) (by kernel_rfl) (fun _ _ _ h => h) (Or.inr ⟨by rfl, rfl⟩) (by assumption) ?_
        simp only [Act.put, List.setIfInBounds_toArray, List.set_cons_zero, List.set_cons_succ]
        refine wpAnyH_take (i := 21) (oi := { dst := some 74, op := Op.load 30 (Operand.tmp 73), type := 30, pos := "l10_model.go:52", after := _, guard := some (9, false) }) (v := undef) rfl (by kernel_rfl) (by kernel_rfl) (by kernel_rfl) (fun _ _ _ h => h) (Or.inr ⟨by rfl, rfl⟩) (by assumption) ?_
        simp only [Act.put, List.setIfInBounds_toArray, List.set_cons_zero, List.set_cons_succ]
        refine wpAnyH_take (i := 22) (oi := { dst := some 75, op := Op.move (Operand.tmp 3), type := 3, pos := "l10_model.go:52", after := _, guard := some (9, false) }) (v := undef) rfl (by kernel_rfl) (by kernel_rfl) (by kernel_rfl) (fun _ _ _ h => h) (Or.inr ⟨by rfl, rfl⟩) (by assumption) ?_
        simp only [Act.put, List.setIfInBounds_toArray, List.set_cons_zero, List.set_cons_succ]
        refine wpAnyH_take (i := 23) (oi := { dst := some 76, op := Op.indexAddr 30 (Operand.tmp 74) (Operand.tmp 75), type := 0, pos := "l10_model.go:52", after := _, guard := some (9, false) }) (v := undef) rfl (by kernel_rfl) (by kernel_rfl) (by kernel_rfl) (fun _ _ _ h => h) (Or.inr ⟨by rfl, rfl⟩) (by assumption) ?_
        simp only [Act.put, List.setIfInBounds_toArray, List.set_cons_zero, List.set_cons_succ]
        refine wpAnyH_take (i := 24) (oi := { dst := some 77, op := Op.fieldAddr 51 (Operand.tmp 76) 0, type := 0, pos := "l10_model.go:52", after := _, guard := some (9, false) }) (v := undef) rfl (by kernel_rfl) (by kernel_rfl) (by kernel_rfl) (fun _ _ _ h => h) (Or.inr ⟨by rfl, rfl⟩) (by assumption) ?_
        simp only [Act.put, List.setIfInBounds_toArray, List.set_cons_zero, List.set_cons_succ]
        refine wpAnyH_take (i := 25) (oi := { dst := some 78, op := Op.load 9 (Operand.tmp 77), type := 9, pos := "l10_model.go:52", after := _, guard := some (9, false) }) (v := undef) rfl (by kernel_rfl) (by kernel_rfl) (by kernel_rfl) (fun _ _ _ h => h) (Or.inr ⟨by rfl, rfl⟩) (by assumption) ?_
        simp only [Act.put, List.setIfInBounds_toArray, List.set_cons_zero, List.set_cons_succ]
        refine wpAnyH_take (i := 26) (oi := { dst := some 79, op := Op.call { callee := Callee.value (Operand.func 58), args := #[Operand.tmp 70, Operand.tmp 72, Operand.tmp 78], argTypes := #[30, 32, 9] }, type := 3, pos := "l10_model.go:52", after := _, guard := some (9, false) }) (v := undef) rfl (by kernel_rfl) (by kernel_rfl) (by kernel_rfl) (fun _ _ _ h => h) (Or.inr ⟨by rfl, rfl⟩) (by assumption) ?_
        simp only [Act.put, List.setIfInBounds_toArray, List.set_cons_zero, List.set_cons_succ]
        refine wpAnyH_take (i := 27) (oi := { dst := some 80, op := Op.binOp BinOp.neq 3 (Operand.tmp 68) (Operand.tmp 79) 3, type := 4, pos := "l10_model.go:52", after := _, guard := some (9, false) }) (v := undef) rfl (by kernel_rfl) (by kernel_rfl) (by kernel_rfl) (fun _ _ _ h => h) (Or.inr ⟨by rfl, rfl⟩) (by assumption) ?_
        simp only [Act.put, List.setIfInBounds_toArray, List.set_cons_zero, List.set_cons_succ]
        refine wpAnyH_take (i := 28) (oi := { dst := some 81, op := Op.pick (Operand.tmp 62) (Operand.const (Value.bool true)) (Operand.tmp 80), type := 4, pos := "l10_model.go:52", after := _, guard := none }) (v := ?_) rfl (by kernel_rfl) (by kernel_rfl) (by kernel_rfl) (fun _ _ _ h => h) (Or.inl ⟨by rfl, ?_⟩) (by assumption) ?_
        rotate_left
        · (intro w hSw; (try dsimp only at hSw); go_simp; (try with_reducible rfl))
        simp only [Act.put, List.setIfInBounds_toArray, List.set_cons_zero, List.set_cons_succ]
        refine wpAnyH_done (by kernel_rfl) ?_ _
        go_wp2
        go_ret
        exact ⟨by rw [HN.out]; rfl, HF.out _ HB.out.drew⟩
      · have hd : decide (rev < S[k].2.2.2.2) = false := decide_eq_false hr
        clear hr
        go_wp2_with fail
        refine wp_region_held_drew (S := fun W => Below wr.heap.size wr W ∧ W.cell? ⟨w.heap.size, 0, none⟩ = some (.int .i64 rev) ∧ W.cell? ⟨w.heap.size, 3, none⟩ = some (.slice (some ⟨bb, ob, none⟩) S.length ca3) ∧ W.cell? ⟨w.heap.size, 4, none⟩ = some (.slice (some ⟨bu, ou, none⟩) U.length ca4) ∧ W.cell? ⟨w.heap.size, 5, none⟩ = some (.slice a5 xs.length ca5) ∧ W.cell? ⟨bb, ob + k * 5, none⟩ = some (.string S[k].1) ∧ W.cell? ⟨bb, ob + k * 5 + 4, none⟩ = some (.int .i64 S[k].2.2.2.2) ∧ W.cell? ⟨bu, ou + k * 2 + 1, none⟩ = some (.int .i64 U[k].2)) (by kernel_rfl) (KR.out _ (Below.refl _ _).drew) (fun hHeld => ?_)
        refine wpAnyH_take (i := 0) (oi := { dst := some 53, op := Op.fieldAddr 35 (Operand.tmp 1) 3, type := 0, pos := "l10_model.go:52", after := _, guard := none }) (v := ?_) rfl (by kernel_rfl) (by kernel_rfl) (by kernel_rfl) (fun _ _ _ h => h) (Or.inl ⟨by rfl, ?_⟩) (by assumption) ?_
        rotate_left
        · (intro w hSw; (try dsimp only at hSw); go_simp; (try with_reducible rfl))
        simp only [Act.put, List.setIfInBounds_toArray, List.set_cons_zero, List.set_cons_succ]
        refine wpAnyH_take (i := 1) (oi := { dst := some 54, op := Op.load 30 (Operand.tmp 53), type := 30, pos := "l10_model.go:52", after := _, guard := none }) (v := ?_) rfl (by kernel_rfl) (by kernel_rfl) (by kernel_rfl) (fun _ _ _ h => h) (Or.inl ⟨by rfl, ?_⟩) (by assumption) ?_
        rotate_left
        · (intro w hSw; (try dsimp only at hSw); go_simp; (try with_reducible rfl))
        simp only [Act.put, List.setIfInBounds_toArray, List.set_cons_zero, List.set_cons_succ]
        refine wpAnyH_take (i := 2) (oi := { dst := some 55, op := Op.move (Operand.tmp 3), type := 3, pos := "l10_model.go:52", after := _, guard := none }) (v := ?_) rfl (by kernel_rfl) (by kernel_rfl) (by kernel_rfl) (fun _ _ _ h => h) (Or.inl ⟨by rfl, ?_⟩) (by assumption) ?_
        rotate_left
        · (intro w hSw; (try dsimp only at hSw); go_simp; (try with_reducible rfl))
        simp only [Act.put, List.setIfInBounds_toArray, List.set_cons_zero, List.set_cons_succ]
        refine wpAnyH_take (i := 3) (oi := { dst := some 56, op := Op.indexAddr 30 (Operand.tmp 54) (Operand.tmp 55), type := 0, pos := "l10_model.go:52", after := _, guard := none }) (v := ?_) rfl (by kernel_rfl) (by kernel_rfl) (by kernel_rfl) (fun _ _ _ h => h) (Or.inl ⟨by rfl, ?_⟩) (by assumption) ?_
        rotate_left
        · (intro w hSw; (try dsimp only at hSw); go_simp; (try with_reducible rfl))
        simp only [Act.put, List.setIfInBounds_toArray, List.set_cons_zero, List.set_cons_succ]
        refine wpAnyH_take (i := 4) (oi := { dst := some 57, op := Op.fieldAddr 51 (Operand.tmp 56) 4, type := 0, pos := "l10_model.go:52", after := _, guard := none }) (v := ?_) rfl (by kernel_rfl) (by kernel_rfl) (by kernel_rfl) (fun _ _ _ h => h) (Or.inl ⟨by rfl, ?_⟩) (by assumption) ?_
        rotate_left
        · (intro w hSw; (try dsimp only at hSw); go_simp; (try with_reducible rfl))
        simp only [Act.put, List.setIfInBounds_toArray, List.set_cons_zero, List.set_cons_succ]
        refine wpAnyH_take (i := 5) (oi := { dst := some 58, op := Op.load 3 (Operand.tmp 57), type := 3, pos := "l10_model.go:52", after := _, guard := none }) (v := ?_) rfl (by kernel_rfl) (by kernel_rfl) (by kernel_rfl) (fun _ _ _ h => h) (Or.inl ⟨by rfl, ?_⟩) (by assumption) ?_
        rotate_left
        · (intro w hSw; (try dsimp only at hSw); go_simp; (try with_reducible rfl))
        simp only [Act.put, List.setIfInBounds_toArray, List.set_cons_zero, List.set_cons_succ]
        refine wpAnyH_take (i := 6) (oi := { dst := some 59, op := Op.fieldAddr 35 (Operand.tmp 1) 0, type := 0, pos := "l10_model.go:52", after := _, guard := none }) (v := ?_) rfl (by kernel_rfl) (by kernel_rfl) (by kernel_rfl) (fun _ _ _ h => h) (Or.inl ⟨by rfl, ?_⟩) (by assumption) ?_
        rotate_left
        · (intro w hSw; (try dsimp only at hSw); go_simp; (try with_reducible rfl))
        simp only [Act.put, List.setIfInBounds_toArray, List.set_cons_zero, List.set_cons_succ]
        refine wpAnyH_take (i := 7) (oi := { dst := some 60, op := Op.load 3 (Operand.tmp 59), type := 3, pos := "l10_model.go:52", after := _, guard := none }) (v := ?_) rfl (by kernel_rfl) (by kernel_rfl) (by kernel_rfl) (fun _ _ _ h => h) (Or.inl ⟨by rfl, ?_⟩) (by assumption) ?_
        rotate_left
        · (intro w hSw; (try dsimp only at hSw); go_simp; (try with_reducible rfl))
        simp only [Act.put, List.setIfInBounds_toArray, List.set_cons_zero, List.set_cons_succ]
        refine wpAnyH_take (i := 8) (oi := { dst := some 61, op := Op.binOp BinOp.gtr 3 (Operand.tmp 58) (Operand.tmp 60) 3, type := 4, pos := "l10_model.go:52", after := _, guard := none }) (v := ?_) rfl (by kernel_rfl) (by kernel_rfl) (by kernel_rfl) (fun _ _ _ h => h) (Or.inl ⟨by rfl, ?_⟩) (by assumption) ?_
        rotate_left
        · (intro w hSw; (try dsimp only at hSw); go_simp; (try with_reducible rfl))
        simp only [Act.put, List.setIfInBounds_toArray, List.set_cons_zero, List.set_cons_succ]
        refine wpAnyH_take (i := 9) (oi := { dst := some 62, op := Op.move (Operand.tmp 61), type := 4, pos := "l10_model.go:52", after := _, guard := none }) (v := ?_) rfl (by kernel_rfl) (by kernel_rfl) (by kernel_rfl) (fun _ _ _ h => h) (Or.inl ⟨by rfl, ?_⟩) (by assumption) ?_
        rotate_left
        · (intro w hSw; (try dsimp only at hSw); go_simp; (try with_reducible rfl))
        simp only [Act.put, List.setIfInBounds_toArray, List.set_cons_zero, List.set_cons_succ]
        refine wpAnyH_take (i := 10) (oi := { dst := some 63, op := Op.fieldAddr 35 (Operand.tmp 1) 4, type := 0, pos := "l10_model.go:52", after := _, guard := some (9, false) }) (v := ?_) rfl (by kernel_rfl) (by kernel_rfl) (by kernel_rfl) (fun _ _ _ h => h) (Or.inl ⟨by rfl, ?_⟩) (by assumption) ?_
        rotate_left
        · (intro w hSw; (try dsimp only at hSw); go_simp; (try with_reducible rfl))
        simp only [Act.put, List.setIfInBounds_toArray, List.set_cons_zero, List.set_cons_succ]
        refine wpAnyH_take (i := 11) (oi := { dst := some 64, op := Op.load 31 (Operand.tmp 63), type := 31, pos := "l10_model.go:52", after := _, guard := some (9, false) }) (v := ?_) rfl (by kernel_rfl) (by kernel_rfl) (by kernel_rfl) (fun _ _ _ h => h) (Or.inl ⟨by rfl, ?_⟩) (by assumption) ?_
        rotate_left
        · (intro w hSw; (try dsimp only at hSw); go_simp; (try with_reducible rfl))
        simp only [Act.put, List.setIfInBounds_toArray, List.set_cons_zero, List.set_cons_succ]
        refine wpAnyH_take (i := 12) (oi := { dst := some 65, op := Op.move (Operand.tmp 3), type := 3, pos := "l10_model.go:52", after := _, guard := some (9, false) }) (v := ?_) rfl (by kernel_rfl) (by kernel_rfl) (by kernel_rfl) (fun _ _ _ h => h) (Or.inl ⟨by rfl, ?_⟩) (by assumption) ?_
        rotate_left
        · (intro w hSw; (try dsimp only at hSw); go_simp; (try with_reducible rfl))
        simp only [Act.put, List.setIfInBounds_toArray, List.set_cons_zero, List.set_cons_succ]
        refine wpAnyH_take (i := 13) (oi := { dst := some 66, op := Op.indexAddr 31 (Operand.tmp 64) (Operand.tmp 65), type := 0, pos := "l10_model.go:52", after := _, guard := some (9, false) }) (v := ?_) rfl (by kernel_rfl) (by kernel_rfl) (by kernel_rfl) (fun _ _ _ h => h) (Or.inl ⟨by rfl, ?_⟩) (by assumption) ?_
        rotate_left
        · (intro w hSw; (try dsimp only at hSw); go_simp; (try with_reducible rfl))
        simp only [Act.put, List.setIfInBounds_toArray, List.set_cons_zero, List.set_cons_succ]
        refine wpAnyH_take (i := 14) (oi := { dst := some 67, op := Op.fieldAddr 54 (Operand.tmp 66) 1, type := 0, pos := "l10_model.go:52", after := _, guard := some (9, false) }) (v := ?_) rfl (by kernel_rfl) (by kernel_rfl) (by kernel_rfl) (fun _ _ _ h => h) (Or.inl ⟨by rfl, ?_⟩) (by assumption) ?_
        rotate_left
        · (intro w hSw; (try dsimp only at hSw); go_simp; (try with_reducible rfl))
        simp only [Act.put, List.setIfInBounds_toArray, List.set_cons_zero, List.set_cons_succ]
        refine wpAnyH_take (i := 15) (oi := { dst := some 68, op := Op.load 3 (Operand.tmp 67), type := 3, pos := "l10_model.go:52", after := _, guard := some (9, false) }) (v := ?_) rfl (by kernel_rfl) (by kernel_rfl) (by kernel_rfl) (fun _ _ _ h => h) (Or.inl ⟨by rfl, ?_⟩) (by assumption) ?_
        rotate_left
        · (intro w hSw; (try dsimp only at hSw); go_simp; (try with_reducible rfl))
        simp only [Act.put, List.setIfInBounds_toArray, List.set_cons_zero, List.set_cons_succ]
        refine wpAnyH_take (i := 16) (oi := { dst := some 69, op := Op.fieldAddr 35 (Operand.tmp 1) 3, type := 0, pos := "l10_model.go:52", after := _, guard := some (9, false) }) (v := ?_) rfl (by kernel_rfl) (by kernel_rfl) (by kernel_rfl) (fun _ _ _ h => h) (Or.inl ⟨by rfl, ?_⟩) (by assumption) ?_
        rotate_left
        · (intro w hSw; (try dsimp only at hSw); go_simp; (try with_reducible rfl))
        simp only [Act.put, List.setIfInBounds_toArray, List.set_cons_zero, List.set_cons_succ]
        refine wpAnyH_take (i := 17) (oi := { dst := some 70, op := Op.load 30 (Operand.tmp 69), type := 30, pos := "l10_model.go:52", after := _, guard := some (9, false) }) (v := ?_) rfl (by kernel_rfl) (by kernel_rfl) (by kernel_rfl) (fun _ _ _ h => h) (Or.inl ⟨by rfl, ?_⟩) (by assumption) ?_
        rotate_left
        · (intro w hSw; (try dsimp only at hSw); go_simp; (try with_reducible rfl))
        simp only [Act.put, List.setIfInBounds_toArray, List.set_cons_zero, List.set_cons_succ]
        refine wpAnyH_take (i := 18) (oi := { dst := some 71, op := Op.fieldAddr 35 (Operand.tmp 1) 5, type := 0, pos := "l10_model.go:52", after := _, guard := some (9, false) }) (v := ?_) rfl (by kernel_rfl) (by kernel_rfl) (by kernel_rfl) (fun _ _ _ h => h) (Or.inl ⟨by rfl, ?_⟩) (by assumption) ?_
        rotate_left
        · (intro w hSw; (try dsimp only at hSw); go_simp; (try with_reducible rfl))
        simp only [Act.put, List.setIfInBounds_toArray, List.set_cons_zero, List.set_cons_succ]
        refine wpAnyH_take (i := 19) (oi := { dst := some 72, op := Op.load 32 (Operand.tmp 71), type := 32, pos := "l10_model.go:52", after := _, guard := some (9, false) }) (v := ?_) rfl (by kernel_rfl) (by kernel_rfl) (by kernel_rfl) (fun _ _ _ h => h) (Or.inl ⟨by rfl, ?_⟩) (by assumption) ?_
        rotate_left
        · (intro w hSw; (try dsimp only at hSw); go_simp; (try with_reducible rfl))
        simp only [Act.put, List.setIfInBounds_toArray, List.set_cons_zero, List.set_cons_succ]
        refine wpAnyH_take (i := 20) (oi := { dst := some 73, op := Op.fieldAddr 35 (Operand.tmp 1) 3, type := 0, pos := "l10_model.go:52", after := _, guard := some (9, false) }) (v := ?_) rfl (by kernel_rfl) (by kernel_rfl) (by kernel_rfl) (fun _ _ _ h => h) (Or.inl ⟨by rfl, ?_⟩) (by assumption) ?_
        rotate_left
        · (intro w hSw; (try dsimp only at hSw); go_simp; (try with_reducible rfl))
        simp only [Act.put, List.setIfInBounds_toArray, List.set_cons_zero, List.set_cons_succ]
        refine wpAnyH_take (i := 21) (oi := { dst := some 74, op := Op.load 30 (Operand.tmp 73), type := 30, pos := "l10_model.go:52", after := _, guard := some (9, false) }) (v := ?_) rfl (by kernel_rfl) (by kernel_rfl) (by kernel_rfl) (fun _ _ _ h => h) (Or.inl ⟨by rfl, ?_⟩) (by assumption) ?_
        rotate_left
        · (intro w hSw; (try dsimp only at hSw); go_simp; (try with_reducible rfl))
        simp only [Act.put, List.setIfInBounds_toArray, List.set_cons_zero, List.set_cons_succ]
        refine wpAnyH_take (i := 22) (oi := { dst := some 75, op := Op.move (Operand.tmp 3), type := 3, pos := "l10_model.go:52", after := _, guard := some (9, false) }) (v := ?_) rfl (by kernel_rfl) (by kernel_rfl) (by kernel_rfl) (fun _ _ _ h => h) (Or.inl ⟨by rfl, ?_⟩) (by assumption) ?_
        rotate_left
        · (intro w hSw; (try dsimp only at hSw); go_simp; (try with_reducible rfl))
        simp only [Act.put, List.setIfInBounds_toArray, List.set_cons_zero, List.set_cons_succ]
        refine wpAnyH_take (i := 23) (oi := { dst := some 76, op := Op.indexAddr 30 (Operand.tmp 74) (Operand.tmp 75), type := 0, pos := "l10_model.go:52", after := _, guard := some (9, false) }) (v := ?_) rfl (by kernel_rfl) (by kernel_rfl) (by kernel_rfl) (fun _ _ _ h => h) (Or.inl ⟨by rfl, ?_⟩) (by assumption) ?_
        rotate_left
        · (intro w hSw; (try dsimp only at hSw); go_simp; (try with_reducible rfl))
        simp only [Act.put, List.setIfInBounds_toArray, List.set_cons_zero, List.set_cons_succ]
        refine wpAnyH_take (i := 24) (oi := { dst := some 77, op := Op.fieldAddr 51 (Operand.tmp 76) 0, type := 0, pos := "l10_model.go:52", after := _, guard := some (9, false) }) (v := ?_) rfl (by kernel_rfl) (by kernel_rfl) (by kernel_rfl) (fun _ _ _ h => h) (Or.inl ⟨by rfl, ?_⟩) (by assumption) ?_
        rotate_left
        · (intro w hSw; (try dsimp only at hSw); go_simp; (try with_reducible rfl))
        simp only [Act.put, List.setIfInBounds_toArray, List.set_cons_zero, List.set_cons_succ]
        refine wpAnyH_take (i := 25) (oi := { dst := some 78, op := Op.load 9 (Operand.tmp 77), type := 9, pos := "l10_model.go:52", after := _, guard := some (9, false) }) (v := ?_) rfl (by kernel_rfl) (by kernel_rfl) (by kernel_rfl) (fun _ _ _ h => h) (Or.inl ⟨by rfl, ?_⟩) (by assumption) ?_
        rotate_left
        · (intro w hSw; (try dsimp only at hSw); go_simp; (try with_reducible rfl))
        simp only [Act.put, List.setIfInBounds_toArray, List.set_cons_zero, List.set_cons_succ]
        refine wpAnyH_ready (rs := [26]) (by kernel_rfl) (by simp) ?_
        refine AllReadyH.cons (o := { dst := some 79, op := Op.call { callee := Callee.value (Operand.func 58), args := #[Operand.tmp 70, Operand.tmp 72, Operand.tmp 78], argTypes := #[30, 32, 9] }, type := 3, pos := "l10_model.go:52", after := _, guard := some (9, false) }) rfl (fun K hK => ?_) AllReadyH.nil
        go_simp
        go_at_call 58
        refine (l8Sum_is HZ.out ((HX3.out.below B1.out).below (HB.out.trans (hHeld.1.mono zb))) HK3.out ((HX5.out.below B1.out).below (HB.out.trans (hHeld.1.mono zb))) (fun x hx => ((HK5.out x hx).below B1.out).below (HB.out.trans (hHeld.1.mono zb))) hbt).mono ?_
        rintro e w9 ⟨rfl, b9⟩
        have B9 : Below wr.heap.size wr w9 := hHeld.1.trans (b9.mono hHeld.1.size)
        refine hK.out _ _ ?_ (fun hHeld => ?_)
        · exact KR.out _ B9
        clear hK K
        (try simp only [Act.put, List.setIfInBounds_toArray, List.set_cons_zero, List.set_cons_succ])
        refine wpAnyH_take (i := 27) (oi := { dst := some 80, op := Op.binOp BinOp.neq 3 (Operand.tmp 68) (Operand.tmp 79) 3, type := 4, pos := "l10_model.go:52", after := _, guard := some (9, false) }) (v := ?_) rfl (by kernel_rfl) (by kernel_rfl) (by kernel_rfl) (fun _ _ _ h => h) (Or.inl ⟨by rfl, ?_⟩) (by assumption) ?_
        rotate_left
        · (intro w hSw; (try dsimp only at hSw); go_simp; (try with_reducible rfl))
        simp only [Act.put, List.setIfInBounds_toArray, List.set_cons_zero, List.set_cons_succ]
        refine wpAnyH_take (i := 28) (oi := { dst := some 81, op := Op.pick (Operand.tmp 62) (Operand.const (Value.bool true)) (Operand.tmp 80), type := 4, pos := "l10_model.go:52", after := _, guard := none }) (v := ?_) rfl (by kernel_rfl) (by kernel_rfl) (by kernel_rfl) (fun _ _ _ h => h) (Or.inl ⟨by rfl, ?_⟩) (by assumption) ?_
        rotate_left
        · (intro w hSw; (try dsimp only at hSw); go_simp; (try with_reducible rfl))
        simp only [Act.put, List.setIfInBounds_toArray, List.set_cons_zero, List.set_cons_succ]
        refine wpAnyH_done (by kernel_rfl) ?_ _
        have B9' := HB.out.trans (B9.mono zb)
        by_cases hu : U[k].2 = z
        · have HTN := Lib.hid (show ∀ j, j < k + 1 → j < S.length → mAt rev S U (thsOf xs) j = true from fun j hj hjl => by
            rcases Nat.lt_succ_iff_lt_or_eq.1 hj with hj | rfl
            · exact HT.out j hj hjl
            · rw [HAT.out, hd, decide_eq_true hu]; rfl)
          have n1 : (U[k].2 != z) = false := by rw [hu]; simp
          have n2 : (U[k].2 == z) = true := by rw [hu]; simp
          have n3 : decide (U[k].2 = z) = true := decide_eq_true hu
          clear hu
          obtain ⟨y0, y1, y2, y3, y4, y5, y6⟩ := KS.out _ B9'
          go_wp2
          go_roundw
          case rel => exact ⟨k + 1, by omega, by go_num, HTN.out, B9'⟩
          case measure => simp [intOf]; omega
        · have HN := Lib.hid (HM.out.trans (show (true && (true && (true && (true && (true && (true && (true && mAll rev S U (thsOf xs)))))))) = false by rw [mAll_no hlt (by rw [HAT.out, hd, decide_eq_false hu]; rfl)]; rfl))
          have n1 : (U[k].2 != z) = true := by simpa using hu
          have n2 : (U[k].2 == z) = false := by simpa using hu
          have n3 : decide (U[k].2 = z) = false := decide_eq_false hu
          clear hu
          go_wp2
          go_ret
          exact ⟨by rw [HN.out]; rfl, HF.out _ B9'⟩
    · have HN := Lib.hid (HM.out.trans (show (true && (true && (true && (true && (true && (true && (true && mAll rev S U (thsOf xs)))))))) = true by rw [mAll_yes (k := k) (by omega) HT.out]; rfl))
      go_wp2
      go_ret
      exact ⟨by rw [HN.out]; rfl, HF.out _ HB.out⟩
end Go.Proofs.YtbioljpjpflboaaGreatDoor

/- How an argument that is a thing is opened. -/
namespace Go.Proofs.YtbioljpjpflboaaGreatDoor
open Go Go.RowKit Go.ChangeShapes Go.WideShapes

set_option maxRecDepth 100000 in
theorem openThingC {H : Type} {enc : TypeId × Value → H} {w : World} (n : Nat) (cs : List Value) (y : DataW H × List MemPlace) (h : DataW.trod enc Tryz.prog w 0 (fun _ => true) true n 93 cs = some y) : ∃ a c t, cs = thingCells a c t ∧ StrS w a t.marks ∧ OkThing t := by
  obtain ⟨ys, k, _, _, hl, hyl, hf⟩ := DataW.trod_struct Tryz.underlying93 h
  rw [show Tryz.prog.cellsOf 93 = 7 by kernel_rfl] at hl
  have kint : Tryz.prog.cellsOf 3 = 1 := by kernel_rfl
  have kstr : Tryz.prog.cellsOf 9 = 1 := by kernel_rfl
  have kbool : Tryz.prog.cellsOf 4 = 1 := by kernel_rfl
  have kst : Tryz.prog.cellsOf 55 = 1 := by kernel_rfl
  match cs, hl, ys, hyl, hf with
  | [c0, c1, c2, c3, c4, c5, c6], _, [y0, y1, y2, y3, y4, y5, y6], _, hf =>
    obtain ⟨x0, e0, _, s0⟩ := DataW.trod_string (fuel := k) (cs := [c0]) (x := y0) Tryz.underlying9 (by simpa [kstr] using hf 0 _ rfl)
    obtain ⟨x1, e1, _, s1⟩ := DataW.trod_string (fuel := k) (cs := [c1]) (x := y1) Tryz.underlying9 (by simpa [kstr] using hf 1 _ rfl)
    obtain ⟨x2, e2, _, _⟩ := DataW.trod_int (fuel := k) (cs := [c2]) (x := y2) Tryz.underlying3 (by simpa [kint] using hf 2 _ rfl)
    obtain ⟨x3, e3, _, _⟩ := DataW.trod_int (fuel := k) (cs := [c3]) (x := y3) Tryz.underlying3 (by simpa [kint] using hf 3 _ rfl)
    obtain ⟨x4, e4, _⟩ := DataW.trod_bool (fuel := k) (cs := [c4]) (x := y4) Tryz.underlying4 (by simpa [kbool] using hf 4 _ rfl)
    obtain ⟨a, l, c, e5, s5⟩ := open_strS (fuel := k) (cs := [c5]) (x := y5) Tryz.underlying55 Tryz.underlying9 (by kernel_rfl) (by simpa [kst] using hf 5 _ rfl)
    obtain ⟨x6, e6, _, s6⟩ := DataW.trod_string (fuel := k) (cs := [c6]) (x := y6) Tryz.underlying9 (by simpa [kstr] using hf 6 _ rfl)
    exact ⟨a, c, ⟨x0, x1, x2, x3, x4, l, x6⟩, by rw [List.cons_eq_cons.1 e0 |>.1, List.cons_eq_cons.1 e1 |>.1, List.cons_eq_cons.1 e2 |>.1, List.cons_eq_cons.1 e3 |>.1, List.cons_eq_cons.1 e4 |>.1, List.cons_eq_cons.1 e5 |>.1, List.cons_eq_cons.1 e6 |>.1]; rfl, s5, s0, s1, s6⟩

set_option maxRecDepth 100000 in
theorem open_thing {H : Type} {enc : TypeId × Value → H} {w : World} {r : Reach} {b0 : Nat} {v : Value} {d : DataW H} {p : List MemPlace} (hv : Value.okWide Tryz.prog w r b0 93 v) (h : DataW.Trod enc Tryz.prog w 0 (fun _ => true) true 93 v d p) :
    ∃ a c t, v = thingV a c t ∧ StrS w a t.marks ∧ OkThing t := by
  obtain ⟨cs, rfl, hsz⟩ := okWide_struct Tryz.underlying93 hv
  obtain ⟨n, hn⟩ := h
  obtain ⟨a, c, t, hc, h1, h2⟩ := openThingC n _ _ hn
  refine ⟨a, c, t, ?_, h1, h2⟩
  simp only [Value.cells] at hc
  unfold thingV
  congr 1
  apply Array.ext'
  simpa [thingCells] using hc
end Go.Proofs.YtbioljpjpflboaaGreatDoor

/- The spaces of a model, of the program: modelSpacesOk. -/
namespace Go.Proofs.YtbioljpjpflboaaGreatDoor
open Go Go.RowKit

/-- no space of these is newer -/
def revsTo (rev : Int) (l : List SpaceD) (k : Nat) : Bool := (l.take k).all fun x => !decide (rev < x.2.2.2.2)
theorem revsTo_succ {rev : Int} {l : List SpaceD} {k : Nat} (h : k < l.length) : revsTo rev l (k + 1) = (revsTo rev l k && !decide (rev < l[k].2.2.2.2)) := by
  unfold revsTo; rw [List.take_succ_eq_append_getElem h, List.all_append]; simp
theorem revsTo_no {rev : Int} {l : List SpaceD} {k : Nat} (h : k < l.length) (hn : rev < l[k].2.2.2.2) : revsTo rev l l.length = false := by
  unfold revsTo
  rw [List.take_length, List.all_eq_false]
  exact ⟨_, List.getElem_mem h, by rw [decide_eq_true hn]; simp⟩
def IdxRev (w : World) (rev : Int) (l : List SpaceD) (e : Ending) (w' : World) : Prop := ∃ q : Int, e = .returned (.int .i64 q) ∧ -1 ≤ q ∧ q ≤ 1048576 ∧ (0 ≤ q ↔ revsTo rev l l.length = false) ∧ Below w.heap.size w w'

set_option maxRecDepth 100000 in
set_option maxHeartbeats 800000 in
theorem mspaces1_any (x : SpaceD) (w : World) {P : Nat} {rev : Int} (hp : w.cell? ⟨P, 0, none⟩ = some (.int .i64 rev)) :
    Calls Tryz.prog 99 #[.agg #[.string x.1, .string x.2.1, .int .i64 x.2.2.1, .bool x.2.2.2.1, .int .i64 x.2.2.2.2], .pointer (some ⟨P, 0, none⟩)] w fun e w' => e = .returned (.bool (decide (rev < x.2.2.2.2))) ∧ Below w.heap.size w w' := by
  have hlt := World.block_lt_of_cell? w _ hp
  have hlt2 : P < w.heap.size := by simpa using hlt
  clear hlt
  go_enter Tryz.func99, Tryz.ntmps99
  go_wp2
  go_ret
  exact ⟨rfl, (by repeat (first | exact Below.refl _ _ | (refine Below.alloc ?_ (by first | (simp; done) | (simp; omega)) _) | (refine Below.setCell ?_ (by first | (simp; done) | (simp; omega)) _) | (refine Below.drew ?_)))⟩
set_option maxRecDepth 100000 in
set_option maxHeartbeats 1600000 in
theorem idxRev_any (a : Option Addr) (c : Nat) (l : List SpaceD) (w : World) {P : Nat} {rev : Int} (hp : w.cell? ⟨P, 0, none⟩ = some (.int .i64 rev)) (hl : ElS 5 encSpace w a l) (hlen : l.length ≤ 1048576) :
    Calls Tryz.prog 115 #[.slice a l.length c, .func (.func 99) #[] #[.pointer (some ⟨P, 0, none⟩)]] w (IdxRev w rev l) := by
  have hlt0 := World.block_lt_of_cell? w _ hp
  have HP := Lib.hid hp
  have HX := Lib.hid hl
  clear hl hp
  go_enter Tryz.func115, Tryz.ntmps115
  go_wp2
  go_loopw [8] (fun i wr => ∃ k : Nat, k ≤ l.length ∧ i = .int .i64 k ∧ revsTo rev l k = true ∧ Below w.heap.size w wr) (fun i _ => l.length - (intOf i).toNat)
  case atStart => exact ⟨0, Nat.zero_le _, rfl, rfl, Below.refl _ _⟩
  case round =>
    obtain ⟨k, hk, rfl, hal, hbel⟩ := hrel
    have HA := Lib.hid hal
    have HB := Lib.hid hbel
    clear hal
    by_cases hlt : k < l.length
    · obtain ⟨b, o, rfl, hcell⟩ := HX.out.2.resolve_left (fun e => by rw [e] at hlt; simp at hlt)
      obtain ⟨c0, c1, c2, c3, c4⟩ := cellsSpace hbel hcell k hlt
      have hki : (k : Int) < (l.length : Int) := by omega
      have hk0 : (0 : Int) ≤ (k : Int) := by omega
      have hq := (hbel.cell (p := ⟨P, 0, none⟩) hlt0).trans HP.out
      clear hcell hbel
      go_wp2_with fail
      refine (mspaces1_any l[k] _ hq).mono ?_
      rintro e w1 ⟨rfl, b1⟩
      have B1 := Lib.hid (HB.out.trans (b1.mono HB.out.size))
      clear b1 c0 c1 c2 c3 c4 hq
      by_cases hn : rev < l[k].2.2.2.2
      · have HS := Lib.hid (revsTo_no hlt hn)
        rw [decide_eq_true hn]
        clear hn
        go_wp2
        go_ret
        exact ⟨k, rfl, by omega, by omega, ⟨fun _ => HS.out, fun _ => by omega⟩, B1.out⟩
      · have HS := Lib.hid (show revsTo rev l (k + 1) = true by rw [revsTo_succ hlt, HA.out, decide_eq_false hn]; rfl)
        rw [decide_eq_false hn]
        clear hn
        go_wp2
        go_roundw
        case rel => exact ⟨k + 1, by omega, by go_num, HS.out, B1.out⟩
        case measure => simp [intOf]; omega
    · have HS := Lib.hid (show revsTo rev l l.length = true by have h := HA.out; rwa [show k = l.length by omega] at h)
      go_wp2
      go_ret
      exact ⟨-1, rfl, by omega, by omega, ⟨fun h => by omega, fun h => by rw [HS.out] at h; cases h⟩, HB.out⟩
set_option maxRecDepth 100000 in
set_option maxHeartbeats 800000 in
theorem hasRev_any (a : Option Addr) (c : Nat) (l : List SpaceD) (w : World) {P : Nat} {rev : Int} (hp : w.cell? ⟨P, 0, none⟩ = some (.int .i64 rev)) (hl : ElS 5 encSpace w a l) (hlen : l.length ≤ 1048576) :
    Calls Tryz.prog 98 #[.slice a l.length c, .func (.func 99) #[] #[.pointer (some ⟨P, 0, none⟩)]] w fun e w' => e = .returned (.bool (!revsTo rev l l.length)) ∧ Below w.heap.size w w' := by
  have HX := Lib.hid hl
  have HP := Lib.hid hp
  clear hl hp
  go_enter Tryz.func98, Tryz.ntmps98
  go_wp2_with fail
  refine (idxRev_any a c l _ HP.out HX.out hlen).mono ?_
  rintro e w1 ⟨q, rfl, hq1, hq2, hiff, hb⟩
  have B1 := Lib.hid hb
  clear hb
  cases h : revsTo rev l l.length with
  | true =>
    have hq : q < 0 := by
      rcases Int.lt_or_le q 0 with h1 | h1
      · exact h1
      · have := hiff.1 h1; rw [h] at this; cases this
    have H := Lib.hid h
    clear hiff h
    go_wp2
    go_ret
    exact ⟨ret_bool (by rw [H.out]; exact decide_eq_false (by omega)), B1.out⟩
  | false =>
    have hq : 0 ≤ q := hiff.2 h
    have H := Lib.hid h
    clear hiff h
    go_wp2
    go_ret
    exact ⟨ret_bool (by rw [H.out]; rfl), B1.out⟩
def mspsOk (rev : Int) (l : List SpaceD) : Bool := spsOk l && revsTo rev l l.length
set_option maxRecDepth 100000 in
set_option maxHeartbeats 1600000 in
theorem modelSpaces_any {v : Value} {m : ModelD} {w : World} (h : VnModel w v m) (hbs : (bulkSpaceS m.sps : Int) ≤ 1048576) :
    Calls Tryz.prog 68 #[v] w fun e w' => e = .returned (.bool (mspsOk m.rev m.sps)) ∧ Below w.heap.size w w' := by
  obtain ⟨v3, v4, v5, v6, rfl, h3, -, -, -⟩ := h
  have hsl := bulkSpaceS_len hbs
  obtain ⟨a3, c3, rfl, hl3, hk3⟩ := h3
  have HX3 := Lib.hid hl3
  have HK3 := Lib.hid hk3
  clear hl3 hk3
  obtain ⟨rev, uid, flo, S, U, T, Q⟩ := m
  simp only at hsl HX3 HK3 ⊢
  go_enter Tryz.func68, Tryz.ntmps68
  go_wp2_with fail
  obtain ⟨w2, hA⟩ : ∃ wA, w.alloc (.cells #[.int .i64 rev, .int .i64 uid, .int .i64 flo, .slice a3 S.length c3, v4, v5, v6] 35) = wA := ⟨_, rfl⟩
  rw [hA]
  have BX := Lib.hid (show Box w2 w.heap.size [.int .i64 rev, .int .i64 uid, .int .i64 flo, .slice a3 S.length c3, v4, v5, v6] by rw [← hA]; exact Box.alloc w _ _)
  have B2 := Lib.hid (show Below w.heap.size w w2 by rw [← hA]; exact below_alloc _ _)
  refine (implSpaces_any a3 c3 S w2 (HX3.out.below B2.out) HK3.out).mono ?_
  rintro e w3 ⟨rfl, b3⟩
  have B3 := Lib.hid (B2.out.trans (b3.mono B2.out.size))
  obtain ⟨x0, -⟩ := BX.out.below b3 0 _ rfl
  obtain ⟨x3, -⟩ := BX.out.below b3 3 _ rfl
  cases hs : spsOk S with
  | false =>
    have HF := Lib.hid (show mspsOk rev S = false by unfold mspsOk; rw [hs]; rfl)
    clear hs b3
    go_wp2_with fail
    go_wp2
    go_ret
    exact ⟨ret_bool (by rw [HF.out]), B3.out⟩
  | true =>
    have HF := Lib.hid (show mspsOk rev S = revsTo rev S S.length by unfold mspsOk; rw [hs]; rfl)
    clear hs
    have HX4 := Lib.hid (HX3.out.below B3.out)
    clear b3
    go_wp2_with fail
    refine (hasRev_any a3 c3 S _ x0 HX4.out hsl).mono ?_
    rintro e w4 ⟨rfl, b4⟩
    have B4 := Lib.hid (B3.out.trans (b4.mono B3.out.size))
    clear b4
    cases hr : revsTo rev S S.length with
    | true =>
      have HG := Lib.hid (HF.out.trans hr)
      clear hr
      go_wp2
      go_ret
      exact ⟨ret_bool (by rw [HG.out]), B4.out⟩
    | false =>
      have HG := Lib.hid (HF.out.trans hr)
      clear hr
      go_wp2
      go_ret
      exact ⟨ret_bool (by rw [HG.out]), B4.out⟩
end Go.Proofs.YtbioljpjpflboaaGreatDoor

/- What spaces use, of the program: modelUsesOk. -/
namespace Go.Proofs.YtbioljpjpflboaaGreatDoor
open Go Go.RowKit

def useAt (S : List SpaceD) (U : List UseD) (T : List ThingD) (i : Nat) : Bool := decide ((U.getD i default).1 = (S.getD i default).1) && decide ((U.getD i default).2 = useSum S T (U.getD i default).1)
def usesEqB (S : List SpaceD) (U : List UseD) (T : List ThingD) : Bool := decide (U.length = S.length) && (List.range U.length).all (useAt S U T)
theorem useAt_eq {S : List SpaceD} {U : List UseD} {T : List ThingD} {i : Nat} (h : i < U.length) (h2 : i < S.length) : useAt S U T i = (decide (U[i].1 = S[i].1) && decide (U[i].2 = useSum S T U[i].1)) := by simp [useAt, h, h2]
theorem uses_no {S : List SpaceD} {U : List UseD} {T : List ThingD} {i : Nat} (h : i < U.length) (hi : useAt S U T i = false) : usesEqB S U T = false := by
  unfold usesEqB
  rw [List.all_eq_false.2 ⟨i, List.mem_range.2 h, by rw [hi]; simp⟩]
  simp
theorem uses_all {S : List SpaceD} {U : List UseD} {T : List ThingD} {k : Nat} (hl : U.length = S.length) (hk : U.length ≤ k) (h : ∀ i, i < k → i < U.length → useAt S U T i = true) : usesEqB S U T = true := by
  unfold usesEqB
  rw [List.all_eq_true.2 fun i hi => h i (Nat.lt_of_lt_of_le (List.mem_range.1 hi) hk) (List.mem_range.1 hi), decide_eq_true hl]
  rfl
theorem useSum_isM {v0 v1 : Value} {l : List SpaceD} {ths : List ThingD} {name : ByteArray} {z : Int} (hz : useSum l ths name = z) {w : World} (h0 : VwSpaceS w v0 l) (h1 : VnThingS w v1 ths) (hb : (bulkThingS ths : Int) ≤ 1048576) :
    Calls Tryz.prog 103 #[v0, v1, .string name] w fun e w' => e = .returned (.int .i64 z) ∧ Below w.heap.size w w' := by
  subst hz
  exact implUseSum_c name h0 h1 hb
set_option maxRecDepth 100000 in
set_option maxHeartbeats 4000000 in
theorem modelUses_any {v : Value} {m : ModelD} {w : World} (h : VnModel w v m) (hb : (bulkThingS m.ths : Int) ≤ 1048576) (hbs : (bulkSpaceS m.sps : Int) ≤ 1048576) (hbu : (bulkUseS m.uses : Int) ≤ 1048576) :
    Calls Tryz.prog 70 #[v] w fun e w' => e = .returned (.bool (usesEqB m.sps m.uses m.ths)) ∧ Below w.heap.size w w' := by
  obtain ⟨v3, v4, v5, v6, rfl, h3, h4, h5, -⟩ := h
  have hsl := bulkSpaceS_len hbs
  have hul := bulkUseS_len hbu
  have H3 := Lib.hid h3
  have H5 := Lib.hid h5
  obtain ⟨a3, c3, rfl, hl3, hk3⟩ := h3
  obtain ⟨a4, c4, rfl, hl4, hk4⟩ := h4
  have HX3 := Lib.hid hl3
  have HX4 := Lib.hid hl4
  clear hl3 hl4 hk3 hk4 h5
  obtain ⟨rev, uid, flo, S, U, T, P⟩ := m
  simp only at hsl hul H3 H5 HX3 HX4 hb ⊢
  by_cases hd : U.length = S.length
  · have nd1 : ((U.length : Int) != (S.length : Int)) = false := by rw [hd]; simp
    have nd2 : ((U.length : Int) == (S.length : Int)) = true := by rw [hd]; simp
    have nd3 : (U.length == S.length) = true := by rw [hd]; simp
    have HD := Lib.hid hd
    clear hd
    go_enter Tryz.func70, Tryz.ntmps70
    go_wp2_with fail
    obtain ⟨w2, hA⟩ : ∃ wA, w.alloc (.cells #[.int .i64 rev, .int .i64 uid, .int .i64 flo, .slice a3 S.length c3, .slice a4 U.length c4, v5, v6] 35) = wA := ⟨_, rfl⟩
    have BX := Lib.hid (show Box w2 w.heap.size [.int .i64 rev, .int .i64 uid, .int .i64 flo, .slice a3 S.length c3, .slice a4 U.length c4, v5, v6] by rw [← hA]; exact Box.alloc w _ _)
    have B2 := Lib.hid (show Below w.heap.size w w2 by rw [← hA]; exact below_alloc _ _)
    have HY3 := Lib.hid (HX3.out.below (w' := w2) B2.out)
    have HY4 := Lib.hid (HX4.out.below (w' := w2) B2.out)
    have z2 := B2.out.size
    rw [hA]
    clear hA
    go_loopw [15] (fun i wr => ∃ k : Nat, k ≤ U.length ∧ i = .int .i64 k ∧ (∀ j, j < k → j < U.length → useAt S U T j = true) ∧ Below w2.heap.size w2 wr) (fun i _ => U.length - (intOf i).toNat)
    case atStart => exact ⟨0, Nat.zero_le _, rfl, fun j h => absurd h (Nat.not_lt_zero _), Below.refl _ _⟩
    case round =>
      obtain ⟨k, hk, rfl, hto, hbel⟩ := hrel
      have HT := Lib.hid hto
      have HB := Lib.hid hbel
      have zb := hbel.size
      clear hto
      by_cases hlt : k < U.length
      · have hlt2 : k < S.length := by have := HD.out; omega
        obtain ⟨bb, ob, rfl, hcb⟩ := HY4.out.2.resolve_left (by intro e; rw [e] at hlt; simp at hlt)
        obtain ⟨b3, o3, rfl, hcs⟩ := HY3.out.2.resolve_left (by intro e; rw [e] at hlt2; simp at hlt2)
        obtain ⟨c0, c1⟩ := cellsUse hbel hcb k hlt
        have hkI : (k : Int) < (U.length : Int) := by omega
        have hkS : (k : Int) < (S.length : Int) := by omega
        have hk0 : (0 : Int) ≤ (k : Int) := by omega
        obtain ⟨w3, hW3⟩ : ∃ w3, wr.alloc (.cells #[.string U[k].1, .int .i64 U[k].2] 54) = w3 := ⟨_, rfl⟩
        have A3 : Below w2.heap.size w2 w3 := by rw [← hW3]; exact hbel.alloc hbel.size _
        have BU : Box w3 wr.heap.size [.string U[k].1, .int .i64 U[k].2] := by rw [← hW3]; exact Box.alloc wr _ _
        have z3 : w3.heap.size = wr.heap.size + 1 := by rw [← hW3, World.size_alloc]
        have HW3 := Lib.hid hW3
        have KS := Lib.hid (show ∀ W, Below w3.heap.size w3 W → (W.cell? ⟨w.heap.size, 3, none⟩ = some (.slice (some ⟨b3, o3, none⟩) S.length c3) ∧ W.cell? ⟨w.heap.size, 5, none⟩ = some v5 ∧ W.cell? ⟨wr.heap.size, 0, none⟩ = some (.string U[k].1) ∧ W.cell? ⟨wr.heap.size, 1, none⟩ = some (.int .i64 U[k].2) ∧ W.cell? ⟨b3, o3 + k * 5, none⟩ = some (.string S[k].1) ∧ Below w3.heap.size w3 W) from fun W hb => by
          have hb2 := A3.trans (hb.mono (by omega))
          have h := BX.out.below hb2
          have hu := BU.below hb
          obtain ⟨d0, -, -, -, -⟩ := cellsSpace hb2 hcs k hlt2
          exact ⟨(h 3 _ rfl).1, (h 5 _ rfl).1, (hu 0 _ rfl).1, (hu 1 _ rfl).1, d0, hb⟩)
        have HA3 := Lib.hid A3
        have HV3 := Lib.hid (H3.out.below (B2.out.trans (A3.mono z2)))
        have HV5 := Lib.hid (H5.out.below (B2.out.trans (A3.mono z2)))
        clear hcb hcs hbel A3 BU hW3
        by_cases e : U[k].1 = S[k].1
        · have q1 : (U[k].1.toList == S[k].1.toList) = true := by rw [e]; simp
          obtain ⟨z, hz⟩ : ∃ z, useSum S T U[k].1 = z := ⟨_, rfl⟩
          have HZ := Lib.hid hz
          by_cases hu : U[k].2 = z
          · have HN := Lib.hid (show ∀ j, j < k + 1 → j < U.length → useAt S U T j = true from fun j h1 h2 => by
              by_cases e2 : j < k
              · exact HT.out j e2 h2
              · obtain rfl : j = k := by omega
                rw [useAt_eq h2 hlt2, decide_eq_true e, hz, decide_eq_true hu]; rfl)
            have n1 : (U[k].2 != z) = false := by rw [hu]; simp
            have n2 : (U[k].2 == z) = true := by rw [hu]; simp
            have n3 := HZ
            clear hz hu e
            go_wp2_with fail
            rw [HW3.out]
            refine wp_region_held_drew (S := fun W => W.cell? ⟨w.heap.size, 3, none⟩ = some (.slice (some ⟨b3, o3, none⟩) S.length c3) ∧ W.cell? ⟨w.heap.size, 5, none⟩ = some v5 ∧ W.cell? ⟨wr.heap.size, 0, none⟩ = some (.string U[k].1) ∧ W.cell? ⟨wr.heap.size, 1, none⟩ = some (.int .i64 U[k].2) ∧ W.cell? ⟨b3, o3 + k * 5, none⟩ = some (.string S[k].1) ∧ Below w3.heap.size w3 W) (by kernel_rfl) (KS.out _ (Below.refl _ _).drew) (fun hHeld => ?_)
            refine wpAnyH_take (i := 0) (oi := { dst := some 20, op := Op.fieldAddr 54 (Operand.tmp 4) 0, type := 0, pos := "l10_model.go:253", after := _, guard := none }) (v := ?_) rfl (by kernel_rfl) (by kernel_rfl) (by kernel_rfl) (fun _ _ _ h => h) (Or.inl ⟨by rfl, ?_⟩) (by assumption) ?_
            rotate_left
            · (intro w hSw; (try dsimp only at hSw); go_simp; (try with_reducible rfl))
            simp only [Act.put, List.setIfInBounds_toArray, List.set_cons_zero, List.set_cons_succ]
            refine wpAnyH_take (i := 1) (oi := { dst := some 21, op := Op.load 9 (Operand.tmp 20), type := 9, pos := "l10_model.go:253", after := _, guard := none }) (v := ?_) rfl (by kernel_rfl) (by kernel_rfl) (by kernel_rfl) (fun _ _ _ h => h) (Or.inl ⟨by rfl, ?_⟩) (by assumption) ?_
            rotate_left
            · (intro w hSw; (try dsimp only at hSw); go_simp; (try with_reducible rfl))
            simp only [Act.put, List.setIfInBounds_toArray, List.set_cons_zero, List.set_cons_succ]
            refine wpAnyH_take (i := 2) (oi := { dst := some 22, op := Op.fieldAddr 35 (Operand.tmp 1) 3, type := 0, pos := "l10_model.go:253", after := _, guard := none }) (v := ?_) rfl (by kernel_rfl) (by kernel_rfl) (by kernel_rfl) (fun _ _ _ h => h) (Or.inl ⟨by rfl, ?_⟩) (by assumption) ?_
            rotate_left
            · (intro w hSw; (try dsimp only at hSw); go_simp; (try with_reducible rfl))
            simp only [Act.put, List.setIfInBounds_toArray, List.set_cons_zero, List.set_cons_succ]
            refine wpAnyH_take (i := 3) (oi := { dst := some 23, op := Op.load 30 (Operand.tmp 22), type := 30, pos := "l10_model.go:253", after := _, guard := none }) (v := ?_) rfl (by kernel_rfl) (by kernel_rfl) (by kernel_rfl) (fun _ _ _ h => h) (Or.inl ⟨by rfl, ?_⟩) (by assumption) ?_
            rotate_left
            · (intro w hSw; (try dsimp only at hSw); go_simp; (try with_reducible rfl))
            simp only [Act.put, List.setIfInBounds_toArray, List.set_cons_zero, List.set_cons_succ]
            refine wpAnyH_take (i := 4) (oi := { dst := some 24, op := Op.move (Operand.tmp 3), type := 3, pos := "l10_model.go:253", after := _, guard := none }) (v := ?_) rfl (by kernel_rfl) (by kernel_rfl) (by kernel_rfl) (fun _ _ _ h => h) (Or.inl ⟨by rfl, ?_⟩) (by assumption) ?_
            rotate_left
            · (intro w hSw; (try dsimp only at hSw); go_simp; (try with_reducible rfl))
            simp only [Act.put, List.setIfInBounds_toArray, List.set_cons_zero, List.set_cons_succ]
            refine wpAnyH_take (i := 5) (oi := { dst := some 25, op := Op.indexAddr 30 (Operand.tmp 23) (Operand.tmp 24), type := 0, pos := "l10_model.go:253", after := _, guard := none }) (v := ?_) rfl (by kernel_rfl) (by kernel_rfl) (by kernel_rfl) (fun _ _ _ h => h) (Or.inl ⟨by rfl, ?_⟩) (by assumption) ?_
            rotate_left
            · (intro w hSw; (try dsimp only at hSw); go_simp; (try with_reducible rfl))
            simp only [Act.put, List.setIfInBounds_toArray, List.set_cons_zero, List.set_cons_succ]
            refine wpAnyH_take (i := 6) (oi := { dst := some 26, op := Op.fieldAddr 51 (Operand.tmp 25) 0, type := 0, pos := "l10_model.go:253", after := _, guard := none }) (v := ?_) rfl (by kernel_rfl) (by kernel_rfl) (by kernel_rfl) (fun _ _ _ h => h) (Or.inl ⟨by rfl, ?_⟩) (by assumption) ?_
            rotate_left
            · (intro w hSw; (try dsimp only at hSw); go_simp; (try with_reducible rfl))
            simp only [Act.put, List.setIfInBounds_toArray, List.set_cons_zero, List.set_cons_succ]
            refine wpAnyH_take (i := 7) (oi := { dst := some 27, op := Op.load 9 (Operand.tmp 26), type := 9, pos := "l10_model.go:253", after := _, guard := none }) (v := ?_) rfl (by kernel_rfl) (by kernel_rfl) (by kernel_rfl) (fun _ _ _ h => h) (Or.inl ⟨by rfl, ?_⟩) (by assumption) ?_
            rotate_left
            · (intro w hSw; (try dsimp only at hSw); go_simp; (try with_reducible rfl))
            simp only [Act.put, List.setIfInBounds_toArray, List.set_cons_zero, List.set_cons_succ]
            refine wpAnyH_take (i := 8) (oi := { dst := some 28, op := Op.binOp BinOp.neq 9 (Operand.tmp 21) (Operand.tmp 27) 9, type := 4, pos := "l10_model.go:253", after := _, guard := none }) (v := ?_) rfl (by kernel_rfl) (by kernel_rfl) (by kernel_rfl) (fun _ _ _ h => h) (Or.inl ⟨by rfl, ?_⟩) (by assumption) ?_
            rotate_left
            · (intro w hSw; (try dsimp only at hSw); go_simp; (try with_reducible rfl))
            simp only [Act.put, List.setIfInBounds_toArray, List.set_cons_zero, List.set_cons_succ]
            refine wpAnyH_take (i := 9) (oi := { dst := some 29, op := Op.move (Operand.tmp 28), type := 4, pos := "l10_model.go:253", after := _, guard := none }) (v := ?_) rfl (by kernel_rfl) (by kernel_rfl) (by kernel_rfl) (fun _ _ _ h => h) (Or.inl ⟨by rfl, ?_⟩) (by assumption) ?_
            rotate_left
            · (intro w hSw; (try dsimp only at hSw); go_simp; (try with_reducible rfl))
            simp only [Act.put, List.setIfInBounds_toArray, List.set_cons_zero, List.set_cons_succ]
            refine wpAnyH_take (i := 10) (oi := { dst := some 30, op := Op.fieldAddr 54 (Operand.tmp 4) 1, type := 0, pos := "l10_model.go:253", after := _, guard := some (9, false) }) (v := ?_) rfl (by kernel_rfl) (by kernel_rfl) (by kernel_rfl) (fun _ _ _ h => h) (Or.inl ⟨by rfl, ?_⟩) (by assumption) ?_
            rotate_left
            · (intro w hSw; (try dsimp only at hSw); go_simp; (try with_reducible rfl))
            simp only [Act.put, List.setIfInBounds_toArray, List.set_cons_zero, List.set_cons_succ]
            refine wpAnyH_take (i := 11) (oi := { dst := some 31, op := Op.load 3 (Operand.tmp 30), type := 3, pos := "l10_model.go:253", after := _, guard := some (9, false) }) (v := ?_) rfl (by kernel_rfl) (by kernel_rfl) (by kernel_rfl) (fun _ _ _ h => h) (Or.inl ⟨by rfl, ?_⟩) (by assumption) ?_
            rotate_left
            · (intro w hSw; (try dsimp only at hSw); go_simp; (try with_reducible rfl))
            simp only [Act.put, List.setIfInBounds_toArray, List.set_cons_zero, List.set_cons_succ]
            refine wpAnyH_take (i := 12) (oi := { dst := some 32, op := Op.fieldAddr 35 (Operand.tmp 1) 3, type := 0, pos := "l10_model.go:253", after := _, guard := some (9, false) }) (v := ?_) rfl (by kernel_rfl) (by kernel_rfl) (by kernel_rfl) (fun _ _ _ h => h) (Or.inl ⟨by rfl, ?_⟩) (by assumption) ?_
            rotate_left
            · (intro w hSw; (try dsimp only at hSw); go_simp; (try with_reducible rfl))
            simp only [Act.put, List.setIfInBounds_toArray, List.set_cons_zero, List.set_cons_succ]
            refine wpAnyH_take (i := 13) (oi := { dst := some 33, op := Op.load 30 (Operand.tmp 32), type := 30, pos := "l10_model.go:253", after := _, guard := some (9, false) }) (v := ?_) rfl (by kernel_rfl) (by kernel_rfl) (by kernel_rfl) (fun _ _ _ h => h) (Or.inl ⟨by rfl, ?_⟩) (by assumption) ?_
            rotate_left
            · (intro w hSw; (try dsimp only at hSw); go_simp; (try with_reducible rfl))
            simp only [Act.put, List.setIfInBounds_toArray, List.set_cons_zero, List.set_cons_succ]
            refine wpAnyH_take (i := 14) (oi := { dst := some 34, op := Op.fieldAddr 35 (Operand.tmp 1) 5, type := 0, pos := "l10_model.go:253", after := _, guard := some (9, false) }) (v := ?_) rfl (by kernel_rfl) (by kernel_rfl) (by kernel_rfl) (fun _ _ _ h => h) (Or.inl ⟨by rfl, ?_⟩) (by assumption) ?_
            rotate_left
            · (intro w hSw; (try dsimp only at hSw); go_simp; (try with_reducible rfl))
            simp only [Act.put, List.setIfInBounds_toArray, List.set_cons_zero, List.set_cons_succ]
            refine wpAnyH_take (i := 15) (oi := { dst := some 35, op := Op.load 32 (Operand.tmp 34), type := 32, pos := "l10_model.go:253", after := _, guard := some (9, false) }) (v := ?_) rfl (by kernel_rfl) (by kernel_rfl) (by kernel_rfl) (fun _ _ _ h => h) (Or.inl ⟨by rfl, ?_⟩) (by assumption) ?_
            rotate_left
            · (intro w hSw; (try dsimp only at hSw); go_simp; (try with_reducible rfl))
            simp only [Act.put, List.setIfInBounds_toArray, List.set_cons_zero, List.set_cons_succ]
            refine wpAnyH_take (i := 16) (oi := { dst := some 36, op := Op.fieldAddr 54 (Operand.tmp 4) 0, type := 0, pos := "l10_model.go:253", after := _, guard := some (9, false) }) (v := ?_) rfl (by kernel_rfl) (by kernel_rfl) (by kernel_rfl) (fun _ _ _ h => h) (Or.inl ⟨by rfl, ?_⟩) (by assumption) ?_
            rotate_left
            · (intro w hSw; (try dsimp only at hSw); go_simp; (try with_reducible rfl))
            simp only [Act.put, List.setIfInBounds_toArray, List.set_cons_zero, List.set_cons_succ]
            refine wpAnyH_take (i := 17) (oi := { dst := some 37, op := Op.load 9 (Operand.tmp 36), type := 9, pos := "l10_model.go:253", after := _, guard := some (9, false) }) (v := ?_) rfl (by kernel_rfl) (by kernel_rfl) (by kernel_rfl) (fun _ _ _ h => h) (Or.inl ⟨by rfl, ?_⟩) (by assumption) ?_
            rotate_left
            · (intro w hSw; (try dsimp only at hSw); go_simp; (try with_reducible rfl))
            simp only [Act.put, List.setIfInBounds_toArray, List.set_cons_zero, List.set_cons_succ]
            refine wpAnyH_ready (rs := [18]) (by kernel_rfl) (by simp) ?_
            refine AllReadyH.cons (o := { dst := some 38, op := Op.call { callee := Callee.value (Operand.func 103), args := #[Operand.tmp 33, Operand.tmp 35, Operand.tmp 37], argTypes := #[30, 32, 9] }, type := 3, pos := "l10_model.go:253", after := _, guard := some (9, false) }) rfl (fun K hK => ?_) AllReadyH.nil
            go_simp
            go_at_call 103
            refine (useSum_isM HZ.out (HV3.out.below hHeld.2.2.2.2.2) (HV5.out.below hHeld.2.2.2.2.2) hb).mono ?_
            rintro e w4 ⟨rfl, b4⟩
            have B4 : Below w3.heap.size w3 w4 := hHeld.2.2.2.2.2.trans (b4.mono hHeld.2.2.2.2.2.size)
            refine hK.out _ _ ?_ (fun hHeld => ?_)
            · exact KS.out _ B4
            clear hK K
            (try simp only [Act.put, List.setIfInBounds_toArray, List.set_cons_zero, List.set_cons_succ])
            refine wpAnyH_take (i := 19) (oi := { dst := some 39, op := Op.binOp BinOp.neq 3 (Operand.tmp 31) (Operand.tmp 38) 3, type := 4, pos := "l10_model.go:253", after := _, guard := some (9, false) }) (v := ?_) rfl (by kernel_rfl) (by kernel_rfl) (by kernel_rfl) (fun _ _ _ h => h) (Or.inl ⟨by rfl, ?_⟩) (by assumption) ?_
            rotate_left
            · (intro w hSw; (try dsimp only at hSw); go_simp; (try with_reducible rfl))
            simp only [Act.put, List.setIfInBounds_toArray, List.set_cons_zero, List.set_cons_succ]
            refine wpAnyH_take (i := 20) (oi := { dst := some 40, op := Op.pick (Operand.tmp 29) (Operand.const (Value.bool true)) (Operand.tmp 39), type := 4, pos := "l10_model.go:253", after := _, guard := none }) (v := ?_) rfl (by kernel_rfl) (by kernel_rfl) (by kernel_rfl) (fun _ _ _ h => h) (Or.inl ⟨by rfl, ?_⟩) (by assumption) ?_
            rotate_left
            · (intro w hSw; (try dsimp only at hSw); go_simp; (try with_reducible rfl))
            simp only [Act.put, List.setIfInBounds_toArray, List.set_cons_zero, List.set_cons_succ]
            refine wpAnyH_done (by kernel_rfl) ?_ _
            go_wp2
            go_roundw
            case rel => exact ⟨k + 1, by omega, by go_num, HN.out, HA3.out.trans (B4.mono (by omega))⟩
            case measure => simp [intOf]; omega
          · have HF := Lib.hid (uses_no (S := S) (T := T) hlt (by rw [useAt_eq hlt hlt2, hz, decide_eq_false hu]; simp))
            have n1 : (U[k].2 != z) = true := by simpa using hu
            have n2 : (U[k].2 == z) = false := by simpa using hu
            clear hz e
            go_wp2_with fail
            rw [HW3.out]
            refine wp_region_held_drew (S := fun W => W.cell? ⟨w.heap.size, 3, none⟩ = some (.slice (some ⟨b3, o3, none⟩) S.length c3) ∧ W.cell? ⟨w.heap.size, 5, none⟩ = some v5 ∧ W.cell? ⟨wr.heap.size, 0, none⟩ = some (.string U[k].1) ∧ W.cell? ⟨wr.heap.size, 1, none⟩ = some (.int .i64 U[k].2) ∧ W.cell? ⟨b3, o3 + k * 5, none⟩ = some (.string S[k].1) ∧ Below w3.heap.size w3 W) (by kernel_rfl) (KS.out _ (Below.refl _ _).drew) (fun hHeld => ?_)
            refine wpAnyH_take (i := 0) (oi := { dst := some 20, op := Op.fieldAddr 54 (Operand.tmp 4) 0, type := 0, pos := "l10_model.go:253", after := _, guard := none }) (v := ?_) rfl (by kernel_rfl) (by kernel_rfl) (by kernel_rfl) (fun _ _ _ h => h) (Or.inl ⟨by rfl, ?_⟩) (by assumption) ?_
            rotate_left
            · (intro w hSw; (try dsimp only at hSw); go_simp; (try with_reducible rfl))
            simp only [Act.put, List.setIfInBounds_toArray, List.set_cons_zero, List.set_cons_succ]
            refine wpAnyH_take (i := 1) (oi := { dst := some 21, op := Op.load 9 (Operand.tmp 20), type := 9, pos := "l10_model.go:253", after := _, guard := none }) (v := ?_) rfl (by kernel_rfl) (by kernel_rfl) (by kernel_rfl) (fun _ _ _ h => h) (Or.inl ⟨by rfl, ?_⟩) (by assumption) ?_
            rotate_left
            · (intro w hSw; (try dsimp only at hSw); go_simp; (try with_reducible rfl))
            simp only [Act.put, List.setIfInBounds_toArray, List.set_cons_zero, List.set_cons_succ]
            refine wpAnyH_take (i := 2) (oi := { dst := some 22, op := Op.fieldAddr 35 (Operand.tmp 1) 3, type := 0, pos := "l10_model.go:253", after := _, guard := none }) (v := ?_) rfl (by kernel_rfl) (by kernel_rfl) (by kernel_rfl) (fun _ _ _ h => h) (Or.inl ⟨by rfl, ?_⟩) (by assumption) ?_
            rotate_left
            · (intro w hSw; (try dsimp only at hSw); go_simp; (try with_reducible rfl))
            simp only [Act.put, List.setIfInBounds_toArray, List.set_cons_zero, List.set_cons_succ]
            refine wpAnyH_take (i := 3) (oi := { dst := some 23, op := Op.load 30 (Operand.tmp 22), type := 30, pos := "l10_model.go:253", after := _, guard := none }) (v := ?_) rfl (by kernel_rfl) (by kernel_rfl) (by kernel_rfl) (fun _ _ _ h => h) (Or.inl ⟨by rfl, ?_⟩) (by assumption) ?_
            rotate_left
            · (intro w hSw; (try dsimp only at hSw); go_simp; (try with_reducible rfl))
            simp only [Act.put, List.setIfInBounds_toArray, List.set_cons_zero, List.set_cons_succ]
            refine wpAnyH_take (i := 4) (oi := { dst := some 24, op := Op.move (Operand.tmp 3), type := 3, pos := "l10_model.go:253", after := _, guard := none }) (v := ?_) rfl (by kernel_rfl) (by kernel_rfl) (by kernel_rfl) (fun _ _ _ h => h) (Or.inl ⟨by rfl, ?_⟩) (by assumption) ?_
            rotate_left
            · (intro w hSw; (try dsimp only at hSw); go_simp; (try with_reducible rfl))
            simp only [Act.put, List.setIfInBounds_toArray, List.set_cons_zero, List.set_cons_succ]
            refine wpAnyH_take (i := 5) (oi := { dst := some 25, op := Op.indexAddr 30 (Operand.tmp 23) (Operand.tmp 24), type := 0, pos := "l10_model.go:253", after := _, guard := none }) (v := ?_) rfl (by kernel_rfl) (by kernel_rfl) (by kernel_rfl) (fun _ _ _ h => h) (Or.inl ⟨by rfl, ?_⟩) (by assumption) ?_
            rotate_left
            · (intro w hSw; (try dsimp only at hSw); go_simp; (try with_reducible rfl))
            simp only [Act.put, List.setIfInBounds_toArray, List.set_cons_zero, List.set_cons_succ]
            refine wpAnyH_take (i := 6) (oi := { dst := some 26, op := Op.fieldAddr 51 (Operand.tmp 25) 0, type := 0, pos := "l10_model.go:253", after := _, guard := none }) (v := ?_) rfl (by kernel_rfl) (by kernel_rfl) (by kernel_rfl) (fun _ _ _ h => h) (Or.inl ⟨by rfl, ?_⟩) (by assumption) ?_
            rotate_left
            · (intro w hSw; (try dsimp only at hSw); go_simp; (try with_reducible rfl))
            simp only [Act.put, List.setIfInBounds_toArray, List.set_cons_zero, List.set_cons_succ]
            refine wpAnyH_take (i := 7) (oi := { dst := some 27, op := Op.load 9 (Operand.tmp 26), type := 9, pos := "l10_model.go:253", after := _, guard := none }) (v := ?_) rfl (by kernel_rfl) (by kernel_rfl) (by kernel_rfl) (fun _ _ _ h => h) (Or.inl ⟨by rfl, ?_⟩) (by assumption) ?_
            rotate_left
            · (intro w hSw; (try dsimp only at hSw); go_simp; (try with_reducible rfl))
            simp only [Act.put, List.setIfInBounds_toArray, List.set_cons_zero, List.set_cons_succ]
            refine wpAnyH_take (i := 8) (oi := { dst := some 28, op := Op.binOp BinOp.neq 9 (Operand.tmp 21) (Operand.tmp 27) 9, type := 4, pos := "l10_model.go:253", after := _, guard := none }) (v := ?_) rfl (by kernel_rfl) (by kernel_rfl) (by kernel_rfl) (fun _ _ _ h => h) (Or.inl ⟨by rfl, ?_⟩) (by assumption) ?_
            rotate_left
            · (intro w hSw; (try dsimp only at hSw); go_simp; (try with_reducible rfl))
            simp only [Act.put, List.setIfInBounds_toArray, List.set_cons_zero, List.set_cons_succ]
            refine wpAnyH_take (i := 9) (oi := { dst := some 29, op := Op.move (Operand.tmp 28), type := 4, pos := "l10_model.go:253", after := _, guard := none }) (v := ?_) rfl (by kernel_rfl) (by kernel_rfl) (by kernel_rfl) (fun _ _ _ h => h) (Or.inl ⟨by rfl, ?_⟩) (by assumption) ?_
            rotate_left
            · (intro w hSw; (try dsimp only at hSw); go_simp; (try with_reducible rfl))
            simp only [Act.put, List.setIfInBounds_toArray, List.set_cons_zero, List.set_cons_succ]
            refine wpAnyH_take (i := 10) (oi := { dst := some 30, op := Op.fieldAddr 54 (Operand.tmp 4) 1, type := 0, pos := "l10_model.go:253", after := _, guard := some (9, false) }) (v := ?_) rfl (by kernel_rfl) (by kernel_rfl) (by kernel_rfl) (fun _ _ _ h => h) (Or.inl ⟨by rfl, ?_⟩) (by assumption) ?_
            rotate_left
            · (intro w hSw; (try dsimp only at hSw); go_simp; (try with_reducible rfl))
            simp only [Act.put, List.setIfInBounds_toArray, List.set_cons_zero, List.set_cons_succ]
            refine wpAnyH_take (i := 11) (oi := { dst := some 31, op := Op.load 3 (Operand.tmp 30), type := 3, pos := "l10_model.go:253", after := _, guard := some (9, false) }) (v := ?_) rfl (by kernel_rfl) (by kernel_rfl) (by kernel_rfl) (fun _ _ _ h => h) (Or.inl ⟨by rfl, ?_⟩) (by assumption) ?_
            rotate_left
            · (intro w hSw; (try dsimp only at hSw); go_simp; (try with_reducible rfl))
            simp only [Act.put, List.setIfInBounds_toArray, List.set_cons_zero, List.set_cons_succ]
            refine wpAnyH_take (i := 12) (oi := { dst := some 32, op := Op.fieldAddr 35 (Operand.tmp 1) 3, type := 0, pos := "l10_model.go:253", after := _, guard := some (9, false) }) (v := ?_) rfl (by kernel_rfl) (by kernel_rfl) (by kernel_rfl) (fun _ _ _ h => h) (Or.inl ⟨by rfl, ?_⟩) (by assumption) ?_
            rotate_left
            · (intro w hSw; (try dsimp only at hSw); go_simp; (try with_reducible rfl))
            simp only [Act.put, List.setIfInBounds_toArray, List.set_cons_zero, List.set_cons_succ]
            refine wpAnyH_take (i := 13) (oi := { dst := some 33, op := Op.load 30 (Operand.tmp 32), type := 30, pos := "l10_model.go:253", after := _, guard := some (9, false) }) (v := ?_) rfl (by kernel_rfl) (by kernel_rfl) (by kernel_rfl) (fun _ _ _ h => h) (Or.inl ⟨by rfl, ?_⟩) (by assumption) ?_
            rotate_left
            · (intro w hSw; (try dsimp only at hSw); go_simp; (try with_reducible rfl))
            simp only [Act.put, List.setIfInBounds_toArray, List.set_cons_zero, List.set_cons_succ]
            refine wpAnyH_take (i := 14) (oi := { dst := some 34, op := Op.fieldAddr 35 (Operand.tmp 1) 5, type := 0, pos := "l10_model.go:253", after := _, guard := some (9, false) }) (v := ?_) rfl (by kernel_rfl) (by kernel_rfl) (by kernel_rfl) (fun _ _ _ h => h) (Or.inl ⟨by rfl, ?_⟩) (by assumption) ?_
            rotate_left
            · (intro w hSw; (try dsimp only at hSw); go_simp; (try with_reducible rfl))
            simp only [Act.put, List.setIfInBounds_toArray, List.set_cons_zero, List.set_cons_succ]
            refine wpAnyH_take (i := 15) (oi := { dst := some 35, op := Op.load 32 (Operand.tmp 34), type := 32, pos := "l10_model.go:253", after := _, guard := some (9, false) }) (v := ?_) rfl (by kernel_rfl) (by kernel_rfl) (by kernel_rfl) (fun _ _ _ h => h) (Or.inl ⟨by rfl, ?_⟩) (by assumption) ?_
            rotate_left
            · (intro w hSw; (try dsimp only at hSw); go_simp; (try with_reducible rfl))
            simp only [Act.put, List.setIfInBounds_toArray, List.set_cons_zero, List.set_cons_succ]
            refine wpAnyH_take (i := 16) (oi := { dst := some 36, op := Op.fieldAddr 54 (Operand.tmp 4) 0, type := 0, pos := "l10_model.go:253", after := _, guard := some (9, false) }) (v := ?_) rfl (by kernel_rfl) (by kernel_rfl) (by kernel_rfl) (fun _ _ _ h => h) (Or.inl ⟨by rfl, ?_⟩) (by assumption) ?_
            rotate_left
            · (intro w hSw; (try dsimp only at hSw); go_simp; (try with_reducible rfl))
            simp only [Act.put, List.setIfInBounds_toArray, List.set_cons_zero, List.set_cons_succ]
            refine wpAnyH_take (i := 17) (oi := { dst := some 37, op := Op.load 9 (Operand.tmp 36), type := 9, pos := "l10_model.go:253", after := _, guard := some (9, false) }) (v := ?_) rfl (by kernel_rfl) (by kernel_rfl) (by kernel_rfl) (fun _ _ _ h => h) (Or.inl ⟨by rfl, ?_⟩) (by assumption) ?_
            rotate_left
            · (intro w hSw; (try dsimp only at hSw); go_simp; (try with_reducible rfl))
            simp only [Act.put, List.setIfInBounds_toArray, List.set_cons_zero, List.set_cons_succ]
            refine wpAnyH_ready (rs := [18]) (by kernel_rfl) (by simp) ?_
            refine AllReadyH.cons (o := { dst := some 38, op := Op.call { callee := Callee.value (Operand.func 103), args := #[Operand.tmp 33, Operand.tmp 35, Operand.tmp 37], argTypes := #[30, 32, 9] }, type := 3, pos := "l10_model.go:253", after := _, guard := some (9, false) }) rfl (fun K hK => ?_) AllReadyH.nil
            go_simp
            go_at_call 103
            refine (useSum_isM HZ.out (HV3.out.below hHeld.2.2.2.2.2) (HV5.out.below hHeld.2.2.2.2.2) hb).mono ?_
            rintro e w4 ⟨rfl, b4⟩
            have B4 : Below w3.heap.size w3 w4 := hHeld.2.2.2.2.2.trans (b4.mono hHeld.2.2.2.2.2.size)
            refine hK.out _ _ ?_ (fun hHeld => ?_)
            · exact KS.out _ B4
            clear hK K
            (try simp only [Act.put, List.setIfInBounds_toArray, List.set_cons_zero, List.set_cons_succ])
            refine wpAnyH_take (i := 19) (oi := { dst := some 39, op := Op.binOp BinOp.neq 3 (Operand.tmp 31) (Operand.tmp 38) 3, type := 4, pos := "l10_model.go:253", after := _, guard := some (9, false) }) (v := ?_) rfl (by kernel_rfl) (by kernel_rfl) (by kernel_rfl) (fun _ _ _ h => h) (Or.inl ⟨by rfl, ?_⟩) (by assumption) ?_
            rotate_left
            · (intro w hSw; (try dsimp only at hSw); go_simp; (try with_reducible rfl))
            simp only [Act.put, List.setIfInBounds_toArray, List.set_cons_zero, List.set_cons_succ]
            refine wpAnyH_take (i := 20) (oi := { dst := some 40, op := Op.pick (Operand.tmp 29) (Operand.const (Value.bool true)) (Operand.tmp 39), type := 4, pos := "l10_model.go:253", after := _, guard := none }) (v := ?_) rfl (by kernel_rfl) (by kernel_rfl) (by kernel_rfl) (fun _ _ _ h => h) (Or.inl ⟨by rfl, ?_⟩) (by assumption) ?_
            rotate_left
            · (intro w hSw; (try dsimp only at hSw); go_simp; (try with_reducible rfl))
            simp only [Act.put, List.setIfInBounds_toArray, List.set_cons_zero, List.set_cons_succ]
            refine wpAnyH_done (by kernel_rfl) ?_ _
            go_wp2
            go_ret
            exact ⟨ret_bool (by rw [HF.out]), B2.out.trans ((HA3.out.trans (B4.mono (by omega))).mono z2)⟩
        · have q1 := eqP_no e
          have HF := Lib.hid (uses_no (S := S) (T := T) hlt (by rw [useAt_eq hlt hlt2, decide_eq_false e]; simp))
          obtain ⟨y3, y5, y0, y1, ys, -⟩ := KS.out w3 (Below.refl _ _)
          clear e
          go_wp2_with fail
          rw [HW3.out]
          go_quiet (fail)
          go_wp2
          go_ret
          exact ⟨ret_bool (by rw [HF.out]), B2.out.trans ((HA3.out.trans (below_drewN (Below.refl _ _) _)).mono (by exact z2))⟩
      · have HF := Lib.hid (uses_all (S := S) (T := T) HD.out (k := k) (by omega) HT.out)
        clear hbel
        go_wp2
        go_ret
        exact ⟨ret_bool (by rw [HF.out]), B2.out.trans (HB.out.mono z2)⟩
  · have nd1 : ((U.length : Int) != (S.length : Int)) = true := by simp; omega
    have nd2 : ((U.length : Int) == (S.length : Int)) = false := by simp; omega
    have nd3 : (U.length == S.length) = false := by simp; omega
    have HF := Lib.hid (show usesEqB S U T = false by unfold usesEqB; rw [decide_eq_false hd]; rfl)
    go_enter Tryz.func70, Tryz.ntmps70
    go_wp2
    go_ret
    exact ⟨ret_bool (by rw [HF.out]), (by repeat (first | exact Below.refl _ _ | (refine Below.alloc ?_ (by first | (simp; done) | (simp; omega)) _) | (refine Below.setCell ?_ (by first | (simp; done) | (simp; omega)) _) | (refine Below.drew ?_)))⟩
end Go.Proofs.YtbioljpjpflboaaGreatDoor

/- What has passed, of the program: modelPastsOk. -/
namespace Go.Proofs.YtbioljpjpflboaaGreatDoor
open Go Go.RowKit

theorem nmI_isP {s : ByteArray} (hs : s.size ≤ maxLen) {q : Bool} (h : nameB s.data.toList = q) (w : World) : Calls Tryz.prog 85 #[.string s] w fun e w' => e = .returned (.bool q) ∧ w = w' := by
  subst h
  exact impl_name s w hs
theorem pastAt_in {flo : Int} {P : List PastD} {k : Nat} (h : k < P.length) (h0 : 0 ≤ flo) (hr : flo + k + 1 ≤ 99999) :
    pastAt flo P k = (decide (P[k].1 = flo + k + 1) && (nameB P[k].2.2.1.data.toList && ((decide (P[k].2.2.2 = ⟨#[]⟩) || nameB P[k].2.2.2.data.toList) && signB P[k].2.1))) := by
  rw [pastAt_eq h]
  by_cases e : P[k].1 = flo + k + 1
  · have hi : inB P[k].1 1 99999 = true := by unfold inB; rw [e]; exact decide_eq_true (by omega)
    unfold pastB
    rw [hi, decide_eq_true e]
    cases signB P[k].2.1 <;> cases nameB P[k].2.2.1.data.toList <;> simp
  · rw [decide_eq_false e]
    simp
theorem ltP_yes {g : ByteArray} {l : List UInt8} (e : g = ⟨l.toArray⟩) : g.toList = l ∧ (g.toList == l) = true := by
  subst e
  have h : (⟨l.toArray⟩ : ByteArray).toList = l := by rw [ByteArray.toList_eq]
  exact ⟨h, by rw [h]; simp⟩
set_option maxRecDepth 100000 in
set_option maxHeartbeats 4000000 in
theorem modelPasts_any {v : Value} {m : ModelD} {w : World} (h : VwModel w v m) (hr : 0 ≤ m.rev ∧ m.rev ≤ 99999) (hf : 0 ≤ m.flo ∧ m.flo ≤ m.rev) (hb : (bulkPastS m.pasts : Int) ≤ 1048576) :
    Calls Tryz.prog 71 #[v] w fun e w' => e = .returned (.bool (pastsB m.rev m.flo m.pasts)) ∧ Below w.heap.size w w' := by
  obtain ⟨v3, v4, v5, v6, rfl, -, -, -, h6⟩ := h
  obtain ⟨a, c, rfl, hl, hok⟩ := h6
  have hlen := bulkPastS_len hb
  have HX := Lib.hid hl
  have HK := Lib.hid hok
  clear hl hok
  obtain ⟨rev, uid, flo, sps, uses, ths, P⟩ := m
  simp only at hr hf hlen HX HK ⊢
  have hws : IntKind.i64.wrap (rev - flo) = rev - flo := wrap_small _ (by omega) (by omega)
  by_cases h8 : 8 < (P.length : Int)
  · have HF := Lib.hid (show pastsB rev flo P = false by unfold pastsB; rw [decide_eq_false (show ¬ P.length ≤ 8 by omega)]; simp)
    go_enter Tryz.func71, Tryz.ntmps71
    go_wp2
    go_ret
    exact ⟨ret_bool (by rw [HF.out]), (by repeat (first | exact Below.refl _ _ | (refine Below.alloc ?_ (by first | (simp; done) | (simp; omega)) _) | (refine Below.setCell ?_ (by first | (simp; done) | (simp; omega)) _) | (refine Below.drew ?_)))⟩
  by_cases hd : (P.length : Int) = rev - flo
  · have nd1 : ((P.length : Int) != rev - flo) = false := by rw [hd]; simp
    have nd2 : ((P.length : Int) == rev - flo) = true := by rw [hd]; simp
    have HD := Lib.hid hd
    clear hd
    go_enter Tryz.func71, Tryz.ntmps71
    go_wp2_with fail
    obtain ⟨w2, hA⟩ : ∃ wA, w.alloc (.cells #[.int .i64 rev, .int .i64 uid, .int .i64 flo, v3, v4, v5, .slice a P.length c] 35) = wA := ⟨_, rfl⟩
    have BX := Lib.hid (show Box w2 w.heap.size [.int .i64 rev, .int .i64 uid, .int .i64 flo, v3, v4, v5, .slice a P.length c] by rw [← hA]; exact Box.alloc w _ _)
    have B2 := Lib.hid (show Below w.heap.size w w2 by rw [← hA]; exact below_alloc _ _)
    have HX2 := Lib.hid (HX.out.below (w' := w2) B2.out)
    have z2 := B2.out.size
    rw [hA]
    clear hA HX
    go_loopw [23] (fun i wr => ∃ k : Nat, k ≤ P.length ∧ i = .int .i64 k ∧ (∀ j, j < k → j < P.length → pastAt flo P j = true) ∧ Below w2.heap.size w2 wr) (fun i _ => P.length - (intOf i).toNat)
    case atStart => exact ⟨0, Nat.zero_le _, rfl, fun j h => absurd h (Nat.not_lt_zero _), Below.refl _ _⟩
    case round =>
      obtain ⟨k, hk, rfl, hto, hbel⟩ := hrel
      have HT := Lib.hid hto
      have HB := Lib.hid hbel
      have zb := hbel.size
      have BXr := BX.out.below hbel
      have x2 := (BXr 2 _ rfl).1
      have BXa := fun o => (BXr.below (below_alloc wr o)) 2 _ rfl
      clear hto BXr
      by_cases hlt : k < P.length
      · obtain ⟨bb, ob, rfl, hcb⟩ := HX2.out.2.resolve_left (by intro e; rw [e] at hlt; simp at hlt)
        obtain ⟨c0, c1, c2, c3⟩ := cellsPast hbel hcb k hlt
        have hkI : (k : Int) < (P.length : Int) := by omega
        have hk0 : (0 : Int) ≤ (k : Int) := by omega
        have HOK := Lib.hid (HK.out _ (List.getElem_mem hlt))
        have hwf : flo + (k : Int) + 1 ≤ 99999 := by have := HD.out; omega
        have hpa := pastAt_in hlt hf.1 hwf
        have hw1 : IntKind.i64.wrap (flo + 1) = flo + 1 := wrap_small _ (by omega) (by omega)
        have hw2 : IntKind.i64.wrap (flo + 1 + (k : Int)) = flo + 1 + (k : Int) := wrap_small _ (by omega) (by omega)
        have xa := (BXa (.cells #[.int .i64 P[k].1, .string P[k].2.1, .string P[k].2.2.1, .string P[k].2.2.2] 80)).1
        clear hcb hbel BXa
        by_cases he : P[k].1 = flo + k + 1
        · have n1 : (P[k].1 != flo + 1 + (k : Int)) = false := by rw [he]; simp; omega
          have n2 : (P[k].1 == flo + 1 + (k : Int)) = true := by rw [he]; simp; omega
          rw [decide_eq_true he] at hpa
          clear he
          cases h2 : nameB P[k].2.2.1.data.toList with
          | false =>
            rw [h2] at hpa
            have H2 := Lib.hid h2
            clear h2
            have HF := Lib.hid (pasts_no (rev := rev) (flo := flo) hlt (by rw [hpa, Bool.false_and, Bool.and_false]))
            clear hpa
            go_wp2_with (first | (go_at_call 85; refine (nmI_isP HOK.out.2.1 H2.out _).mono ?_; rintro e w3 ⟨rfl, rfl⟩; have D2 : True := (trivial)))
            go_ret
            exact ⟨ret_bool (by rw [HF.out]), B2.out.trans ((HB.out.alloc HB.out.size _).mono (by omega))⟩
          | true =>
            rw [h2] at hpa
            have H2 := Lib.hid h2
            clear h2
            by_cases hem : P[k].2.2.2 = ⟨#[]⟩
            · obtain ⟨m1, m2⟩ := ltP_yes (l := []) hem
              rw [decide_eq_true hem] at hpa
              clear hem
              cases hg : signB P[k].2.1 with
              | false =>
                obtain ⟨hg1, hg2, hg3⟩ : ¬ P[k].2.1 = ⟨#[43]⟩ ∧ ¬ P[k].2.1 = ⟨#[61]⟩ ∧ ¬ P[k].2.1 = ⟨#[45]⟩ := by simpa [signB] using hg
                obtain ⟨g1, g1'⟩ := ltP_no (l := [43]) hg1
                obtain ⟨g2, g2'⟩ := ltP_no (l := [61]) hg2
                obtain ⟨g3, g3'⟩ := ltP_no (l := [45]) hg3
                have HF := Lib.hid (pasts_no (rev := rev) (flo := flo) hlt (by rw [hpa, hg]; simp))
                clear hpa hg hg1 hg2 hg3
                go_wp2_with (first | (go_at_call 85; refine (nmI_isP HOK.out.2.1 H2.out _).mono ?_; rintro e w3 ⟨rfl, rfl⟩; have D2 : True := (trivial)))
                go_ret
                exact ⟨ret_bool (by rw [HF.out]), B2.out.trans ((HB.out.alloc HB.out.size _).mono (by omega))⟩
              | true =>
                have hgg : P[k].2.1 = ⟨#[43]⟩ ∨ P[k].2.1 = ⟨#[61]⟩ ∨ P[k].2.1 = ⟨#[45]⟩ := by simpa [signB] using hg
                have HN := Lib.hid (show ∀ j, j < k + 1 → j < P.length → pastAt flo P j = true from fun j h1 h2 => by
                  by_cases e : j < k
                  · exact HT.out j e h2
                  · obtain rfl : j = k := by omega
                    rw [hpa, hg, Bool.true_or]; simp)
                clear hpa hg
                rcases hgg with hgg | hgg | hgg
                · obtain ⟨g1, g1'⟩ := ltP_yes (l := [43]) hgg
                  clear hgg
                  go_wp2_with (first | (go_at_call 85; refine (nmI_isP HOK.out.2.1 H2.out _).mono ?_; rintro e w3 ⟨rfl, rfl⟩; have D2 : True := (trivial)))
                  go_roundw
                  case rel => exact ⟨k + 1, by omega, by go_num, HN.out, HB.out.alloc HB.out.size _⟩
                  case measure => simp [intOf]; omega
                · obtain ⟨g1, g1'⟩ := ltP_yes (l := [61]) hgg
                  clear hgg
                  go_wp2_with (first | (go_at_call 85; refine (nmI_isP HOK.out.2.1 H2.out _).mono ?_; rintro e w3 ⟨rfl, rfl⟩; have D2 : True := (trivial)))
                  go_roundw
                  case rel => exact ⟨k + 1, by omega, by go_num, HN.out, HB.out.alloc HB.out.size _⟩
                  case measure => simp [intOf]; omega
                · obtain ⟨g1, g1'⟩ := ltP_yes (l := [45]) hgg
                  clear hgg
                  go_wp2_with (first | (go_at_call 85; refine (nmI_isP HOK.out.2.1 H2.out _).mono ?_; rintro e w3 ⟨rfl, rfl⟩; have D2 : True := (trivial)))
                  go_roundw
                  case rel => exact ⟨k + 1, by omega, by go_num, HN.out, HB.out.alloc HB.out.size _⟩
                  case measure => simp [intOf]; omega
            · obtain ⟨m1, m2⟩ := emP hem
              rw [decide_eq_false hem] at hpa
              clear hem
              cases h3 : nameB P[k].2.2.2.data.toList with
              | false =>
                rw [h3] at hpa
                have H3 := Lib.hid h3
                clear h3
                have HF := Lib.hid (pasts_no (rev := rev) (flo := flo) hlt (by rw [hpa, Bool.or_false, Bool.false_and, Bool.and_false, Bool.and_false]))
                clear hpa
                go_wp2_with (first | (go_at_call 85; have _d := D2; refine (nmI_isP HOK.out.2.2 H3.out _).mono ?_; rintro e w3 ⟨rfl, rfl⟩) | (go_at_call 85; refine (nmI_isP HOK.out.2.1 H2.out _).mono ?_; rintro e w3 ⟨rfl, rfl⟩; have D2 : True := (trivial)))
                go_ret
                exact ⟨ret_bool (by rw [HF.out]), B2.out.trans ((HB.out.alloc HB.out.size _).mono (by omega))⟩
              | true =>
                rw [h3] at hpa
                have H3 := Lib.hid h3
                clear h3
                cases hg : signB P[k].2.1 with
                | false =>
                  obtain ⟨hg1, hg2, hg3⟩ : ¬ P[k].2.1 = ⟨#[43]⟩ ∧ ¬ P[k].2.1 = ⟨#[61]⟩ ∧ ¬ P[k].2.1 = ⟨#[45]⟩ := by simpa [signB] using hg
                  obtain ⟨g1, g1'⟩ := ltP_no (l := [43]) hg1
                  obtain ⟨g2, g2'⟩ := ltP_no (l := [61]) hg2
                  obtain ⟨g3, g3'⟩ := ltP_no (l := [45]) hg3
                  have HF := Lib.hid (pasts_no (rev := rev) (flo := flo) hlt (by rw [hpa, hg]; simp))
                  clear hpa hg hg1 hg2 hg3
                  go_wp2_with (first | (go_at_call 85; have _d := D2; refine (nmI_isP HOK.out.2.2 H3.out _).mono ?_; rintro e w3 ⟨rfl, rfl⟩) | (go_at_call 85; refine (nmI_isP HOK.out.2.1 H2.out _).mono ?_; rintro e w3 ⟨rfl, rfl⟩; have D2 : True := (trivial)))
                  go_ret
                  exact ⟨ret_bool (by rw [HF.out]), B2.out.trans ((HB.out.alloc HB.out.size _).mono (by omega))⟩
                | true =>
                  have hgg : P[k].2.1 = ⟨#[43]⟩ ∨ P[k].2.1 = ⟨#[61]⟩ ∨ P[k].2.1 = ⟨#[45]⟩ := by simpa [signB] using hg
                  have HN := Lib.hid (show ∀ j, j < k + 1 → j < P.length → pastAt flo P j = true from fun j h1 h2 => by
                    by_cases e : j < k
                    · exact HT.out j e h2
                    · obtain rfl : j = k := by omega
                      rw [hpa, hg, Bool.or_true]; simp)
                  clear hpa hg
                  rcases hgg with hgg | hgg | hgg
                  · obtain ⟨g1, g1'⟩ := ltP_yes (l := [43]) hgg
                    clear hgg
                    go_wp2_with (first | (go_at_call 85; have _d := D2; refine (nmI_isP HOK.out.2.2 H3.out _).mono ?_; rintro e w3 ⟨rfl, rfl⟩) | (go_at_call 85; refine (nmI_isP HOK.out.2.1 H2.out _).mono ?_; rintro e w3 ⟨rfl, rfl⟩; have D2 : True := (trivial)))
                    go_roundw
                    case rel => exact ⟨k + 1, by omega, by go_num, HN.out, HB.out.alloc HB.out.size _⟩
                    case measure => simp [intOf]; omega
                  · obtain ⟨g1, g1'⟩ := ltP_yes (l := [61]) hgg
                    clear hgg
                    go_wp2_with (first | (go_at_call 85; have _d := D2; refine (nmI_isP HOK.out.2.2 H3.out _).mono ?_; rintro e w3 ⟨rfl, rfl⟩) | (go_at_call 85; refine (nmI_isP HOK.out.2.1 H2.out _).mono ?_; rintro e w3 ⟨rfl, rfl⟩; have D2 : True := (trivial)))
                    go_roundw
                    case rel => exact ⟨k + 1, by omega, by go_num, HN.out, HB.out.alloc HB.out.size _⟩
                    case measure => simp [intOf]; omega
                  · obtain ⟨g1, g1'⟩ := ltP_yes (l := [45]) hgg
                    clear hgg
                    go_wp2_with (first | (go_at_call 85; have _d := D2; refine (nmI_isP HOK.out.2.2 H3.out _).mono ?_; rintro e w3 ⟨rfl, rfl⟩) | (go_at_call 85; refine (nmI_isP HOK.out.2.1 H2.out _).mono ?_; rintro e w3 ⟨rfl, rfl⟩; have D2 : True := (trivial)))
                    go_roundw
                    case rel => exact ⟨k + 1, by omega, by go_num, HN.out, HB.out.alloc HB.out.size _⟩
                    case measure => simp [intOf]; omega
        · have n1 : (P[k].1 != flo + 1 + (k : Int)) = true := by simp; omega
          have n2 : (P[k].1 == flo + 1 + (k : Int)) = false := by simp; omega
          rw [decide_eq_false he] at hpa
          have HF := Lib.hid (pasts_no (rev := rev) (flo := flo) hlt (by rw [hpa, Bool.false_and]))
          clear hpa
          go_wp2
          go_ret
          exact ⟨ret_bool (by rw [HF.out]), B2.out.trans ((HB.out.alloc HB.out.size _).mono (by omega))⟩
      · have HF := Lib.hid (show pastsB rev flo P = true by rw [pasts_all (k := k) (by omega) HT.out, decide_eq_true (show flo + (P.length : Int) = rev by have := HD.out; omega), decide_eq_true (show P.length ≤ 8 by omega)]; rfl)
        clear hbel
        go_wp2
        go_ret
        exact ⟨ret_bool (by rw [HF.out]), B2.out.trans (HB.out.mono (by omega))⟩
  · have nd1 : ((P.length : Int) != rev - flo) = true := by simpa using hd
    have nd2 : ((P.length : Int) == rev - flo) = false := by simpa using hd
    have HF := Lib.hid (show pastsB rev flo P = false by unfold pastsB; rw [decide_eq_false (show ¬ flo + (P.length : Int) = rev by omega)]; simp)
    go_enter Tryz.func71, Tryz.ntmps71
    go_wp2
    go_ret
    exact ⟨ret_bool (by rw [HF.out]), (by repeat (first | exact Below.refl _ _ | (refine Below.alloc ?_ (by first | (simp; done) | (simp; omega)) _) | (refine Below.setCell ?_ (by first | (simp; done) | (simp; omega)) _) | (refine Below.drew ?_)))⟩
end Go.Proofs.YtbioljpjpflboaaGreatDoor

/- Which thing stands ahead of which, of the program: thingOrder. -/
namespace Go.Proofs.YtbioljpjpflboaaGreatDoor
open Go Go.RowKit

theorem cb_lt : ∀ (a b : List UInt8), (Lib.compareBytes a b < 0) = (Op.bytesLess a b = true) := by
  intro a
  induction a with
  | nil => intro b; cases b <;> simp [Lib.compareBytes, Op.bytesLess]
  | cons x xs ih =>
    intro b
    cases b with
    | nil => simp [Lib.compareBytes, Op.bytesLess]
    | cons y ys =>
      simp only [Lib.compareBytes, Op.bytesLess]
      by_cases h : x < y
      · simp [h]
      · by_cases h2 : y < x
        · have hn : ¬ x = y := fun e => by rw [e] at h2; exact absurd h2 (UInt8.lt_irrefl y)
          simp [h, h2, hn]
        · have : x = y := by
            apply UInt8.toNat_inj.1
            have h3 := h; have h4 := h2
            rw [UInt8.lt_iff_toNat_lt] at h3 h4
            omega
          simp [this, ih]
theorem cb_ltS (a b : ByteArray) : (Lib.compareBytes a.data.toList b.data.toList < 0) = (ltS a b = true) := by
  rw [cb_lt, ← ByteArray.toList_eq, ← ByteArray.toList_eq]; rfl
set_option maxRecDepth 100000 in
set_option maxHeartbeats 1000000 in
theorem thingOrder_any (pa pb : Option Addr) (ca cb : Nat) (a b : ThingD) (w : World) :
    Calls Tryz.prog 102 #[thingV pa ca a, thingV pb cb b] w fun e w' => ∃ z : Int, e = .returned (.int .i64 z) ∧ decide (0 ≤ z) = (!lessTB a b) ∧ Below w.heap.size w w' := by
  obtain ⟨sp, nm, uid, rev, gone, marks, body⟩ := a
  obtain ⟨sp2, nm2, uid2, rev2, gone2, marks2, body2⟩ := b
  unfold thingV
  dsimp only
  have HB := Lib.hid (show lessTB ⟨sp, nm, uid, rev, gone, marks, body⟩ ⟨sp2, nm2, uid2, rev2, gone2, marks2, body2⟩ = (ltS sp sp2 || (decide (sp = sp2) && ltS nm nm2)) from rfl)
  by_cases e : sp = sp2
  · have q2 : (sp.toList == sp2.toList) = true := by rw [e]; simp
    obtain ⟨z, hz⟩ : ∃ z, Lib.compareBytes nm.data.toList nm2.data.toList = z := ⟨_, rfl⟩
    have HF := Lib.hid (show decide (0 ≤ z) = (!lessTB ⟨sp, nm, uid, rev, gone, marks, body⟩ ⟨sp2, nm2, uid2, rev2, gone2, marks2, body2⟩) by
      have h := cb_ltS nm nm2
      rw [hz] at h
      rw [HB.out, decide_eq_true e, e, ltS_irrefl]
      cases h1 : ltS nm nm2 with
      | true => rw [h1] at h; simp at h ⊢; exact h
      | false => rw [h1] at h; simp at h ⊢; exact h)
    have HZ := Lib.hid hz
    clear e hz
    go_enter Tryz.func102, Tryz.ntmps102
    go_wp2_with fail
    refine (Tryz.strings_Compare _ _ _).mono ?_
    rintro e w1 ⟨rfl, rfl⟩
    rw [HZ.out]
    go_wp2
    go_ret
    exact ⟨z, rfl, HF.out, (by repeat (first | exact Below.refl _ _ | (refine Below.alloc ?_ (by first | (simp; done) | (simp; omega)) _) | (refine Below.setCell ?_ (by first | (simp; done) | (simp; omega)) _) | (refine Below.drew ?_)))⟩
  · have q2 := eqP_no e
    obtain ⟨z, hz⟩ : ∃ z, Lib.compareBytes sp.data.toList sp2.data.toList = z := ⟨_, rfl⟩
    have HF := Lib.hid (show decide (0 ≤ z) = (!lessTB ⟨sp, nm, uid, rev, gone, marks, body⟩ ⟨sp2, nm2, uid2, rev2, gone2, marks2, body2⟩) by
      have h := cb_ltS sp sp2
      rw [hz] at h
      rw [HB.out, decide_eq_false e]
      cases h1 : ltS sp sp2 with
      | true => rw [h1] at h; simp at h ⊢; exact h
      | false => rw [h1] at h; simp at h ⊢; exact h)
    have HZ := Lib.hid hz
    clear e hz
    go_enter Tryz.func102, Tryz.ntmps102
    go_wp2_with fail
    refine (Tryz.strings_Compare _ _ _).mono ?_
    rintro e w1 ⟨rfl, rfl⟩
    rw [HZ.out]
    go_wp2
    go_ret
    exact ⟨z, rfl, HF.out, (by repeat (first | exact Below.refl _ _ | (refine Below.alloc ?_ (by first | (simp; done) | (simp; omega)) _) | (refine Below.setCell ?_ (by first | (simp; done) | (simp; omega)) _) | (refine Below.drew ?_)))⟩
end Go.Proofs.YtbioljpjpflboaaGreatDoor

/- slices.Insert of one number into a list of numbers of one's own; lists that ascend. -/
namespace Go.Proofs.YtbioljpjpflboaaGreatDoor
open Go Go.RowKit

def intsV (l : List Int) : List Value := l.map (.int .i64)
theorem intsV_len (l : List Int) : (intsV l).length = l.length := by simp [intsV]
def insL (l : List Int) (i : Nat) (x : Int) : List Int := l.take i ++ x :: l.drop i
theorem insL_len {l : List Int} {i : Nat} (x : Int) (h : i ≤ l.length) : (insL l i x).length = l.length + 1 := by
  simp [insL]; omega
theorem insL_v (l : List Int) (i : Nat) (x : Int) : intsV (insL l i x) = (intsV l).take i ++ (.int .i64 x) :: (intsV l).drop i := by
  simp [insL, intsV]
/-- where a number stands in a list that ascends -/
def atL (l : List Int) (x : Int) : Nat := l.countP (· < x)
theorem atL_le (l : List Int) (x : Int) : atL l x ≤ l.length := List.countP_le_length
theorem insL_mem {l : List Int} {i : Nat} {x y : Int} : y ∈ insL l i x ↔ y = x ∨ y ∈ l := by
  unfold insL
  conv => rhs; rw [← List.take_append_drop i l]
  simp only [List.mem_append, List.mem_cons]
  constructor
  · rintro (h | h | h)
    · exact .inr (.inl h)
    · exact .inl h
    · exact .inr (.inr h)
  · rintro (h | h | h)
    · exact .inr (.inl h)
    · exact .inl h
    · exact .inr (.inr h)
theorem insL_asc : ∀ (l : List Int) (x : Int), l.Pairwise (· < ·) → x ∉ l → (insL l (atL l x) x).Pairwise (· < ·)
  | [], x, _, _ => by simp [insL]
  | a :: r, x, h, hx => by
    rw [List.pairwise_cons] at h
    have ha : a ≠ x := fun e => hx (by rw [e]; simp)
    have hr : x ∉ r := fun e => hx (by simp [e])
    by_cases hlt : a < x
    · have e : atL (a :: r) x = atL r x + 1 := by unfold atL; rw [List.countP_cons, if_pos (by simpa using hlt)]
      have e2 : insL (a :: r) (atL (a :: r) x) x = a :: insL r (atL r x) x := by rw [e]; rfl
      rw [e2, List.pairwise_cons]
      refine ⟨fun b hb => ?_, insL_asc r x h.2 hr⟩
      rcases insL_mem.1 hb with rfl | hb
      · exact hlt
      · exact h.1 b hb
    · have hgt : x < a := by omega
      have e : atL (a :: r) x = 0 := by
        unfold atL
        rw [List.countP_eq_zero]
        intro b hb
        rcases List.mem_cons.1 hb with rfl | hb
        · simpa using hlt
        · have := h.1 b hb
          simp; omega
      rw [e]
      show (x :: a :: r).Pairwise (· < ·)
      rw [List.pairwise_cons, List.pairwise_cons]
      refine ⟨fun b hb => ?_, h.1, h.2⟩
      rcases List.mem_cons.1 hb with rfl | hb
      · exact hgt
      · have := h.1 b hb
        omega

theorem set_row {g : Nat} {e : TypeId} {fz : Nat × Nat} : ∀ (vs : List Value) (o : Nat) (w : World) (cur : Array Value), w.heap[g]? = some (.cells cur e fz) → o + vs.length ≤ cur.size →
    ∃ cur' : Array Value, (w.setCells g o vs).heap[g]? = some (.cells cur' e fz) ∧ cur'.size = cur.size ∧ cur'.toList = cur.toList.take o ++ (vs ++ cur.toList.drop (o + vs.length))
  | [], o, w, cur, h, _ => ⟨cur, h, rfl, by simp⟩
  | v :: r, o, w, cur, h, hl => by
    rw [List.length_cons] at hl
    obtain ⟨c2, h2, h3, h4⟩ := set_row (g := g) (e := e) (fz := fz) r (o + 1) (w.setCell ⟨g, o, none⟩ v) (cur.setIfInBounds o v) (by simp [World.setCell, Array.getElem?_modify, h]) (by rw [Array.size_setIfInBounds]; omega)
    refine ⟨c2, h2, by rw [h3, Array.size_setIfInBounds], ?_⟩
    have hol : o < cur.toList.length := by rw [Array.length_toList]; omega
    have e0 : cur.toList.set o v = cur.toList.take o ++ v :: cur.toList.drop (o + 1) := by rw [List.set_eq_take_append_cons_drop, if_pos hol]
    have e1 : (cur.toList.take o).length = o := by rw [List.length_take]; omega
    have e2 : (cur.toList.take o ++ v :: cur.toList.drop (o + 1)).take (o + 1) = cur.toList.take o ++ [v] := by
      rw [List.take_append, e1, List.take_of_length_le (by omega), show o + 1 - o = 1 by omega]
      rfl
    have e3 : (cur.toList.take o ++ v :: cur.toList.drop (o + 1)).drop (o + 1 + r.length) = cur.toList.drop (o + (r.length + 1)) := by
      rw [List.drop_append, e1, List.drop_of_length_le (by omega), show o + 1 + r.length - o = r.length + 1 by omega, List.drop_succ_cons, List.drop_drop, List.nil_append]
      congr 1; omega
    rw [h4, Array.toList_setIfInBounds, e0, e2, e3, List.append_assoc]
    rfl
theorem below_cells {B g : Nat} {a : World} (hb : B ≤ g) : ∀ (vs : List Value) (o : Nat) (w : World), Below B a w → Below B a (w.setCells g o vs)
  | [], _, _, h => h
  | v :: r, o, w, h => below_cells hb r (o + 1) _ (h.setCell (by exact hb) v)
theorem own_of {w : World} {base : Nat} {e : TypeId} {g n c : Nat} {cur : Array Value} {xs : List Value} (h : w.heap[g]? = some (.cells cur e (0, 0))) (hb : base ≤ g) (hn : n ≤ c) (hc : c ≤ maxLen) (hs : cur.size = c) (hx : cur.toList.take n = xs) :
    w.ownsRow base e 1 (.slice (some ⟨g, 0, none⟩) n c) n xs := by
  refine ⟨?_, .inr ⟨g, c, cur, rfl, hb, h, hn, hc, by omega, by rw [Nat.mul_one]; exact hx⟩⟩
  rw [← hx, List.length_take, Array.length_toList]; omega
theorem cell_heap {w : World} {g : Nat} {e : TypeId} {fz : Nat × Nat} {cur : Array Value} (h : w.heap[g]? = some (.cells cur e fz)) (j : Nat) : w.cell? ⟨g, j, none⟩ = cur[j]? := by
  simp [World.cell?, h]
theorem frozen_heap {w : World} {g : Nat} {e : TypeId} {cur : Array Value} (h : w.heap[g]? = some (.cells cur e (0, 0))) (j : Nat) : w.frozen? ⟨g, j, none⟩ = false := by
  simp [World.frozen?, h]
theorem ins_take {xs rest : List Value} {x : Value} {i n : Nat} (hn : xs.length = n) (hi : i ≤ n) : (xs.take i ++ (x :: (xs.drop i ++ rest))).take (n + 1) = xs.take i ++ x :: xs.drop i := by
  have e : xs.take i ++ (x :: (xs.drop i ++ rest)) = (xs.take i ++ x :: xs.drop i) ++ rest := by simp
  rw [e, List.take_append_of_le_length (by simp; omega), List.take_of_length_le (by simp; omega)]

theorem kept_cells {S : Nat → Prop} {g : Nat} {a : World} (hb : S g) : ∀ (vs : List Value) (o : Nat) (w : World), KeptOut S a w → KeptOut S a (w.setCells g o vs)
  | [], _, _, h => h
  | v :: r, o, _, h => kept_cells hb r (o + 1) _ (h.setCell (p := ⟨g, o, none⟩) hb v)
def InsPost (base n i : Nat) (l : List Int) (x : Int) (v : Value) (w : World) (e : Ending) (w' : World) : Prop := ∃ v', e = .returned v' ∧ w'.ownsRow base 3 1 v' (n + 1) (intsV (insL l i x)) ∧ KeptOut (fun b => v.ownBlock = some b) w w'
set_option maxHeartbeats 1000000 in
theorem insInt_any (base vb : Nat) (v : Value) (n i : Nat) (l : List Int) (x : Int) (w : World) (hb : base ≤ w.heap.size) (hn : l.length = n) (hi : i ≤ n) (hbig : n ≤ 1000000) (hown : w.ownsRow base 3 1 v n (intsV l))
    (hv : w.heap[vb]? = some (.cells #[.int .i64 x] 3 (0, 0))) (hne : v.ownBlock ≠ some vb) :
    Calls Tryz.prog 119 #[v, .int .i64 i, .slice (some ⟨vb, 0, none⟩) 1 1] w (InsPost base n i l x v w) := by
  have hvs : ∀ j u, [Value.int .i64 x][j]? = some u → w.cell? ⟨vb, 0 + j, none⟩ = some u := fun j u h => by
    rw [Nat.zero_add, cell_heap hv]; simpa using h
  have h1v : ∀ u ∈ [Value.int .i64 x], u.oneCell' = true := fun u hu => by
    rw [List.mem_singleton.1 hu]; rfl
  have h1c : ∀ u ∈ intsV l, u.oneCell' = true := fun u hu => by
    obtain ⟨y, _, rfl⟩ := List.mem_map.1 hu; rfl
  have hvl : (intsV l).length = n := by rw [intsV_len, hn]
  rcases hown.2 with ⟨rfl, h0⟩ | ⟨g, cap, cur, rfl, hbg, hg, hnc, hcm, hcs, hct⟩
  · subst h0
    have hi0 : i = 0 := by omega
    subst hi0
    have hl0 : l = [] := List.eq_nil_of_length_eq_zero hn
    subst hl0
    refine (Tryz.slices_Insert_int_end_grow none 0 0 vb 0 1 1 [] [.int .i64 x] w (by omega) (by omega) (by omega) (by omega) rfl rfl (fun _ => rfl) (fun a h => by cases h) hvs h1v).mono ?_
    rintro e w' ⟨rfl, rfl⟩
    have hge := grownCap_ge w (0 + 1) 0 3
    have hle := grownCap_le_maxLen w (0 + 1) 0 3 (by unfold maxLen; omega)
    obtain ⟨G, hG⟩ : ∃ G, grownCap w (0 + 1) 0 3 = G := ⟨_, rfl⟩
    rw [hG] at hge hle ⊢
    refine ⟨_, rfl, own_of (heap_alloc_new _ _) hb hge hle ?_ (by rw [Array.toList_append, List.take_append_of_le_length (by simp)]; rfl), KeptOut.of_below ((Below.refl _ w).drew.alloc (Nat.le_refl _) _)⟩
    rw [Array.size_append, size_zeroCells]
    show 1 + (G - (0 + 1)) * 1 = G
    omega
  · rw [Nat.mul_one] at hcs hct
    have hgs : g < w.heap.size := (Array.getElem?_eq_some_iff.1 hg).1
    have hcell : ∀ j u, (intsV l)[j]? = some u → w.cell? ⟨g, 0 + j, none⟩ = some u := fun j u h => by
      rw [Nat.zero_add, cell_heap hg, ← h, ← hct, List.getElem?_take, if_pos (by have := (List.getElem?_eq_some_iff.1 h).1; omega), Array.getElem?_toList]
    have hsome : ∀ j, j < cap → (w.cell? ⟨g, j, none⟩).isSome = true := fun j hj => by
      rw [cell_heap hg, Array.getElem?_eq_getElem (by omega)]; rfl
    have hng : vb ≠ g := fun e => hne (by rw [e]; rfl)
    by_cases hin : i = n
    · subst hin
      have eI : intsV (insL l i x) = intsV l ++ [.int .i64 x] := by rw [insL_v, List.take_of_length_le (by omega), List.drop_of_length_le (by omega)]
      by_cases hroom : i + 1 ≤ cap
      · refine (Tryz.slices_Insert_int_end_room g 0 i cap vb 0 1 1 [.int .i64 x] w (by omega) hroom (by unfold maxLen at hcm; omega) rfl (fun j hj => hsome _ (by omega)) (fun j hj => frozen_heap hg _) hvs h1v).mono ?_
        rintro e w' ⟨rfl, rfl⟩
        obtain ⟨c2, h2, h3, h4⟩ := set_row [Value.int .i64 x] (0 + i) w cur hg (by simp; omega)
        refine ⟨_, rfl, own_of h2 hbg hroom hcm (by omega) ?_, kept_cells (S := fun b => (Value.slice (some ⟨g, 0, none⟩) i cap).ownBlock = some b) rfl _ _ _ (KeptOut.refl _ _)⟩
        rw [h4, Nat.zero_add, hct, eI, ← List.append_assoc, List.take_append_of_le_length (by simp; omega), List.take_of_length_le (by simp; omega)]
      · refine (Tryz.slices_Insert_int_end_grow (some ⟨g, 0, none⟩) i cap vb 0 1 1 (intsV l) [.int .i64 x] w (by omega) hnc (by omega) (by omega) hvl rfl (fun h => by cases h) (fun a h j u hj => by cases h; rw [Addr.add_lit]; exact hcell j u hj) hvs h1v).mono ?_
        rintro e w' ⟨rfl, rfl⟩
        have hge := grownCap_ge w (i + 1) cap 3
        have hle := grownCap_le_maxLen w (i + 1) cap 3 (by unfold maxLen; omega)
        refine ⟨_, rfl, own_of (heap_alloc_new _ _) hb hge hle ?_ ?_, KeptOut.of_below ((Below.refl _ w).drew.alloc (Nat.le_refl _) _)⟩
        · rw [Array.size_append, size_zeroCells]
          simp [Value.cells, hvl]
          omega
        · rw [eI, Array.toList_append, List.take_append_of_le_length (by simp; omega), List.take_of_length_le (by simp; omega)]
    · have hlt : i < n := by omega
      have hdl : ((intsV l).drop i).length = n - i := by rw [List.length_drop, hvl]
      by_cases hroom : n + 1 ≤ cap
      · refine (Tryz.slices_Insert_int_shift g 0 n cap i vb 0 1 1 (intsV l) [.int .i64 x] w hlt (by omega) hroom (by unfold maxLen at hcm; omega) hng hvl rfl hcell (fun j hj => hsome _ (by omega)) (fun j hj => frozen_heap hg _) hvs h1c h1v
          3 3 1 cap (by simp [World.shape?, hv]) (by simp [World.shape?, hg, hcs]) (by omega) (frozen_heap hv _) (frozen_heap hv _)).mono ?_
        rintro e w' ⟨rfl, rfl⟩
        obtain ⟨c2, h2, h3, h4⟩ := set_row ((intsV l).drop i) (0 + (i + 1)) w.drew cur hg (by rw [hdl]; omega)
        obtain ⟨c3, h5, h6, h7⟩ := set_row [Value.int .i64 x] (0 + i) _ c2 h2 (by simp; omega)
        refine ⟨_, rfl, own_of h5 hbg hroom hcm (by omega) ?_, kept_cells (S := fun b => (Value.slice (some ⟨g, 0, none⟩) n cap).ownBlock = some b) rfl _ _ _ (kept_cells (S := fun b => (Value.slice (some ⟨g, 0, none⟩) n cap).ownBlock = some b) rfl _ _ _ (KeptOut.of_below (Below.refl _ w).drew))⟩
        rw [insL_v, h7, h4]
        simp only [Nat.zero_add, List.length_singleton]
        have ei : (cur.toList.take (i + 1)).length = i + 1 := by rw [List.length_take, Array.length_toList]; omega
        have e1 : (cur.toList.take (i + 1) ++ ((intsV l).drop i ++ cur.toList.drop (i + 1 + ((intsV l).drop i).length))).take i = (intsV l).take i := by
          rw [List.take_append_of_le_length (by omega), List.take_take, ← hct, List.take_take]
          congr 1; omega
        have e2 : (cur.toList.take (i + 1) ++ ((intsV l).drop i ++ cur.toList.drop (i + 1 + ((intsV l).drop i).length))).drop (i + 1) = (intsV l).drop i ++ cur.toList.drop (i + 1 + ((intsV l).drop i).length) := by
          rw [List.drop_append_of_le_length (by omega), List.drop_of_length_le (by omega), List.nil_append]
        rw [e1, e2]
        exact ins_take hvl hi
      · refine (Tryz.slices_Insert_int_grow g 0 n cap i vb 0 1 1 (intsV l) [.int .i64 x] w hlt (by omega) hnc (by omega) (by omega) hvl rfl hcell hvs h1c h1v).mono ?_
        rintro e w' ⟨rfl, rfl⟩
        obtain ⟨G, hG⟩ : ∃ G, grownCap w (n + 1) cap 3 = G := ⟨_, rfl⟩
        have hge := grownCap_ge w (n + 1) cap 3
        have hle := grownCap_le_maxLen w (n + 1) cap 3 (by unfold maxLen; omega)
        rw [hG] at hge hle ⊢
        obtain ⟨c1, hc1⟩ : ∃ c1, (((intsV l).take i).toArray ++ Builtin.zeroCells (Value.int .i64 0).cells (n + 1 - i) ++ Builtin.zeroCells (Value.int .i64 0).cells (G - (n + 1))) = c1 := ⟨_, rfl⟩
        have hs1 : c1.size = G := by
          rw [← hc1, Array.size_append, Array.size_append, size_zeroCells, size_zeroCells]
          simp [Value.cells, hvl]
          omega
        have ht1 : c1.toList.take i = (intsV l).take i := by
          rw [← hc1, Array.toList_append, Array.toList_append, List.append_assoc, List.take_append_of_le_length (by simp [hvl]; omega), List.take_of_length_le (by simp; omega)]
        rw [hc1]
        have h1 : (w.alloc (.cells c1 3)).drew.heap[w.heap.size]? = some (.cells c1 3 (0, 0)) := heap_alloc_new w _
        obtain ⟨c2, h2, h3, h4⟩ := set_row [Value.int .i64 x] i _ c1 h1 (by simp; omega)
        have b2 := below_cells (Nat.le_refl w.heap.size) [Value.int .i64 x] i _ ((Below.refl w.heap.size w).alloc (Nat.le_refl _) (.cells c1 3)).drew
        obtain ⟨W2, hW2⟩ : ∃ W2, (w.alloc (.cells c1 3)).drew.setCells w.heap.size i [Value.int .i64 x] = W2 := ⟨_, rfl⟩
        rw [hW2] at h2 b2 ⊢
        obtain ⟨c3, h5, h6, h7⟩ := set_row ((intsV l).drop i) (i + 1) W2.drew c2 h2 (by rw [hdl]; omega)
        refine ⟨_, rfl, own_of h5 hb hge hle (by omega) ?_, KeptOut.of_below (below_cells (Nat.le_refl _) _ _ _ b2.drew)⟩
        have e1 : c2.toList.take (i + 1) = (intsV l).take i ++ [.int .i64 x] := by
          rw [h4, ht1, ← List.append_assoc, List.take_append_of_le_length (by simp [hvl]; omega), List.take_of_length_le (by simp; omega)]
        rw [h7, e1, insL_v, List.append_assoc]
        exact ins_take hvl hi
end Go.Proofs.YtbioljpjpflboaaGreatDoor

/- A set of numbers in order, of the program: put. -/
namespace Go.Proofs.YtbioljpjpflboaaGreatDoor
open Go Go.RowKit

theorem below_dN {B : Nat} {a w : World} (h : Below B a w) (n : Nat) : Below B a (w.drewN n) := h.trans ⟨rfl, rfl, rfl, Nat.le_refl _, fun _ _ => rfl⟩
def PutU (r : Nat) (v : Value) (l : List Int) (x : Int) (w : World) (e : Ending) (w' : World) : Prop := e = .returned (.bool (!l.contains x)) ∧ ∃ v' l', Boxed w' r 127 v' ∧ w'.ownsRow (r + 1) 3 1 v' l'.length (intsV l') ∧ l'.Pairwise (· < ·) ∧ (∀ y, y ∈ l' ↔ y = x ∨ y ∈ l) ∧ l'.length ≤ l.length + 1 ∧ KeptOut (fun b => b = r ∨ v.ownBlock = some b) w w'
set_option maxRecDepth 100000 in
set_option maxHeartbeats 1000000 in
theorem putU_any (r : Nat) (v : Value) (l : List Int) (x : Int) (w : World) (hr : Boxed w r 127 v) (hown : w.ownsRow (r + 1) 3 1 v l.length (intsV l)) (hl : l.length ≤ 1000) (hasc : l.Pairwise (· < ·)) :
    Calls Tryz.prog 101 #[.pointer (some ⟨r, 0, none⟩), .int .i64 x] w (PutU r v l x w) := by
  have cb := hr.cell
  have fb := hr.frozen
  have HR := Lib.hid hr
  have HO := Lib.hid hown
  have HA := Lib.hid hasc
  obtain ⟨a, c, rfl⟩ := own_shape hown
  have hs : ∀ {m : Nat}, l.length = m → ∀ {k : Nat}, atL l x = k → ∀ {d : Bool}, l.contains x = d → Calls Tryz.prog 118 #[.slice a m c, .int .i64 x] w fun e w' => e = .returned (.tuple #[.int .i64 k, .bool d]) ∧ ∃ q, w' = w.drewN q := by
    intro m hm k hk d hd
    subst hm hk hd
    rcases hown.2 with ⟨e1, h0⟩ | ⟨g, cap, cur, e1, hbg, hg, hnc, hcm, hcs, hct⟩
    · have hl0 : l = [] := List.eq_nil_of_length_eq_zero h0
      subst hl0
      refine (Tryz.slices_BinarySearch_int_empty a c x w).mono ?_
      rintro e w' ⟨rfl, rfl⟩
      exact ⟨rfl, 0, rfl⟩
    · cases e1
      rw [Nat.mul_one] at hct
      have h := Tryz.slices_BinarySearch_int g 0 l.length c l x w (Nat.le_refl _) (by omega) (fun j hj => by
        rw [Nat.zero_add, cell_heap hg, ← Array.getElem?_toList]
        have h1 : (intsV l)[j]? = some (.int .i64 (l.getD j 0)) := by
          rw [List.getD_eq_getElem?_getD, List.getElem?_eq_getElem hj]
          simp [intsV, hj]
        rw [← h1, ← hct, List.getElem?_take, if_pos hj]) (by rw [List.take_length]; exact hasc.imp (fun h => by omega))
      rw [List.take_length] at h
      exact h
  obtain ⟨n, hn⟩ : ∃ n, l.length = n := ⟨_, rfl⟩
  obtain ⟨k, hk⟩ : ∃ k, atL l x = k := ⟨_, rfl⟩
  obtain ⟨d, hd⟩ : ∃ d, l.contains x = d := ⟨_, rfl⟩
  have HS := Lib.hid (hs hn hk hd)
  have hkn : k ≤ n := by rw [← hk, ← hn]; exact atL_le l x
  rw [hn] at cb hl
  have HN := Lib.hid hn
  have HK := Lib.hid hk
  have HD := Lib.hid hd
  clear hr hown hasc hs hn hk hd
  go_enter Tryz.func101, Tryz.ntmps101
  go_wp2_with fail
  refine HS.out.mono ?_
  rintro e w1' ⟨rfl, q, hq⟩
  subst hq
  obtain ⟨w1, hW1⟩ : ∃ w1, w.drewN q = w1 := ⟨_, rfl⟩
  have b1 : Below w.heap.size w w1 := by rw [← hW1]; exact below_dN (Below.refl _ _) _
  have BX : Boxed w1 r 127 (.slice a n c) := by
    have h := HR.out
    rw [HN.out] at h
    rw [← hW1]; exact h
  have O1 : w1.ownsRow (r + 1) 3 1 (.slice a n c) n (intsV l) := by
    have h := HO.out
    rw [HN.out] at h
    rw [← hW1]; exact h
  rw [hW1]
  have cb1 := BX.cell
  have fb1 := BX.frozen
  have hlt1 : r < w1.heap.size := BX.lt
  have HB1 := Lib.hid BX
  have HO1 := Lib.hid O1
  have HW1 := Lib.hid b1
  clear hW1 b1 BX O1 cb fb
  cases d with
  | true =>
    go_wp2
    go_ret
    refine ⟨by rw [HD.out]; rfl, _, l, HB1.out, by rw [HN.out]; exact HO1.out, HA.out, fun y => ⟨.inr, fun h => h.elim (fun e => by rw [e]; simpa using HD.out) id⟩, Nat.le_succ _, ?_⟩
    exact KeptOut.of_below HW1.out
  | false =>
    go_wp2_with fail
    have hvb := HO1.out.lt
    have A1 : Below w1.heap.size w1 (w1.alloc (.cells #[.int .i64 x] 3)) := (Below.refl _ _).alloc (Nat.le_refl _) _
    refine (insInt_any (r + 1) w1.heap.size (.slice a n c) n k l x _ (by rw [World.size_alloc]; omega) HN.out hkn (by omega) (own_below HO1.out A1) (heap_alloc_new _ _) (fun e => by have := (hvb _ e).2; omega)).mono ?_
    rintro e w2 ⟨v2, rfl, o2, b2⟩
    have B2 : KeptOut (fun b => (Value.slice a n c).ownBlock = some b) w1 w2 := (KeptOut.of_below A1).trans b2
    have BX2 : Boxed w2 r 127 (.slice a n c) := (B2.block r hlt1 (fun e => by have := (hvb _ e).1; omega)).trans HB1.out
    obtain ⟨a2, c2, rfl⟩ := own_shape o2
    have cb2 := BX2.cell
    have fb2 := BX2.frozen
    have HO2 := Lib.hid o2
    have HB2 := Lib.hid B2
    have HX2 := Lib.hid BX2
    clear o2 B2 b2 BX2 A1 cb1 fb1
    go_wp2
    go_ret
    have hl2 : (insL l k x).length = n + 1 := by rw [insL_len x (by rw [HN.out]; exact hkn), HN.out]
    have hx : x ∉ l := fun h => by have := HD.out; simp [h] at this
    refine ⟨by rw [HD.out]; rfl, _, insL l k x, HX2.out.set _, ?_, by rw [← HK.out]; exact insL_asc l x HA.out hx, fun y => insL_mem, by rw [hl2, HN.out]; exact Nat.le_refl _, ?_⟩
    · rw [hl2]
      exact ownsRow_setCell_below HO2.out (show r < r + 1 from Nat.lt_succ_self r) _
    · rw [HN.out]
      exact ((KeptOut.of_below HW1.out).trans (HB2.out.mono (fun _ _ h => .inr h))).setCell (.inl rfl) _
end Go.Proofs.YtbioljpjpflboaaGreatDoor

/- The things of a model, of the program: modelThingsOk. -/
namespace Go.Proofs.YtbioljpjpflboaaGreatDoor
open Go Go.RowKit

theorem in_all {l : List SpaceD} (hk : spsOk l = true) (x : ByteArray) : inSp l x allB = (idxS l x).isSome := by
  have h0 := hk
  unfold spsOk at h0
  simp only [Bool.and_eq_true, List.all_eq_true] at h0
  unfold inSp
  cases hi : idxS l x with
  | none => unfold upS; rw [hi]; rfl
  | some i =>
    have hu := h0.1.1.2 i (List.mem_range.2 (idxS_lt hi))
    unfold upP at hu
    rw [nmS_at (idxS_lt hi), idxS_name hi] at hu
    simp only [Bool.and_eq_true, decide_eq_true_eq] at hu
    rw [List.any_eq_true.2 ⟨allB, List.mem_of_getLast? hu.2, by simp⟩]
    rfl
/-- the numbers of the things ahead -/
def UidsOf (T : List ThingD) (k : Nat) (l : List Int) : Prop := ∀ y, y ∈ l ↔ ∃ j, j < k ∧ (T.getD j default).uid = y
theorem newU_mem {T : List ThingD} {k : Nat} {l : List Int} (h : UidsOf T k l) : newU T k = !l.contains (T.getD k default).uid := by
  cases hc : l.contains (T.getD k default).uid with
  | true =>
    obtain ⟨j, hj, e⟩ := (h _).1 (by simpa using hc)
    exact newU_no hj e
  | false =>
    unfold newU
    show _ = true
    rw [List.all_eq_true]
    intro j hj
    have : ¬ (T.getD j default).uid = (T.getD k default).uid := fun e => by
      have h2 := (h _).2 ⟨j, List.mem_range.1 hj, e⟩
      have h3 := List.contains_iff_mem.2 h2
      rw [hc] at h3; cases h3
    rw [decide_eq_false this]; rfl
theorem UidsOf.next {T : List ThingD} {k : Nat} {l l' : List Int} (h : UidsOf T k l) (h2 : ∀ y, y ∈ l' ↔ y = (T.getD k default).uid ∨ y ∈ l) : UidsOf T (k + 1) l' := fun y => by
  rw [h2, h]
  constructor
  · rintro (e | ⟨j, hj, e⟩)
    · exact ⟨k, Nat.lt_succ_self k, e.symm⟩
    · exact ⟨j, Nat.lt_succ_of_lt hj, e⟩
  · rintro ⟨j, hj, e⟩
    rcases Nat.lt_succ_iff_lt_or_eq.1 hj with hj | rfl
    · exact .inr ⟨j, hj, e⟩
    · exact .inl e.symm
theorem implThing_is {x : ThX} {q : Bool} (hq : thingB x.2.2 = q) {w : World} (h : OkX w x) (hn : NnX x) :
    Calls Tryz.prog 76 #[.agg #[.string x.2.2.sp, .string x.2.2.nm, .int .i64 x.2.2.uid, .int .i64 x.2.2.rev, .bool x.2.2.gone, .slice x.1 x.2.2.marks.length x.2.1, .string x.2.2.body]] w fun e w' => e = .returned (.bool q) ∧ Below w.heap.size w w' := by
  subst hq
  exact implThing_any _ _ _ w h.1 h.2 hn
theorem implIn_all {a : Option Addr} {ca : Nat} {l : List SpaceD} {x : ByteArray} {q : Bool} (hk : spsOk l = true) (hq : (idxS l x).isSome = q) {w : World} (hl : ElS 5 encSpace w a l) (hok : ∀ x ∈ l, OkSpace x) :
    Calls Tryz.prog 100 #[.slice a l.length ca, .string x, .string ⟨#[97, 108, 108]⟩] w fun e w' => e = .returned (.bool q) ∧ Below w.heap.size w w' := by
  have h := implSpaceIn_any a ca l x allB w hl hok
  rw [in_all hk, hk, hq] at h
  exact h
theorem putU_is {r : Nat} {v : Value} {l : List Int} {x : Int} {q : Bool} (hq : l.contains x = q) {w : World} (hr : Boxed w r 127 v) (hown : w.ownsRow (r + 1) 3 1 v l.length (intsV l)) (hl : l.length ≤ 1000) (hasc : l.Pairwise (· < ·)) :
    Calls Tryz.prog 101 #[.pointer (some ⟨r, 0, none⟩), .int .i64 x] w fun e w' => e = .returned (.bool (!q)) ∧ ∃ v' l', Boxed w' r 127 v' ∧ w'.ownsRow (r + 1) 3 1 v' l'.length (intsV l') ∧ l'.Pairwise (· < ·) ∧ (∀ y, y ∈ l' ↔ y = x ∨ y ∈ l) ∧ l'.length ≤ l.length + 1 ∧ KeptOut (fun b => b = r ∨ v.ownBlock = some b) w w' := by
  subst hq
  exact putU_any r v l x w hr hown hl hasc
theorem thingOrder_is {x y : ThX} {q : Bool} (hq : lessTB x.2.2 y.2.2 = q) (w : World) :
    Calls Tryz.prog 102 #[.agg #[.string x.2.2.sp, .string x.2.2.nm, .int .i64 x.2.2.uid, .int .i64 x.2.2.rev, .bool x.2.2.gone, .slice x.1 x.2.2.marks.length x.2.1, .string x.2.2.body], .agg #[.string y.2.2.sp, .string y.2.2.nm, .int .i64 y.2.2.uid, .int .i64 y.2.2.rev, .bool y.2.2.gone, .slice y.1 y.2.2.marks.length y.2.1, .string y.2.2.body]] w fun e w' => ∃ z : Int, e = .returned (.int .i64 z) ∧ decide (0 ≤ z) = (!q) ∧ Below w.heap.size w w' := by
  subst hq
  exact thingOrder_any x.1 y.1 x.2.1 y.2.1 x.2.2 y.2.2 w
set_option maxRecDepth 100000 in
set_option maxHeartbeats 20000000 in
theorem modelThings_any {v : Value} {m : ModelD} {w : World} (h : VnModel w v m) (hb : (bulkThingS m.ths : Int) ≤ 1048576) (hbs : (bulkSpaceS m.sps : Int) ≤ 1048576) (hok : spsOk m.sps = true) :
    Calls Tryz.prog 69 #[v] w fun e w' => e = .returned (.bool (thingsB m.rev m.uid m.sps m.ths)) ∧ Below w.heap.size w w' := by
  obtain ⟨v3, v4, v5, v6, rfl, h3, -, h5, -⟩ := h
  obtain ⟨rev, uid, flo, S, U, T, P⟩ := m
  simp only at h3 h5 hb hbs hok ⊢
  obtain ⟨a3, ca3, rfl, hl3, hk3⟩ := h3
  obtain ⟨a5, ca5, xs, rfl, hl5, rfl, hk5, hn5⟩ := h5
  have HOK := Lib.hid hok
  have HX3 := Lib.hid hl3
  have HK3 := Lib.hid hk3
  have HX5 := Lib.hid hl5
  have HK5 := Lib.hid hk5
  have HN5 := Lib.hid hn5
  clear hl3 hk3 hl5 hk5 hb hbs hok hn5
  by_cases h10 : xs.length ≤ 10
  · have g1 : ¬ (10 : Int) < (xs.length : Int) := by omega
    have H10 := Lib.hid h10
    go_enter Tryz.func69, Tryz.ntmps69
    go_wp2_with fail
    obtain ⟨w1, hA⟩ : ∃ wA, w.alloc (.cells #[.int .i64 rev, .int .i64 uid, .int .i64 flo, .slice a3 S.length ca3, v4, .slice a5 xs.length ca5, v6] 35) = wA := ⟨_, rfl⟩
    have BX := Lib.hid (show Box w1 w.heap.size [.int .i64 rev, .int .i64 uid, .int .i64 flo, .slice a3 S.length ca3, v4, .slice a5 xs.length ca5, v6] by rw [← hA]; exact Box.alloc w _ _)
    have B1 := Lib.hid (show Below w.heap.size w w1 by rw [← hA]; exact below_alloc _ _)
    have HY3 := Lib.hid (HX3.out.below (w' := w1) B1.out)
    have HY5 := Lib.hid (HX5.out.below (w' := w1) B1.out)
    have HZ5 := Lib.hid (show ∀ x ∈ xs, OkX w1 x from fun x hx => (HK5.out x hx).below B1.out)
    have z1 : w1.heap.size = w.heap.size + 1 := by rw [← hA, World.size_alloc]
    rw [hA]
    clear hA
    obtain ⟨R, hR⟩ : ∃ R, w1.heap.size = R := ⟨_, rfl⟩
    have HR := Lib.hid hR
    rw [hR] at z1
    try rw [hR]
    obtain ⟨w2, hA2⟩ : ∃ wA, w1.alloc (.cells #[.slice none 0 0] 127) = wA := ⟨_, rfl⟩
    have B2 := Lib.hid (show Below R w1 w2 by rw [← hA2]; exact (Below.refl _ _).alloc (by omega) _)
    have X2 := Lib.hid (show Boxed w2 R 127 (.slice none 0 0) by rw [← hA2, ← hR]; exact Boxed.new w1 _ _)
    rw [hA2]
    clear hA2 hR
    subst z1
    go_loopw [13] (fun i wr => ∃ (k : Nat) (l : List Int) (v : Value), k ≤ xs.length ∧ i = .int .i64 k ∧ (∀ j, j < k → j < (thsOf xs).length → thAt rev uid S (thsOf xs) j = true) ∧ UidsOf (thsOf xs) k l ∧ l.length ≤ k ∧ l.Pairwise (· < ·) ∧ Boxed wr (w.heap.size + 1) 127 v ∧ wr.ownsRow ((w.heap.size + 1) + 1) 3 1 v l.length (intsV l) ∧ Below (w.heap.size + 1) w1 wr) (fun i _ => xs.length - (intOf i).toNat)
    case atStart => exact ⟨0, [], _, Nat.zero_le _, rfl, fun j h => absurd h (Nat.not_lt_zero _), fun y => ⟨fun h => absurd h List.not_mem_nil, fun ⟨j, hj, _⟩ => absurd hj (Nat.not_lt_zero _)⟩, Nat.le_refl _, List.Pairwise.nil, X2.out, World.ownsRow_nil _ _ _ _, B2.out⟩
    case round =>
      obtain ⟨k, l, v, hk, rfl, hto, hui, hlk, hasc, hbx, hown, hbel⟩ := hrel
      have HT := Lib.hid hto
      have HB := Lib.hid hbel
      have HU := Lib.hid hui
      have HASC := Lib.hid hasc
      have HBX := Lib.hid hbx
      have HOW := Lib.hid hown
      have zb := hbel.size
      have zr := hbx.lt
      have hbel1 : Below w1.heap.size w1 wr := by rw [HR.out]; exact hbel
      have BXr := BX.out.below hbel1
      obtain ⟨⟨x0, _⟩, ⟨x1, _⟩, ⟨x3, _⟩, x5, _⟩ := show _ ∧ _ ∧ _ ∧ _ from ⟨BXr 0 _ rfl, BXr 1 _ rfl, BXr 3 _ rfl, BXr 5 _ rfl⟩
      clear hto BXr hui hasc hbx hown
      by_cases hlt : k < xs.length
      · obtain ⟨bb, ob, rfl, hcb⟩ := HY5.out.2.resolve_left (by intro e; rw [e] at hlt; simp at hlt)
        obtain ⟨c0, c1, c2, c3, c4, c5, c6⟩ := cellsThing hbel1 hcb k hlt
        have HCB := Lib.hid hcb
        have hkI : (k : Int) < (xs.length : Int) := by omega
        have hk0 : (0 : Int) ≤ (k : Int) := by omega
        have hmem : xs[k] ∈ xs := List.getElem_mem hlt
        have hltT : k < (thsOf xs).length := by rw [thsOf_len]; exact hlt
        obtain ⟨w3, hW3⟩ : ∃ w3, wr.alloc (.cells #[.string xs[k].2.2.sp, .string xs[k].2.2.nm, .int .i64 xs[k].2.2.uid, .int .i64 xs[k].2.2.rev, .bool xs[k].2.2.gone, .slice xs[k].1 xs[k].2.2.marks.length xs[k].2.1, .string xs[k].2.2.body] 57) = w3 := ⟨_, rfl⟩
        have A3 : Below (w.heap.size + 1) w1 w3 := by rw [← hW3]; exact hbel.alloc (by omega) _
        have BU : Box w3 wr.heap.size [.string xs[k].2.2.sp, .string xs[k].2.2.nm, .int .i64 xs[k].2.2.uid, .int .i64 xs[k].2.2.rev, .bool xs[k].2.2.gone, .slice xs[k].1 xs[k].2.2.marks.length xs[k].2.1, .string xs[k].2.2.body] := by rw [← hW3]; exact Box.alloc wr _ _
        have z3 : w3.heap.size = wr.heap.size + 1 := by rw [← hW3, World.size_alloc]
        have HW3 := Lib.hid hW3
        have HA3 := Lib.hid A3
        have HBU := Lib.hid BU
        have X3 := Lib.hid (show Boxed w3 (w.heap.size + 1) 127 v by rw [← hW3]; exact HBX.out.alloc _)
        have O3 := Lib.hid (show w3.ownsRow ((w.heap.size + 1) + 1) 3 1 v l.length (intsV l) by rw [← hW3]; exact own_below HOW.out ((Below.refl _ _).alloc (Nat.le_refl _) _))
        have HAt := Lib.hid (show thAt rev uid S (thsOf xs) k = (thingB xs[k].2.2 && ((idxS S xs[k].2.2.sp).isSome && (decide (xs[k].2.2.rev ≤ rev) && (decide (xs[k].2.2.uid ≤ uid) && ((decide (k = 0) || lessTB ((thsOf xs).getD (k - 1) default) xs[k].2.2) && newU (thsOf xs) k))))) by
          unfold thAt; rw [thsOf_getD xs hlt])
        have HNU := Lib.hid (show newU (thsOf xs) k = !l.contains xs[k].2.2.uid by rw [newU_mem HU.out, thsOf_getD xs hlt])
        have KS := Lib.hid (show ∀ W, Below w3.heap.size w3 W → W.cell? ⟨w.heap.size, 0, none⟩ = some (.int .i64 rev) ∧ W.cell? ⟨w.heap.size, 1, none⟩ = some (.int .i64 uid) ∧ W.cell? ⟨w.heap.size, 3, none⟩ = some (.slice a3 S.length ca3) ∧ W.cell? ⟨w.heap.size, 5, none⟩ = some (.slice (some ⟨bb, ob, none⟩) xs.length ca5) ∧ W.cell? ⟨wr.heap.size, 0, none⟩ = some (.string xs[k].2.2.sp) ∧ W.cell? ⟨wr.heap.size, 2, none⟩ = some (.int .i64 xs[k].2.2.uid) ∧ W.cell? ⟨wr.heap.size, 3, none⟩ = some (.int .i64 xs[k].2.2.rev) ∧ True from fun W hb => by
          have hb2 := HA3.out.trans (hb.mono (by omega))
          have h := BX.out.below (by rw [HR.out]; exact hb2)
          have hu := HBU.out.below hb
          exact ⟨(h 0 _ rfl).1, (h 1 _ rfl).1, (h 3 _ rfl).1, (h 5 _ rfl).1, (hu 0 _ rfl).1, (hu 2 _ rfl).1, (hu 3 _ rfl).1, trivial⟩)
        obtain ⟨q1, hq1⟩ : ∃ q, thingB xs[k].2.2 = q := ⟨_, rfl⟩
        obtain ⟨q2, hq2⟩ : ∃ q, (idxS S xs[k].2.2.sp).isSome = q := ⟨_, rfl⟩
        obtain ⟨q3, hq3⟩ : ∃ q, l.contains xs[k].2.2.uid = q := ⟨_, rfl⟩
        have HQ1 := Lib.hid hq1
        have HQ2 := Lib.hid hq2
        have HQ3 := Lib.hid hq3
        clear hcb hbel hbel1 A3 BU hq1 hq2 hq3 hW3
        go_wp2_with fail
        rw [HW3.out]
        refine (implThing_is HQ1.out ((HZ5.out _ hmem).below (by rw [HR.out]; exact HA3.out)) (HN5.out _ hmem)).mono ?_
        rintro e w4 ⟨rfl, b4⟩
        have B4 := Lib.hid b4
        have HF := Lib.hid (show ∀ W, Below w3.heap.size w3 W → Below w.heap.size w W from fun W hb => (B1.out.trans ((HA3.out.mono (by omega)))).trans (hb.mono (by omega)))
        obtain ⟨y0, y1, y3, y5, t0, t2, t3, -⟩ := KS.out _ b4
        clear b4 c0 c1 c2 c3 c4 c5 c6 x0 x1 x3 x5
        cases q1 with
        | false =>
          have HN := Lib.hid (things_no (rev := rev) (uid := uid) (S := S) hltT (by rw [HAt.out, HQ1.out]; rfl))
          go_wp2
          go_ret
          exact ⟨by rw [HN.out]; rfl, HF.out _ B4.out⟩
        | true =>
        go_wp2_with fail
        refine (implIn_all HOK.out HQ2.out ((HY3.out.below (by rw [HR.out]; exact HA3.out)).below B4.out) HK3.out).mono ?_
        rintro e w5 ⟨rfl, b5⟩
        have B5 := Lib.hid (B4.out.trans (b5.mono B4.out.size))
        clear y0 y1 y3 y5 t0 t2 t3 b5
        obtain ⟨y0, y1, y3, y5, t0, t2, t3, -⟩ := KS.out _ B5.out
        cases q2 with
        | false =>
          have HN := Lib.hid (things_no (rev := rev) (uid := uid) (S := S) hltT (by rw [HAt.out, HQ1.out, HQ2.out]; rfl))
          go_wp2
          go_ret
          exact ⟨by rw [HN.out]; rfl, HF.out _ B5.out⟩
        | true =>
        by_cases r1 : rev < xs[k].2.2.rev
        · have HN := Lib.hid (things_no (rev := rev) (uid := uid) (S := S) hltT (by rw [HAt.out, HQ1.out, HQ2.out, decide_eq_false (show ¬ xs[k].2.2.rev ≤ rev by omega)]; rfl))
          go_wp2
          go_ret
          exact ⟨by rw [HN.out]; rfl, HF.out _ B5.out⟩
        by_cases r2 : uid < xs[k].2.2.uid
        · have HN := Lib.hid (things_no (rev := rev) (uid := uid) (S := S) hltT (by rw [HAt.out, HQ1.out, HQ2.out, decide_eq_false (show ¬ xs[k].2.2.uid ≤ uid by omega)]; simp))
          go_wp2
          go_ret
          exact ⟨by rw [HN.out]; rfl, HF.out _ B5.out⟩
        have HA2 := Lib.hid (show thAt rev uid S (thsOf xs) k = ((decide (k = 0) || lessTB ((thsOf xs).getD (k - 1) default) xs[k].2.2) && !q3) by
          rw [HAt.out, HQ1.out, HQ2.out, decide_eq_true (show xs[k].2.2.rev ≤ rev by omega), decide_eq_true (show xs[k].2.2.uid ≤ uid by omega), HNU.out, HQ3.out]; rfl)
        have X5 := (B5.out.block (w.heap.size + 1) (by omega)).trans X3.out
        have O5 := own_below O3.out B5.out
        go_wp2_with fail
        refine (putU_is HQ3.out X5 O5 (by omega) HASC.out).mono ?_
        rintro e w6 ⟨rfl, v6', l6, X6, O6, asc6, mem6, len6, k6⟩
        have hvl := HOW.out.lt
        have K6 := Lib.hid k6
        have B6 := Lib.hid (show Below (w.heap.size + 1) w1 w6 from KeptOut.below (HA3.out.trans (B5.out.mono (by omega))) (by have := B5.out.size; omega) k6 (fun b hb => hb.elim (fun e => by omega) (fun e => by have := (hvl b e).1; omega)))
        have HBT := Lib.hid (show Box w6 wr.heap.size [.string xs[k].2.2.sp, .string xs[k].2.2.nm, .int .i64 xs[k].2.2.uid, .int .i64 xs[k].2.2.rev, .bool xs[k].2.2.gone, .slice xs[k].1 xs[k].2.2.marks.length xs[k].2.1, .string xs[k].2.2.body] from
          Box.kept k6 (fun h => h.elim (fun e => by omega) (fun e => by have := (hvl _ e).2; omega)) (HBU.out.below B5.out))
        have z6 := k6.size
        have z5 := B5.out.size
        have X6' := Lib.hid X6
        have O6' := Lib.hid O6
        have ASC6 := Lib.hid asc6
        have MEM6 := Lib.hid (UidsOf.next HU.out (l' := l6) (by rw [thsOf_getD xs hlt]; exact mem6))
        clear y0 y1 y3 y5 t0 t2 t3 X5 O5 k6 X6 O6 asc6 mem6 hvl
        cases q3 with
        | true =>
          have HN := Lib.hid (things_no (rev := rev) (uid := uid) (S := S) hltT (by rw [HA2.out]; simp))
          go_wp2
          go_ret
          exact ⟨by rw [HN.out]; rfl, B1.out.trans (B6.out.mono (by omega))⟩
        | false =>
        by_cases k0 : k = 0
        · subst k0
          have n2 : decide ((0 : Int) < (0 : Int)) = false := by decide
          have HTN := Lib.hid (show ∀ j, j < 0 + 1 → j < (thsOf xs).length → thAt rev uid S (thsOf xs) j = true from fun j hj _ => by
            obtain rfl : j = 0 := by omega
            rw [HA2.out]; rfl)
          go_wp2_with fail
          refine wp_region_held_drew (S := fun W => Below w6.heap.size w6 W) (by kernel_rfl) ((Below.refl _ _).drew) (fun hHeld => ?_)
          refine wpAnyH_take (i := 0) (oi := { dst := some 49, op := Op.move (Operand.tmp 4), type := 3, pos := "l10_model.go:240", after := _, guard := none }) (v := ?_) rfl (by kernel_rfl) (by kernel_rfl) (by kernel_rfl) (fun _ _ _ h => h) (Or.inl ⟨by rfl, ?_⟩) (by assumption) ?_
          rotate_left
          · (intro w hSw; (try dsimp only at hSw); go_simp; (try with_reducible rfl))
          simp only [Act.put, List.setIfInBounds_toArray, List.set_cons_zero, List.set_cons_succ]
          refine wpAnyH_take (i := 1) (oi := { dst := some 50, op := Op.binOp BinOp.gtr 3 (Operand.tmp 49) (Operand.const (Value.int IntKind.i64 0)) 3, type := 4, pos := "l10_model.go:240", after := _, guard := none }) (v := ?_) rfl (by kernel_rfl) (by kernel_rfl) (by kernel_rfl) (fun _ _ _ h => h) (Or.inl ⟨by rfl, ?_⟩) (by assumption) ?_
          rotate_left
          · (intro w hSw; (try dsimp only at hSw); go_simp; (try with_reducible rfl))
          simp only [Act.put, List.setIfInBounds_toArray, List.set_cons_zero, List.set_cons_succ]
          refine wpAnyH_take (i := 2) (oi := { dst := some 51, op := Op.move (Operand.tmp 50), type := 4, pos := "l10_model.go:240", after := _, guard := none }) (v := ?_) rfl (by kernel_rfl) (by kernel_rfl) (by kernel_rfl) (fun _ _ _ h => h) (Or.inl ⟨by rfl, ?_⟩) (by assumption) ?_
          rotate_left
          · (intro w hSw; (try dsimp only at hSw); go_simp; (try with_reducible rfl))
          simp only [Act.put, List.setIfInBounds_toArray, List.set_cons_zero, List.set_cons_succ]
          refine wpAnyH_take (i := 3) (oi := { dst := some 52, op := Op.fieldAddr 35 (Operand.tmp 1) 5, type := 0, pos := "l10_model.go:240", after := _, guard := some (2, true) }) (v := undef) rfl (by kernel_rfl) (by kernel_rfl) (by kernel_rfl) (fun _ _ _ h => h) (Or.inr ⟨by rfl, rfl⟩) (by assumption) ?_
          simp only [Act.put, List.setIfInBounds_toArray, List.set_cons_zero, List.set_cons_succ]
          refine wpAnyH_take (i := 4) (oi := { dst := some 53, op := Op.load 32 (Operand.tmp 52), type := 32, pos := "l10_model.go:240", after := _, guard := some (2, true) }) (v := undef) rfl (by kernel_rfl) (by kernel_rfl) (by kernel_rfl) (fun _ _ _ h => h) (Or.inr ⟨by rfl, rfl⟩) (by assumption) ?_
          simp only [Act.put, List.setIfInBounds_toArray, List.set_cons_zero, List.set_cons_succ]
          refine wpAnyH_take (i := 5) (oi := { dst := some 54, op := Op.move (Operand.tmp 4), type := 3, pos := "l10_model.go:240", after := _, guard := some (2, true) }) (v := undef) rfl (by kernel_rfl) (by kernel_rfl) (by kernel_rfl) (fun _ _ _ h => h) (Or.inr ⟨by rfl, rfl⟩) (by assumption) ?_
          simp only [Act.put, List.setIfInBounds_toArray, List.set_cons_zero, List.set_cons_succ]
          refine wpAnyH_take (i := 6) (oi := { dst := some 55, op := Op.binOp BinOp.sub 3 (Operand.tmp 54) (Operand.const (Value.int IntKind.i64 1)) 3, type := 3, pos := "l10_model.go:240", after := _, guard := some (2, true) }) (v := undef) rfl (by kernel_rfl) (by kernel_rfl) (by kernel_rfl) (fun _ _ _ h => h) (Or.inr ⟨by rfl, rfl⟩) (by assumption) ?_
          simp only [Act.put, List.setIfInBounds_toArray, List.set_cons_zero, List.set_cons_succ]
          refine wpAnyH_take (i := 7) (oi := { dst := some 56, op := Op.indexAddr 32 (Operand.tmp 53) (Operand.tmp 55), type := 0, pos := "l10_model.go:240", after := _, guard := some (2, true) }) (v := undef) rfl (by kernel_rfl) (by kernel_rfl) (by kernel_rfl) (fun _ _ _ h => h) (Or.inr ⟨by rfl, rfl⟩) (by assumption) ?_
          simp only [Act.put, List.setIfInBounds_toArray, List.set_cons_zero, List.set_cons_succ]
          refine wpAnyH_take (i := 8) (oi := { dst := some 57, op := Op.load 57 (Operand.tmp 56), type := 57, pos := "l10_model.go:240", after := _, guard := some (2, true) }) (v := undef) rfl (by kernel_rfl) (by kernel_rfl) (by kernel_rfl) (fun _ _ _ h => h) (Or.inr ⟨by rfl, rfl⟩) (by assumption) ?_
          simp only [Act.put, List.setIfInBounds_toArray, List.set_cons_zero, List.set_cons_succ]
          refine wpAnyH_take (i := 9) (oi := { dst := some 58, op := Op.load 57 (Operand.tmp 5), type := 57, pos := "l10_model.go:240", after := _, guard := some (2, true) }) (v := undef) rfl (by kernel_rfl) (by kernel_rfl) (by kernel_rfl) (fun _ _ _ h => h) (Or.inr ⟨by rfl, rfl⟩) (by assumption) ?_
          simp only [Act.put, List.setIfInBounds_toArray, List.set_cons_zero, List.set_cons_succ]
          refine wpAnyH_take (i := 10) (oi := { dst := some 59, op := Op.call { callee := Callee.value (Operand.func 102), args := #[Operand.tmp 57, Operand.tmp 58], argTypes := #[57, 57] }, type := 3, pos := "l10_model.go:240", after := _, guard := some (2, true) }) (v := undef) rfl (by kernel_rfl) (by kernel_rfl) (by kernel_rfl) (fun _ _ _ h => h) (Or.inr ⟨by rfl, rfl⟩) (by assumption) ?_
          simp only [Act.put, List.setIfInBounds_toArray, List.set_cons_zero, List.set_cons_succ]
          refine wpAnyH_take (i := 11) (oi := { dst := some 60, op := Op.binOp BinOp.geq 3 (Operand.tmp 59) (Operand.const (Value.int IntKind.i64 0)) 3, type := 4, pos := "l10_model.go:240", after := _, guard := some (2, true) }) (v := undef) rfl (by kernel_rfl) (by kernel_rfl) (by kernel_rfl) (fun _ _ _ h => h) (Or.inr ⟨by rfl, rfl⟩) (by assumption) ?_
          simp only [Act.put, List.setIfInBounds_toArray, List.set_cons_zero, List.set_cons_succ]
          refine wpAnyH_take (i := 12) (oi := { dst := some 61, op := Op.pick (Operand.tmp 51) (Operand.tmp 60) (Operand.const (Value.bool false)), type := 4, pos := "l10_model.go:240", after := _, guard := none }) (v := ?_) rfl (by kernel_rfl) (by kernel_rfl) (by kernel_rfl) (fun _ _ _ h => h) (Or.inl ⟨by rfl, ?_⟩) (by assumption) ?_
          rotate_left
          · (intro w hSw; (try dsimp only at hSw); go_simp; (try with_reducible rfl))
          simp only [Act.put, List.setIfInBounds_toArray, List.set_cons_zero, List.set_cons_succ]
          refine wpAnyH_done (by kernel_rfl) ?_ _
          go_wp2
          go_roundw
          case rel => exact ⟨0 + 1, l6, v6', by omega, by go_num, HTN.out, MEM6.out, by omega, ASC6.out, X6'.out, O6'.out, B6.out.drew⟩
          case measure => simp [intOf]; omega
        · obtain ⟨m, hm⟩ : ∃ m, k = m + 1 := ⟨k - 1, by omega⟩
          have hml : m < xs.length := by omega
          have n2 : decide ((0 : Int) < (k : Int)) = true := decide_eq_true (by omega)
          have n2b : decide (0 < k) = true := decide_eq_true (by omega)
          have n3 : (k : Int) - 1 = (m : Int) := by omega
          have n4 : IntKind.i64.wrap (m : Int) = (m : Int) := by rw [IntKind.wrap_i64]; omega
          have n5 : (0 : Int) ≤ (m : Int) := by omega
          have n6 : (m : Int) < (xs.length : Int) := by omega
          obtain ⟨q4, hq4⟩ : ∃ q, lessTB xs[m].2.2 xs[k].2.2 = q := ⟨_, rfl⟩
          have HQ4 := Lib.hid hq4
          have HA4 := Lib.hid (show thAt rev uid S (thsOf xs) k = q4 by
            rw [HA2.out, decide_eq_false k0, show k - 1 = m by omega, thsOf_getD xs hml, hq4]; simp)
          have KS6 := Lib.hid (show ∀ W, Below w6.heap.size w6 W → Below w6.heap.size w6 W ∧ W.cell? ⟨w.heap.size, 5, none⟩ = some (.slice (some ⟨bb, ob, none⟩) xs.length ca5) ∧ W.cell? ⟨wr.heap.size, 0, none⟩ = some (.string xs[k].2.2.sp) ∧ W.cell? ⟨wr.heap.size, 1, none⟩ = some (.string xs[k].2.2.nm) ∧ W.cell? ⟨wr.heap.size, 2, none⟩ = some (.int .i64 xs[k].2.2.uid) ∧ W.cell? ⟨wr.heap.size, 3, none⟩ = some (.int .i64 xs[k].2.2.rev) ∧ W.cell? ⟨wr.heap.size, 4, none⟩ = some (.bool xs[k].2.2.gone) ∧ W.cell? ⟨wr.heap.size, 5, none⟩ = some (.slice xs[k].1 xs[k].2.2.marks.length xs[k].2.1) ∧ W.cell? ⟨wr.heap.size, 6, none⟩ = some (.string xs[k].2.2.body) ∧
              W.cell? ⟨bb, ob + m * 7, none⟩ = some (.string xs[m].2.2.sp) ∧ W.cell? ⟨bb, ob + m * 7 + 1, none⟩ = some (.string xs[m].2.2.nm) ∧ W.cell? ⟨bb, ob + m * 7 + 2, none⟩ = some (.int .i64 xs[m].2.2.uid) ∧ W.cell? ⟨bb, ob + m * 7 + 3, none⟩ = some (.int .i64 xs[m].2.2.rev) ∧ W.cell? ⟨bb, ob + m * 7 + 4, none⟩ = some (.bool xs[m].2.2.gone) ∧ W.cell? ⟨bb, ob + m * 7 + 5, none⟩ = some (.slice xs[m].1 xs[m].2.2.marks.length xs[m].2.1) ∧ W.cell? ⟨bb, ob + m * 7 + 6, none⟩ = some (.string xs[m].2.2.body) from fun W hb => by
            have hb2 : Below w1.heap.size w1 W := by rw [HR.out]; exact B6.out.trans (hb.mono (by omega))
            have h := BX.out.below hb2
            have hu := HBT.out.below hb
            obtain ⟨c0, c1, c2, c3, c4, c5, c6⟩ := cellsThing hb2 HCB.out m hml
            exact ⟨hb, (h 5 _ rfl).1, (hu 0 _ rfl).1, (hu 1 _ rfl).1, (hu 2 _ rfl).1, (hu 3 _ rfl).1, (hu 4 _ rfl).1, (hu 5 _ rfl).1, (hu 6 _ rfl).1, c0, c1, c2, c3, c4, c5, c6⟩)
          have HM := Lib.hid hm
          clear hm hq4
          go_wp2_with fail
          refine wp_region_held_drew (S := fun W => Below w6.heap.size w6 W ∧ W.cell? ⟨w.heap.size, 5, none⟩ = some (.slice (some ⟨bb, ob, none⟩) xs.length ca5) ∧ W.cell? ⟨wr.heap.size, 0, none⟩ = some (.string xs[k].2.2.sp) ∧ W.cell? ⟨wr.heap.size, 1, none⟩ = some (.string xs[k].2.2.nm) ∧ W.cell? ⟨wr.heap.size, 2, none⟩ = some (.int .i64 xs[k].2.2.uid) ∧ W.cell? ⟨wr.heap.size, 3, none⟩ = some (.int .i64 xs[k].2.2.rev) ∧ W.cell? ⟨wr.heap.size, 4, none⟩ = some (.bool xs[k].2.2.gone) ∧ W.cell? ⟨wr.heap.size, 5, none⟩ = some (.slice xs[k].1 xs[k].2.2.marks.length xs[k].2.1) ∧ W.cell? ⟨wr.heap.size, 6, none⟩ = some (.string xs[k].2.2.body) ∧ W.cell? ⟨bb, ob + m * 7, none⟩ = some (.string xs[m].2.2.sp) ∧ W.cell? ⟨bb, ob + m * 7 + 1, none⟩ = some (.string xs[m].2.2.nm) ∧ W.cell? ⟨bb, ob + m * 7 + 2, none⟩ = some (.int .i64 xs[m].2.2.uid) ∧ W.cell? ⟨bb, ob + m * 7 + 3, none⟩ = some (.int .i64 xs[m].2.2.rev) ∧ W.cell? ⟨bb, ob + m * 7 + 4, none⟩ = some (.bool xs[m].2.2.gone) ∧ W.cell? ⟨bb, ob + m * 7 + 5, none⟩ = some (.slice xs[m].1 xs[m].2.2.marks.length xs[m].2.1) ∧ W.cell? ⟨bb, ob + m * 7 + 6, none⟩ = some (.string xs[m].2.2.body)) (by kernel_rfl) (KS6.out _ (Below.refl _ _).drew) (fun hHeld => ?_)
          refine wpAnyH_take (i := 0) (oi := { dst := some 49, op := Op.move (Operand.tmp 4), type := 3, pos := "l10_model.go:240", after := _, guard := none }) (v := ?_) rfl (by kernel_rfl) (by kernel_rfl) (by kernel_rfl) (fun _ _ _ h => h) (Or.inl ⟨by rfl, ?_⟩) (by assumption) ?_
          rotate_left
          · (intro w hSw; (try dsimp only at hSw); go_simp; (try with_reducible rfl))
          simp only [Act.put, List.setIfInBounds_toArray, List.set_cons_zero, List.set_cons_succ]
          refine wpAnyH_take (i := 1) (oi := { dst := some 50, op := Op.binOp BinOp.gtr 3 (Operand.tmp 49) (Operand.const (Value.int IntKind.i64 0)) 3, type := 4, pos := "l10_model.go:240", after := _, guard := none }) (v := ?_) rfl (by kernel_rfl) (by kernel_rfl) (by kernel_rfl) (fun _ _ _ h => h) (Or.inl ⟨by rfl, ?_⟩) (by assumption) ?_
          rotate_left
          · (intro w hSw; (try dsimp only at hSw); go_simp; (try with_reducible rfl))
          simp only [Act.put, List.setIfInBounds_toArray, List.set_cons_zero, List.set_cons_succ]
          refine wpAnyH_take (i := 2) (oi := { dst := some 51, op := Op.move (Operand.tmp 50), type := 4, pos := "l10_model.go:240", after := _, guard := none }) (v := ?_) rfl (by kernel_rfl) (by kernel_rfl) (by kernel_rfl) (fun _ _ _ h => h) (Or.inl ⟨by rfl, ?_⟩) (by assumption) ?_
          rotate_left
          · (intro w hSw; (try dsimp only at hSw); go_simp; (try with_reducible rfl))
          simp only [Act.put, List.setIfInBounds_toArray, List.set_cons_zero, List.set_cons_succ]
          refine wpAnyH_take (i := 3) (oi := { dst := some 52, op := Op.fieldAddr 35 (Operand.tmp 1) 5, type := 0, pos := "l10_model.go:240", after := _, guard := some (2, true) }) (v := ?_) rfl (by kernel_rfl) (by kernel_rfl) (by kernel_rfl) (fun _ _ _ h => h) (Or.inl ⟨by rfl, ?_⟩) (by assumption) ?_
          rotate_left
          · (intro w hSw; (try dsimp only at hSw); go_simp; (try with_reducible rfl))
          simp only [Act.put, List.setIfInBounds_toArray, List.set_cons_zero, List.set_cons_succ]
          refine wpAnyH_take (i := 4) (oi := { dst := some 53, op := Op.load 32 (Operand.tmp 52), type := 32, pos := "l10_model.go:240", after := _, guard := some (2, true) }) (v := ?_) rfl (by kernel_rfl) (by kernel_rfl) (by kernel_rfl) (fun _ _ _ h => h) (Or.inl ⟨by rfl, ?_⟩) (by assumption) ?_
          rotate_left
          · (intro w hSw; (try dsimp only at hSw); go_simp; (try with_reducible rfl))
          simp only [Act.put, List.setIfInBounds_toArray, List.set_cons_zero, List.set_cons_succ]
          refine wpAnyH_take (i := 5) (oi := { dst := some 54, op := Op.move (Operand.tmp 4), type := 3, pos := "l10_model.go:240", after := _, guard := some (2, true) }) (v := ?_) rfl (by kernel_rfl) (by kernel_rfl) (by kernel_rfl) (fun _ _ _ h => h) (Or.inl ⟨by rfl, ?_⟩) (by assumption) ?_
          rotate_left
          · (intro w hSw; (try dsimp only at hSw); go_simp; (try with_reducible rfl))
          simp only [Act.put, List.setIfInBounds_toArray, List.set_cons_zero, List.set_cons_succ]
          refine wpAnyH_take (i := 6) (oi := { dst := some 55, op := Op.binOp BinOp.sub 3 (Operand.tmp 54) (Operand.const (Value.int IntKind.i64 1)) 3, type := 3, pos := "l10_model.go:240", after := _, guard := some (2, true) }) (v := ?_) rfl (by kernel_rfl) (by kernel_rfl) (by kernel_rfl) (fun _ _ _ h => h) (Or.inl ⟨by rfl, ?_⟩) (by assumption) ?_
          rotate_left
          · (intro w hSw; (try dsimp only at hSw); go_simp; (try with_reducible rfl))
          simp only [Act.put, List.setIfInBounds_toArray, List.set_cons_zero, List.set_cons_succ]
          refine wpAnyH_take (i := 7) (oi := { dst := some 56, op := Op.indexAddr 32 (Operand.tmp 53) (Operand.tmp 55), type := 0, pos := "l10_model.go:240", after := _, guard := some (2, true) }) (v := ?_) rfl (by kernel_rfl) (by kernel_rfl) (by kernel_rfl) (fun _ _ _ h => h) (Or.inl ⟨by rfl, ?_⟩) (by assumption) ?_
          rotate_left
          · (intro w hSw; (try dsimp only at hSw); go_simp; (try with_reducible rfl))
          simp only [Act.put, List.setIfInBounds_toArray, List.set_cons_zero, List.set_cons_succ]
          refine wpAnyH_take (i := 8) (oi := { dst := some 57, op := Op.load 57 (Operand.tmp 56), type := 57, pos := "l10_model.go:240", after := _, guard := some (2, true) }) (v := ?_) rfl (by kernel_rfl) (by kernel_rfl) (by kernel_rfl) (fun _ _ _ h => h) (Or.inl ⟨by rfl, ?_⟩) (by assumption) ?_
          rotate_left
          · (intro w hSw; (try dsimp only at hSw); go_simp; (try with_reducible rfl))
          simp only [Act.put, List.setIfInBounds_toArray, List.set_cons_zero, List.set_cons_succ]
          refine wpAnyH_take (i := 9) (oi := { dst := some 58, op := Op.load 57 (Operand.tmp 5), type := 57, pos := "l10_model.go:240", after := _, guard := some (2, true) }) (v := ?_) rfl (by kernel_rfl) (by kernel_rfl) (by kernel_rfl) (fun _ _ _ h => h) (Or.inl ⟨by rfl, ?_⟩) (by assumption) ?_
          rotate_left
          · (intro w hSw; (try dsimp only at hSw); go_simp; (try with_reducible rfl))
          simp only [Act.put, List.setIfInBounds_toArray, List.set_cons_zero, List.set_cons_succ]
          refine wpAnyH_ready (rs := [10]) (by kernel_rfl) (by simp) ?_
          refine AllReadyH.cons (o := { dst := some 59, op := Op.call { callee := Callee.value (Operand.func 102), args := #[Operand.tmp 57, Operand.tmp 58], argTypes := #[57, 57] }, type := 3, pos := "l10_model.go:240", after := _, guard := some (2, true) }) rfl (fun K hK => ?_) AllReadyH.nil
          go_simp
          go_at_call 102
          refine (thingOrder_is HQ4.out _).mono ?_
          rintro e w7 ⟨z, rfl, hz, b7⟩
          have B7 : Below w6.heap.size w6 w7 := hHeld.1.trans (b7.mono hHeld.1.size)
          refine hK.out _ _ ?_ (fun hHeld => ?_)
          · exact KS6.out _ B7
          clear hK K
          (try simp only [Act.put, List.setIfInBounds_toArray, List.set_cons_zero, List.set_cons_succ])
          refine wpAnyH_take (i := 11) (oi := { dst := some 60, op := Op.binOp BinOp.geq 3 (Operand.tmp 59) (Operand.const (Value.int IntKind.i64 0)) 3, type := 4, pos := "l10_model.go:240", after := _, guard := some (2, true) }) (v := ?_) rfl (by kernel_rfl) (by kernel_rfl) (by kernel_rfl) (fun _ _ _ h => h) (Or.inl ⟨by rfl, ?_⟩) (by assumption) ?_
          rotate_left
          · (intro w hSw; (try dsimp only at hSw); go_simp; (try with_reducible rfl))
          simp only [Act.put, List.setIfInBounds_toArray, List.set_cons_zero, List.set_cons_succ]
          refine wpAnyH_take (i := 12) (oi := { dst := some 61, op := Op.pick (Operand.tmp 51) (Operand.tmp 60) (Operand.const (Value.bool false)), type := 4, pos := "l10_model.go:240", after := _, guard := none }) (v := ?_) rfl (by kernel_rfl) (by kernel_rfl) (by kernel_rfl) (fun _ _ _ h => h) (Or.inl ⟨by rfl, ?_⟩) (by assumption) ?_
          rotate_left
          · (intro w hSw; (try dsimp only at hSw); go_simp; (try with_reducible rfl))
          simp only [Act.put, List.setIfInBounds_toArray, List.set_cons_zero, List.set_cons_succ]
          refine wpAnyH_done (by kernel_rfl) ?_ _
          have HTN := Lib.hid (show q4 = true → ∀ j, j < k + 1 → j < (thsOf xs).length → thAt rev uid S (thsOf xs) j = true from fun hq j hj hjl => by
              rcases Nat.lt_succ_iff_lt_or_eq.1 hj with hj | rfl
              · exact HT.out j hj hjl
              · rw [HA4.out]; exact hq)
          cases q4 with
          | true =>
            go_wp2
            go_roundw
            case rel => exact ⟨k + 1, l6, v6', by omega, by go_num, HTN.out rfl, MEM6.out, by omega, ASC6.out, (B7.block _ X6'.out.lt).trans X6'.out, own_below O6'.out B7, B6.out.trans (B7.mono (by omega))⟩
            case measure => simp [intOf]; omega
          | false =>
            have HN := Lib.hid (things_no (rev := rev) (uid := uid) (S := S) hltT HA4.out)
            go_wp2
            go_ret
            exact ⟨by rw [HN.out]; rfl, B1.out.trans ((B6.out.trans (B7.mono (by omega))).mono (by omega))⟩
      · have HS := Lib.hid (show thingsB rev uid S (thsOf xs) = true by
          rw [things_all (k := k) (by rw [thsOf_len]; omega) HT.out, thsOf_len, decide_eq_true H10.out])
        go_wp2
        go_ret
        exact ⟨by rw [HS.out]; rfl, B1.out.trans (HB.out.mono (by omega))⟩
  · have g1 : (10 : Int) < (xs.length : Int) := by omega
    have HF := Lib.hid (show thingsB rev uid S (thsOf xs) = false by unfold thingsB; rw [thsOf_len, decide_eq_false h10]; rfl)
    go_enter Tryz.func69, Tryz.ntmps69
    go_wp2
    go_ret
    exact ⟨by rw [HF.out]; rfl, (by repeat (first | exact Below.refl _ _ | (refine Below.alloc ?_ (by first | (simp; done) | (simp; omega)) _) | (refine Below.setCell ?_ (by first | (simp; done) | (simp; omega)) _) | (refine Below.drew ?_)))⟩
end Go.Proofs.YtbioljpjpflboaaGreatDoor

/- Whether a model is ok, of the program: ModelOk; that both answers are one. -/
namespace Go.Proofs.YtbioljpjpflboaaGreatDoor
open Go Go.RowKit

def modelI (m : ModelD) : Bool := inB m.rev 0 99999 && (inB m.uid 0 99999 && (decide (0 ≤ m.flo) && (decide (m.flo ≤ m.rev) && (mspsOk m.rev m.sps && (thingsB m.rev m.uid m.sps m.ths && (usesEqB m.sps m.uses m.ths && pastsB m.rev m.flo m.pasts))))))
theorem sum_le {α : Type} {f : α → Nat} {l : List α} {c : Nat} (h : ∀ x ∈ l, f x ≤ c) : sumTo f l l.length ≤ c * l.length := by
  unfold sumTo
  rw [List.take_length]
  induction l with
  | nil => simp
  | cons a r ih =>
    have h1 := h a (by simp)
    have h2 := ih (fun x hx => h x (by simp [hx]))
    simp only [List.map_cons, List.sum_cons, List.length_cons, Nat.mul_add, Nat.mul_one]
    omega
theorem sumS_in {S : List SpaceD} {T : List ThingD} (hl : T.length ≤ 10) (ht : T.all thingB = true) (x : ByteArray) : inB (sumS S T x) 0 99999 = true := by
  have h1 : sumTo (addsN S x) T T.length ≤ 41 * T.length := sum_le fun t h => by
    have hb := List.all_eq_true.1 ht t h
    unfold thingB bodyB1 at hb
    simp only [Bool.and_eq_true, decide_eq_true_eq] at hb
    have := hb.2.2.2.2.2.1.1
    unfold addsN
    split <;> omega
  unfold sumS inB
  exact decide_eq_true (by omega)
theorem things_parts {rev uid : Int} {S : List SpaceD} {T : List ThingD} (h : thingsB rev uid S T = true) : T.length ≤ 10 ∧ T.all thingB = true := by
  unfold thingsB at h
  simp only [Bool.and_eq_true, decide_eq_true_eq] at h
  refine ⟨h.1, List.all_eq_true.2 fun t ht => ?_⟩
  obtain ⟨i, hi, rfl⟩ := List.mem_iff_getElem.1 ht
  have h2 := List.all_eq_true.1 h.2 i (List.mem_range.2 hi)
  unfold thAt at h2
  simp only [Bool.and_eq_true] at h2
  have h3 := h2.1
  rw [List.getD_eq_getElem?_getD, List.getElem?_eq_getElem hi] at h3
  exact h3
theorem uses_same {rev uid : Int} {S : List SpaceD} {U : List UseD} {T : List ThingD} (hs : spsOk S = true) (ht : thingsB rev uid S T = true) : (usesEqB S U T && revsTo rev S S.length) = (usesB S U && mAll rev S U T) := by
  obtain ⟨h10, hall⟩ := things_parts ht
  have hu : ∀ x, useSum S T x = sumS S T x := fun x => useSum_yes (by rw [hs, hall]; rfl)
  rw [Bool.eq_iff_iff, Bool.and_eq_true, Bool.and_eq_true]
  constructor
  · rintro ⟨h1, h2⟩
    unfold usesEqB at h1
    simp only [Bool.and_eq_true, decide_eq_true_eq] at h1
    obtain ⟨hl, h1⟩ := h1
    have hi : ∀ i (h : i < U.length), U[i].1 = (S[i]'(by omega)).1 ∧ U[i].2 = sumS S T (S[i]'(by omega)).1 := fun i h => by
      have h3 := List.all_eq_true.1 h1 i (List.mem_range.2 h)
      rw [useAt_eq h (by omega)] at h3
      simp only [Bool.and_eq_true, decide_eq_true_eq] at h3
      exact ⟨h3.1, by rw [h3.2, hu, h3.1]⟩
    constructor
    · unfold usesB upto
      rw [decide_eq_true hl, Bool.true_and, List.all_eq_true]
      intro i hr
      have h := List.mem_range.1 hr
      unfold useP
      rw [getD_us h, nmS_at (by omega), decide_eq_true (hi i h).1, (hi i h).2, sumS_in h10 hall]
      rfl
    · refine mAll_yes (Nat.le_refl _) fun i _ h => ?_
      rw [mAt_eq h (by omega), decide_eq_true (hi i (by omega)).2]
      unfold revsTo at h2
      rw [List.take_length] at h2
      rw [List.all_eq_true.1 h2 S[i] (List.getElem_mem h)]
      rfl
  · rintro ⟨h1, h2⟩
    have hl := usesB_len h1
    unfold usesB upto at h1
    rw [decide_eq_true hl, Bool.true_and] at h1
    have hm : ∀ i (h : i < S.length), (!decide (rev < S[i].2.2.2.2)) = true ∧ (U[i]'(by omega)).2 = sumS S T S[i].1 := fun i h => by
      have h3 := List.all_eq_true.1 h2 i (List.mem_range.2 h)
      rw [mAt_eq h (by omega)] at h3
      simp only [Bool.and_eq_true, decide_eq_true_eq] at h3
      exact h3
    constructor
    · refine uses_all hl (Nat.le_refl _) fun i _ h => ?_
      have h3 := List.all_eq_true.1 h1 i (List.mem_range.2 h)
      unfold useP at h3
      rw [getD_us h, nmS_at (by omega)] at h3
      simp only [Bool.and_eq_true, decide_eq_true_eq] at h3
      rw [useAt_eq h (by omega), decide_eq_true h3.1, hu, h3.1, (hm i (by omega)).2]
      simp
    · unfold revsTo
      rw [List.take_length, List.all_eq_true]
      intro x hx
      obtain ⟨i, hi, rfl⟩ := List.mem_iff_getElem.1 hx
      exact (hm i hi).1
theorem modelI_eq (m : ModelD) : modelI m = modelB m := by
  unfold modelI modelB mspsOk
  have e : inB m.flo 0 m.rev = (decide (0 ≤ m.flo) && decide (m.flo ≤ m.rev)) := by
    unfold inB; rw [Bool.decide_and]
  rw [e]
  cases inB m.rev 0 99999
  · rfl
  cases inB m.uid 0 99999
  · rfl
  cases decide (0 ≤ m.flo)
  · rfl
  cases decide (m.flo ≤ m.rev)
  · rfl
  cases hs : spsOk m.sps with
  | false => rfl
  | true =>
    cases ht : thingsB m.rev m.uid m.sps m.ths with
    | false => cases usesB m.sps m.uses <;> cases revsTo m.rev m.sps m.sps.length <;> rfl
    | true =>
      have h := uses_same (U := m.uses) hs ht
      cases h1 : usesEqB m.sps m.uses m.ths <;> cases h2 : revsTo m.rev m.sps m.sps.length <;> cases h3 : usesB m.sps m.uses <;> cases h4 : mAll m.rev m.sps m.uses m.ths <;> rw [h1, h2, h3, h4] at h <;> first | (cases h; done) | (cases pastsB m.rev m.flo m.pasts <;> rfl)
theorem mSpaces_is {v : Value} {m : ModelD} {w : World} {q : Bool} (hq : mspsOk m.rev m.sps = q) (h : VnModel w v m) (hbs : (bulkSpaceS m.sps : Int) ≤ 1048576) :
    Calls Tryz.prog 68 #[v] w fun e w' => e = .returned (.bool q) ∧ Below w.heap.size w w' := by
  subst hq
  exact modelSpaces_any h hbs
theorem mThings_is {v : Value} {m : ModelD} {w : World} {q : Bool} (hq : thingsB m.rev m.uid m.sps m.ths = q) (h : VnModel w v m) (hb : (bulkThingS m.ths : Int) ≤ 1048576) (hbs : (bulkSpaceS m.sps : Int) ≤ 1048576) (hok : spsOk m.sps = true) :
    Calls Tryz.prog 69 #[v] w fun e w' => e = .returned (.bool q) ∧ Below w.heap.size w w' := by
  subst hq
  exact modelThings_any h hb hbs hok
theorem mUses_is {v : Value} {m : ModelD} {w : World} {q : Bool} (hq : usesEqB m.sps m.uses m.ths = q) (h : VnModel w v m) (hb : (bulkThingS m.ths : Int) ≤ 1048576) (hbs : (bulkSpaceS m.sps : Int) ≤ 1048576) (hbu : (bulkUseS m.uses : Int) ≤ 1048576) :
    Calls Tryz.prog 70 #[v] w fun e w' => e = .returned (.bool q) ∧ Below w.heap.size w w' := by
  subst hq
  exact modelUses_any h hb hbs hbu
theorem mPasts_is {v : Value} {m : ModelD} {w : World} {q : Bool} (hq : pastsB m.rev m.flo m.pasts = q) (h : VwModel w v m) (hr : 0 ≤ m.rev ∧ m.rev ≤ 99999) (hf : 0 ≤ m.flo ∧ m.flo ≤ m.rev) (hb : (bulkPastS m.pasts : Int) ≤ 1048576) :
    Calls Tryz.prog 71 #[v] w fun e w' => e = .returned (.bool q) ∧ Below w.heap.size w w' := by
  subst hq
  exact modelPasts_any h hr hf hb
set_option maxRecDepth 100000 in
set_option maxHeartbeats 20000000 in
theorem implModelOk_any {v : Value} {m : ModelD} {w : World} (h : VnModel w v m) (hb : (bulkModel m : Int) ≤ 1048576) :
    Calls Tryz.prog 28 #[v] w fun e w' => e = .returned (.bool (modelB m)) ∧ Below w.heap.size w w' := by
  obtain ⟨hbs, hbu, hbt, hbp⟩ := bulk_parts hb
  have HV := Lib.hid h
  rw [← modelI_eq]
  obtain ⟨v3, v4, v5, v6, rfl, h3, h4, h5, h6⟩ := h
  obtain ⟨rev, uid, flo, S, U, T, P⟩ := m
  simp only at h3 h4 h5 h6 hbs hbu hbt hbp ⊢
  obtain ⟨a3, ca3, rfl, hl3, hk3⟩ := h3
  obtain ⟨a4, ca4, rfl, hl4, -⟩ := h4
  obtain ⟨a5, ca5, xs, rfl, hl5, rfl, hk5, -⟩ := h5
  obtain ⟨a6, ca6, rfl, hl6, -⟩ := h6
  have hsl := bulkSpaceS_len hbs
  obtain ⟨q1, hq1⟩ : ∃ q, inB rev 0 99999 = q := ⟨_, rfl⟩
  obtain ⟨q2, hq2⟩ : ∃ q, inB uid 0 99999 = q := ⟨_, rfl⟩
  obtain ⟨q5, hq5⟩ : ∃ q, mspsOk rev S = q := ⟨_, rfl⟩
  obtain ⟨q6, hq6⟩ : ∃ q, thingsB rev uid S (thsOf xs) = q := ⟨_, rfl⟩
  obtain ⟨q7, hq7⟩ : ∃ q, usesEqB S U (thsOf xs) = q := ⟨_, rfl⟩
  obtain ⟨q8, hq8⟩ : ∃ q, pastsB rev flo P = q := ⟨_, rfl⟩
  have HM := Lib.hid (show modelI ⟨rev, uid, flo, S, U, thsOf xs, P⟩ = (q1 && (q2 && (decide (0 ≤ flo) && (decide (flo ≤ rev) && (q5 && (q6 && (q7 && q8))))))) by
    unfold modelI
    simp only [hq1, hq2, hq5, hq6, hq7, hq8])
  have Q1 := Lib.hid hq1
  have Q2 := Lib.hid hq2
  have Q5 := Lib.hid hq5
  have Q6 := Lib.hid hq6
  have Q7 := Lib.hid hq7
  have Q8 := Lib.hid hq8
  clear hl3 hk3 hl4 hl5 hk5 hl6 hq1 hq2 hq5 hq6 hq7 hq8 hb
  go_enter Tryz.func28, Tryz.ntmps28
  go_wp2_with fail
  obtain ⟨w1, hA⟩ : ∃ wA, w.alloc (.cells #[.int .i64 rev, .int .i64 uid, .int .i64 flo, .slice a3 S.length ca3, .slice a4 U.length ca4, .slice a5 xs.length ca5, .slice a6 P.length ca6] 35) = wA := ⟨_, rfl⟩
  have BX := Lib.hid (show Box w1 w.heap.size [.int .i64 rev, .int .i64 uid, .int .i64 flo, .slice a3 S.length ca3, .slice a4 U.length ca4, .slice a5 xs.length ca5, .slice a6 P.length ca6] by rw [← hA]; exact Box.alloc w _ _)
  have B1 := Lib.hid (show Below w.heap.size w w1 by rw [← hA]; exact below_alloc _ _)
  have KS := Lib.hid (show ∀ W, Below w1.heap.size w1 W → W.cell? ⟨w.heap.size, 0, none⟩ = some (.int .i64 rev) ∧ W.cell? ⟨w.heap.size, 1, none⟩ = some (.int .i64 uid) ∧ W.cell? ⟨w.heap.size, 2, none⟩ = some (.int .i64 flo) ∧ W.cell? ⟨w.heap.size, 3, none⟩ = some (.slice a3 S.length ca3) ∧ W.cell? ⟨w.heap.size, 4, none⟩ = some (.slice a4 U.length ca4) ∧ W.cell? ⟨w.heap.size, 5, none⟩ = some (.slice a5 xs.length ca5) ∧ W.cell? ⟨w.heap.size, 6, none⟩ = some (.slice a6 P.length ca6) from fun W hb => by
    have h := BX.out.below hb
    exact ⟨(h 0 _ rfl).1, (h 1 _ rfl).1, (h 2 _ rfl).1, (h 3 _ rfl).1, (h 4 _ rfl).1, (h 5 _ rfl).1, (h 6 _ rfl).1⟩)
  have z1 : w1.heap.size = w.heap.size + 1 := by rw [← hA, World.size_alloc]
  have HF := Lib.hid (show ∀ W, Below w1.heap.size w1 W → Below w.heap.size w W from fun W hb => B1.out.trans (hb.mono (by omega)))
  rw [hA]
  clear hA
  obtain ⟨y0, y1, y2, y3, y4, y5, y6⟩ := KS.out _ (Below.refl _ _)
  skip
  refine (count_is Q1.out _).mono ?_
  rintro e w' ⟨rfl, rfl⟩
  cases q1 with
  | false =>
    have HN := Lib.hid (HM.out.trans (show _ = false by rfl))
    go_wp2
    go_ret
    exact ⟨by rw [HN.out]; rfl, HF.out _ (Below.refl _ _)⟩
  | true =>
  go_wp2_with fail
  refine (count_is Q2.out _).mono ?_
  rintro e w' ⟨rfl, rfl⟩
  cases q2 with
  | false =>
    have HN := Lib.hid (HM.out.trans (show _ = false by rfl))
    go_wp2
    go_ret
    exact ⟨by rw [HN.out]; rfl, HF.out _ (Below.refl _ _)⟩
  | true =>
  by_cases f1 : 0 ≤ flo
  rotate_left
  · have HN := Lib.hid (HM.out.trans (show _ = false by rw [decide_eq_false f1]; first | done | rfl))
    go_wp2
    go_ret
    exact ⟨by rw [HN.out]; rfl, HF.out _ (Below.refl _ _)⟩
  by_cases f2 : flo ≤ rev
  rotate_left
  · have HN := Lib.hid (HM.out.trans (show _ = false by rw [decide_eq_true f1, decide_eq_false f2]; first | done | rfl))
    go_wp2
    go_ret
    exact ⟨by rw [HN.out]; rfl, HF.out _ (Below.refl _ _)⟩
  have hr0 : 0 ≤ rev ∧ rev ≤ 99999 := of_decide_eq_true Q1.out
  have HD := Lib.hid (HM.out.trans (show _ = (q5 && (q6 && (q7 && q8))) by rw [decide_eq_true f1, decide_eq_true f2]; rfl))
  have HM := HD
  go_wp2_with fail
  refine (mSpaces_is Q5.out (HV.out.below B1.out) hbs).mono ?_
  rintro e w6 ⟨rfl, b6⟩
  have B6 := Lib.hid (b6)
  clear y0 y1 y2 y3 y4 y5 y6 b6
  obtain ⟨y0, y1, y2, y3, y4, y5, y6⟩ := KS.out _ B6.out
  cases q5 with
  | false =>
    have HN := Lib.hid (HM.out.trans (show _ = false by rfl))
    go_wp2
    go_ret
    exact ⟨by rw [HN.out]; rfl, HF.out _ B6.out⟩
  | true =>
  have HOK := Lib.hid (show spsOk S = true by have h := Q5.out; unfold mspsOk at h; rw [Bool.and_eq_true] at h; exact h.1)
  go_wp2_with fail
  refine (mThings_is Q6.out ((HV.out.below B1.out).below B6.out) hbt hbs HOK.out).mono ?_
  rintro e w7 ⟨rfl, b7⟩
  have B7 := Lib.hid (B6.out.trans (b7.mono B6.out.size))
  clear y0 y1 y2 y3 y4 y5 y6 b7
  obtain ⟨y0, y1, y2, y3, y4, y5, y6⟩ := KS.out _ B7.out
  cases q6 with
  | false =>
    have HN := Lib.hid (HM.out.trans (show _ = false by rfl))
    go_wp2
    go_ret
    exact ⟨by rw [HN.out]; rfl, HF.out _ B7.out⟩
  | true =>
  go_wp2_with fail
  refine (mUses_is Q7.out ((HV.out.below B1.out).below B7.out) hbt hbs hbu).mono ?_
  rintro e w8 ⟨rfl, b8⟩
  have B8 := Lib.hid (B7.out.trans (b8.mono B7.out.size))
  clear y0 y1 y2 y3 y4 y5 y6 b8
  obtain ⟨y0, y1, y2, y3, y4, y5, y6⟩ := KS.out _ B8.out
  cases q7 with
  | false =>
    have HN := Lib.hid (HM.out.trans (show _ = false by rfl))
    go_wp2
    go_ret
    exact ⟨by rw [HN.out]; rfl, HF.out _ B8.out⟩
  | true =>
  go_wp2_with fail
  refine (mPasts_is Q8.out ((HV.out.below B1.out).below B8.out).vw hr0 ⟨f1, f2⟩ hbp).mono ?_
  rintro e w9 ⟨rfl, b9⟩
  have B9 := Lib.hid (B8.out.trans (b9.mono B8.out.size))
  clear y0 y1 y2 y3 y4 y5 y6 b9
  obtain ⟨y0, y1, y2, y3, y4, y5, y6⟩ := KS.out _ B9.out
  have HN := Lib.hid (HM.out.trans (show (true && (true && (true && q8))) = q8 by cases q8 <;> rfl))
  go_wp2
  go_ret
  exact ⟨by rw [HN.out]; rfl, HF.out _ B9.out⟩
end Go.Proofs.YtbioljpjpflboaaGreatDoor

/- How an argument that is a model is seen. -/
namespace Go.Proofs.YtbioljpjpflboaaGreatDoor
open Go Go.RowKit Go.ChangeShapes Go.WideShapes

set_option maxRecDepth 100000 in
set_option maxHeartbeats 1000000 in
theorem openModelC {H : Type} {enc : TypeId × Value → H} {w : World} (n : Nat) (cs : List Value) (y : DataW H × List MemPlace) (h : DataW.trod enc Tryz.prog w 0 (fun _ => true) true n 27 cs = some y) :
    ∃ (m : ModelD) (v3 v4 v5 v6 : Value), cs = [.int .i64 m.rev, .int .i64 m.uid, .int .i64 m.flo, v3, v4, v5, v6] ∧ VwSpaceS w v3 m.sps ∧ VwUseS w v4 m.uses ∧ VwThingS w v5 m.ths ∧ VwPastS w v6 m.pasts := by
  obtain ⟨ys, k, _, _, hl, hyl, hf⟩ := DataW.trod_struct Tryz.underlying27 h
  rw [show Tryz.prog.cellsOf 27 = 7 by kernel_rfl] at hl
  have kint : Tryz.prog.cellsOf 3 = 1 := by kernel_rfl
  have k3 : Tryz.prog.cellsOf 22 = 1 := by kernel_rfl
  have k4 : Tryz.prog.cellsOf 23 = 1 := by kernel_rfl
  have k5 : Tryz.prog.cellsOf 24 = 1 := by kernel_rfl
  have k6 : Tryz.prog.cellsOf 25 = 1 := by kernel_rfl
  match cs, hl, ys, hyl, hf with
  | [c0, c1, c2, c3, c4, c5, c6], _, [y0, y1, y2, y3, y4, y5, y6], _, hf =>
    obtain ⟨x0, e0, _, _⟩ := DataW.trod_int (fuel := k) (cs := [c0]) (x := y0) Tryz.underlying3 (by simpa [kint] using hf 0 _ rfl)
    obtain ⟨x1, e1, _, _⟩ := DataW.trod_int (fuel := k) (cs := [c1]) (x := y1) Tryz.underlying3 (by simpa [kint] using hf 1 _ rfl)
    obtain ⟨x2, e2, _, _⟩ := DataW.trod_int (fuel := k) (cs := [c2]) (x := y2) Tryz.underlying3 (by simpa [kint] using hf 2 _ rfl)
    obtain ⟨a3, l3, n3, e3, s3, o3⟩ := open_elS (fuel := k) (cs := [c3]) (x := y3) encSpace_len (by decide) Tryz.underlying22 (by kernel_rfl) openSpace (by simpa [kint, k3] using hf 3 _ rfl)
    obtain ⟨a4, l4, n4, e4, s4, o4⟩ := open_elS (fuel := k) (cs := [c4]) (x := y4) encUse_len (by decide) Tryz.underlying23 (by kernel_rfl) openUse (by simpa [kint, k3, k4] using hf 4 _ rfl)
    obtain ⟨a5, l5, n5, e5, s5, o5⟩ := open_elS (fuel := k) (cs := [c5]) (x := y5) (Ok := OkX w) encT_len (by decide) Tryz.underlying24 (by kernel_rfl) (fun n cs y h => by
      obtain ⟨a, c, t, hc, h1, h2⟩ := openThingC n cs y h
      exact ⟨(a, c, t), hc, h1, h2⟩) (by simpa [kint, k3, k4, k5] using hf 5 _ rfl)
    obtain ⟨a6, l6, n6, e6, s6, o6⟩ := open_elS (fuel := k) (cs := [c6]) (x := y6) encPast_len (by decide) Tryz.underlying25 (by kernel_rfl) openPast (by simpa [kint, k3, k4, k5, k6] using hf 6 _ rfl)
    exact ⟨⟨x0, x1, x2, l3, l4, thsOf l5, l6⟩, _, _, _, _, by rw [List.cons_eq_cons.1 e0 |>.1, List.cons_eq_cons.1 e1 |>.1, List.cons_eq_cons.1 e2 |>.1, List.cons_eq_cons.1 e3 |>.1, List.cons_eq_cons.1 e4 |>.1, List.cons_eq_cons.1 e5 |>.1, List.cons_eq_cons.1 e6 |>.1],
      ⟨a3, n3, rfl, s3, o3⟩, ⟨a4, n4, rfl, s4, o4⟩, ⟨a5, n5, l5, rfl, s5, rfl, o5⟩, ⟨a6, n6, rfl, s6, o6⟩⟩

set_option maxRecDepth 100000 in
theorem openModel {H : Type} {enc : TypeId × Value → H} {w : World} {r : Reach} {b0 : Nat} {v : Value} {d : DataW H} {p : List MemPlace} (hv : Value.okWide Tryz.prog w r b0 27 v) (h : DataW.Trod enc Tryz.prog w 0 (fun _ => true) true 27 v d p) :
    ∃ m, VwModel w v m := by
  obtain ⟨cs, rfl, hsz⟩ := okWide_struct Tryz.underlying27 hv
  obtain ⟨n, hn⟩ := h
  obtain ⟨m, v3, v4, v5, v6, hc, h3, h4, h5, h6⟩ := openModelC n _ _ hn
  refine ⟨m, v3, v4, v5, v6, ?_, h3, h4, h5, h6⟩
  simp only [Value.cells] at hc
  congr 1
  apply Array.ext'
  simpa using hc
end Go.Proofs.YtbioljpjpflboaaGreatDoor
