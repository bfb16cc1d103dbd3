import Derived.Test.YtdimenahnohjlaaGreatModelT
import Derived.Test.YtdimenahnohjlaaGreatUseS
/- Whether a model is ok, of the model: ModelOk. -/
namespace Go.Proofs.YtdimenahnohjlaaGreat
open Go Go.RowKit

def mAt (rev : Int) (S : List SpaceD) (U : List UseD) (T : List ThingD) (i : Nat) : Bool := !decide (rev < (S.getD i default).2.2.2.2) && decide ((U.getD i default).2 = sumS S T (S.getD i default).1)
def mAll (rev : Int) (S : List SpaceD) (U : List UseD) (T : List ThingD) : Bool := (List.range S.length).all (mAt rev S U T)
def modelB (m : ModelD) : Bool := inB m.rev 0 99999 && (inB m.uid 0 99999 && (inB m.flo 0 m.rev && (spsOk m.sps && (usesB m.sps m.uses && (thingsB m.rev m.uid m.sps m.ths && (pastsB m.rev m.flo m.pasts && mAll m.rev m.sps m.uses m.ths))))))
theorem mAt_eq {rev : Int} {S : List SpaceD} {U : List UseD} {T : List ThingD} {i : Nat} (h : i < S.length) (h2 : i < U.length) : mAt rev S U T i = (!decide (rev < S[i].2.2.2.2) && decide (U[i].2 = sumS S T S[i].1)) := by simp [mAt, h, h2]
theorem mAll_no {rev : Int} {S : List SpaceD} {U : List UseD} {T : List ThingD} {i : Nat} (h : i < S.length) (hi : mAt rev S U T i = false) : mAll rev S U T = false := by
  unfold mAll
  exact List.all_eq_false.2 ⟨i, List.mem_range.2 h, by rw [hi]; simp⟩
theorem mAll_yes {rev : Int} {S : List SpaceD} {U : List UseD} {T : List ThingD} {k : Nat} (hk : S.length ≤ k) (h : ∀ i, i < k → i < S.length → mAt rev S U T i = true) : mAll rev S U T = true := by
  unfold mAll
  exact List.all_eq_true.2 fun i hi => h i (Nat.lt_of_lt_of_le (List.mem_range.1 hi) hk) (List.mem_range.1 hi)
theorem usesB_len {S : List SpaceD} {U : List UseD} (h : usesB S U = true) : U.length = S.length := by
  unfold usesB at h
  simp only [Bool.and_eq_true, decide_eq_true_eq] at h
  exact h.1
theorem l8Uses_isM {a b : Option Addr} {l : List SpaceD} {u : List UseD} {w : World} (hl : ElS 5 encSpace w a l) (hu : ElS 2 encUse w b u) {q : Bool} (h : usesB l u = q) (ca cb : Nat) :
    Calls Tryz.prog 45 #[.slice a l.length ca, .slice b u.length cb] w fun e w' => e = .returned (.bool q) ∧ Below w.heap.size w w' :=
  (l8Uses_any a b ca cb l u w hl hu).mono fun _ _ ⟨h1, k⟩ => ⟨by rw [h1, h], k⟩
theorem l10Things_is {v : Value} {m : ModelD} {w : World} {q : Bool} (hq : thingsB m.rev m.uid m.sps m.ths = q) (h : VwModel w v m) (hb : (bulkThingS m.ths : Int) ≤ 1048576) (hbs : (bulkSpaceS m.sps : Int) ≤ 1048576) :
    Calls Tryz.prog 46 #[v] w fun e w' => e = .returned (.bool q) ∧ Below w.heap.size w w' := by
  subst hq
  exact l10Things_any h hb hbs
theorem l10Pasts_is {v : Value} {m : ModelD} {w : World} {q : Bool} (hq : pastsB m.rev m.flo m.pasts = q) (h : VwModel w v m) (hr : 0 ≤ m.rev ∧ m.rev ≤ 99999) (hf : 0 ≤ m.flo ∧ m.flo ≤ m.rev) (hb : (bulkPastS m.pasts : Int) ≤ 1048576) :
    Calls Tryz.prog 47 #[v] w fun e w' => e = .returned (.bool q) ∧ Below w.heap.size w w' := by
  subst hq
  exact l10Pasts_any h hr hf hb
theorem l8Sum_is {a b : Option Addr} {ca cb : Nat} {l : List SpaceD} {xs : List ThX} {name : ByteArray} {z : Int} (hz : sumS l (thsOf xs) name = z) {w : World} (hl : ElS 5 encSpace w a l) (hok : ∀ x ∈ l, OkSpace x) (hu : ElS 7 encT w b xs) (hxk : ∀ x ∈ xs, OkX w x) (hb : (bulkThingS (thsOf xs) : Int) ≤ 1048576) :
    Calls Tryz.prog 48 #[.slice a l.length ca, .slice b xs.length cb, .string name] w fun e w' => e = .returned (.int .i64 z) ∧ Below w.heap.size w w' := by
  subst hz
  exact l8Sum_any a b ca cb l xs name w hl hok hu hxk hb
theorem bulk_parts {m : ModelD} (h : (bulkModel m : Int) ≤ 1048576) : (bulkSpaceS m.sps : Int) ≤ 1048576 ∧ (bulkUseS m.uses : Int) ≤ 1048576 ∧ (bulkThingS m.ths : Int) ≤ 1048576 ∧ (bulkPastS m.pasts : Int) ≤ 1048576 := by
  unfold bulkModel at h
  omega
set_option maxRecDepth 100000 in
set_option maxHeartbeats 20000000 in
theorem specModelOk_any {v : Value} {m : ModelD} {w : World} (h : VwModel w v m) (hb : (bulkModel m : Int) ≤ 1048576) :
    Calls Tryz.prog 23 #[v] w fun e w' => e = .returned (.bool (modelB m)) ∧ Below w.heap.size w w' := by
  obtain ⟨hbs, hbu, hbt, hbp⟩ := bulk_parts hb
  have HV := Lib.hid h
  obtain ⟨v3, v4, v5, v6, rfl, h3, h4, h5, h6⟩ := h
  obtain ⟨rev, uid, flo, S, U, T, P⟩ := m
  simp only at h3 h4 h5 h6 hbs hbu hbt hbp ⊢
  obtain ⟨a3, ca3, rfl, hl3, hk3⟩ := h3
  obtain ⟨a4, ca4, rfl, hl4, -⟩ := h4
  obtain ⟨a5, ca5, xs, rfl, hl5, rfl, hk5⟩ := h5
  obtain ⟨a6, ca6, rfl, hl6, -⟩ := h6
  have hsl := bulkSpaceS_len hbs
  have HX3 := Lib.hid hl3
  have HK3 := Lib.hid hk3
  have HX4 := Lib.hid hl4
  have HX5 := Lib.hid hl5
  have HK5 := Lib.hid hk5
  obtain ⟨q1, hq1⟩ : ∃ q, inB rev 0 99999 = q := ⟨_, rfl⟩
  obtain ⟨q2, hq2⟩ : ∃ q, inB uid 0 99999 = q := ⟨_, rfl⟩
  obtain ⟨q3, hq3⟩ : ∃ q, inB flo 0 rev = q := ⟨_, rfl⟩
  obtain ⟨q4, hq4⟩ : ∃ q, spsOk S = q := ⟨_, rfl⟩
  obtain ⟨q5, hq5⟩ : ∃ q, usesB S U = q := ⟨_, rfl⟩
  obtain ⟨q6, hq6⟩ : ∃ q, thingsB rev uid S (thsOf xs) = q := ⟨_, rfl⟩
  obtain ⟨q7, hq7⟩ : ∃ q, pastsB rev flo P = q := ⟨_, rfl⟩
  have HM := Lib.hid (show modelB ⟨rev, uid, flo, S, U, thsOf xs, P⟩ = (q1 && (q2 && (q3 && (q4 && (q5 && (q6 && (q7 && mAll rev S U (thsOf xs)))))))) by
    unfold modelB
    simp only [hq1, hq2, hq3, hq4, hq5, hq6, hq7])
  have Q1 := Lib.hid hq1
  have Q2 := Lib.hid hq2
  have Q3 := Lib.hid hq3
  have Q4 := Lib.hid hq4
  have Q5 := Lib.hid hq5
  have Q6 := Lib.hid hq6
  have Q7 := Lib.hid hq7
  clear hl3 hk3 hl4 hl5 hk5 hl6 hq1 hq2 hq3 hq4 hq5 hq6 hq7 hb
  go_enter Tryz.func23, Tryz.ntmps23
  go_wp2_with fail
  obtain ⟨w1, hA⟩ : ∃ wA, w.alloc (.cells #[.int .i64 rev, .int .i64 uid, .int .i64 flo, .slice a3 S.length ca3, .slice a4 U.length ca4, .slice a5 xs.length ca5, .slice a6 P.length ca6] 36) = wA := ⟨_, rfl⟩
  have BX := Lib.hid (show Box w1 w.heap.size [.int .i64 rev, .int .i64 uid, .int .i64 flo, .slice a3 S.length ca3, .slice a4 U.length ca4, .slice a5 xs.length ca5, .slice a6 P.length ca6] by rw [← hA]; exact Box.alloc w _ _)
  have B1 := Lib.hid (show Below w.heap.size w w1 by rw [← hA]; exact below_alloc _ _)
  have KS := Lib.hid (show ∀ W, Below w1.heap.size w1 W → W.cell? ⟨w.heap.size, 0, none⟩ = some (.int .i64 rev) ∧ W.cell? ⟨w.heap.size, 1, none⟩ = some (.int .i64 uid) ∧ W.cell? ⟨w.heap.size, 2, none⟩ = some (.int .i64 flo) ∧ W.cell? ⟨w.heap.size, 3, none⟩ = some (.slice a3 S.length ca3) ∧ W.cell? ⟨w.heap.size, 4, none⟩ = some (.slice a4 U.length ca4) ∧ W.cell? ⟨w.heap.size, 5, none⟩ = some (.slice a5 xs.length ca5) ∧ W.cell? ⟨w.heap.size, 6, none⟩ = some (.slice a6 P.length ca6) from fun W hb => by
    have h := BX.out.below hb
    exact ⟨(h 0 _ rfl).1, (h 1 _ rfl).1, (h 2 _ rfl).1, (h 3 _ rfl).1, (h 4 _ rfl).1, (h 5 _ rfl).1, (h 6 _ rfl).1⟩)
  have z1 : w1.heap.size = w.heap.size + 1 := by rw [← hA, World.size_alloc]
  have HF := Lib.hid (show ∀ W, Below w1.heap.size w1 W → Below w.heap.size w W from fun W hb => B1.out.trans (hb.mono (by omega)))
  rw [hA]
  clear hA
  obtain ⟨y0, y1, y2, y3, y4, y5, y6⟩ := KS.out _ (Below.refl _ _)
  skip
  refine (in_isP Q1.out _).mono ?_
  rintro e w' ⟨rfl, rfl⟩
  cases q1 with
  | false =>
    have HN := Lib.hid (HM.out.trans (by rfl))
    go_wp2
    go_ret
    exact ⟨by rw [HN.out]; rfl, HF.out _ (Below.refl _ _)⟩
  | true =>
  go_wp2_with fail
  refine (in_isP Q2.out _).mono ?_
  rintro e w' ⟨rfl, rfl⟩
  cases q2 with
  | false =>
    have HN := Lib.hid (HM.out.trans (by rfl))
    go_wp2
    go_ret
    exact ⟨by rw [HN.out]; rfl, HF.out _ (Below.refl _ _)⟩
  | true =>
  go_wp2_with fail
  refine (in_isP Q3.out _).mono ?_
  rintro e w' ⟨rfl, rfl⟩
  cases q3 with
  | false =>
    have HN := Lib.hid (HM.out.trans (by rfl))
    go_wp2
    go_ret
    exact ⟨by rw [HN.out]; rfl, HF.out _ (Below.refl _ _)⟩
  | true =>
  go_wp2_with fail
  refine (specSpaces_is (HX3.out.below B1.out) HK3.out hsl Q4.out ca3).mono ?_
  rintro e w5 ⟨rfl, b5⟩
  have B5 := Lib.hid (b5)
  clear y0 y1 y2 y3 y4 y5 y6 b5
  obtain ⟨y0, y1, y2, y3, y4, y5, y6⟩ := KS.out _ B5.out
  cases q4 with
  | false =>
    have HN := Lib.hid (HM.out.trans (by rfl))
    go_wp2
    go_ret
    exact ⟨by rw [HN.out]; rfl, HF.out _ B5.out⟩
  | true =>
  go_wp2_with fail
  refine (l8Uses_isM ((HX3.out.below B1.out).below B5.out) ((HX4.out.below B1.out).below B5.out) Q5.out ca3 ca4).mono ?_
  rintro e w6 ⟨rfl, b6⟩
  have B6 := Lib.hid (B5.out.trans (b6.mono B5.out.size))
  clear y0 y1 y2 y3 y4 y5 y6 b6
  obtain ⟨y0, y1, y2, y3, y4, y5, y6⟩ := KS.out _ B6.out
  cases q5 with
  | false =>
    have HN := Lib.hid (HM.out.trans (by rfl))
    go_wp2
    go_ret
    exact ⟨by rw [HN.out]; rfl, HF.out _ B6.out⟩
  | true =>
  go_wp2_with fail
  refine (l10Things_is Q6.out ((HV.out.below B1.out).below B6.out) hbt hbs).mono ?_
  rintro e w7 ⟨rfl, b7⟩
  have B7 := Lib.hid (B6.out.trans (b7.mono B6.out.size))
  clear y0 y1 y2 y3 y4 y5 y6 b7
  obtain ⟨y0, y1, y2, y3, y4, y5, y6⟩ := KS.out _ B7.out
  cases q6 with
  | false =>
    have HN := Lib.hid (HM.out.trans (by rfl))
    go_wp2
    go_ret
    exact ⟨by rw [HN.out]; rfl, HF.out _ B7.out⟩
  | true =>
  have hr0 : 0 ≤ rev ∧ rev ≤ 99999 := of_decide_eq_true Q1.out
  have hf0 : 0 ≤ flo ∧ flo ≤ rev := of_decide_eq_true Q3.out
  go_wp2_with fail
  refine (l10Pasts_is Q7.out ((HV.out.below B1.out).below B7.out) hr0 hf0 hbp).mono ?_
  rintro e w8 ⟨rfl, b8⟩
  have B8 := Lib.hid (B7.out.trans (b8.mono B7.out.size))
  clear y0 y1 y2 y3 y4 y5 y6 b8
  obtain ⟨y0, y1, y2, y3, y4, y5, y6⟩ := KS.out _ B8.out
  cases q7 with
  | false =>
    have HN := Lib.hid (HM.out.trans (by rfl))
    go_wp2
    go_ret
    exact ⟨by rw [HN.out]; rfl, HF.out _ B8.out⟩
  | true =>
  have hul := usesB_len Q5.out
  have HUL := Lib.hid hul
  clear hul hr0 hf0
  go_wp2_with fail
  go_loopw [3] (fun i wr => ∃ k : Nat, k ≤ S.length ∧ i = .int .i64 k ∧ (∀ j, j < k → j < S.length → mAt rev S U (thsOf xs) j = true) ∧ Below w1.heap.size w1 wr) (fun i _ => S.length - (intOf i).toNat)
  case atStart => exact ⟨0, Nat.zero_le _, rfl, fun j h => absurd h (Nat.not_lt_zero _), B8.out⟩
  case round =>
    clear y0 y1 y2 y3 y4 y5 y6
    obtain ⟨k, hk, rfl, hto, hbel⟩ := hrel
    have HT := Lib.hid hto
    have HB := Lib.hid hbel
    have zb := hbel.size
    clear hto
    obtain ⟨y0, y1, y2, y3, y4, y5, y6⟩ := KS.out _ hbel
    by_cases hlt : k < S.length
    · have hltU : k < U.length := by have := HUL.out; omega
      obtain ⟨bb, ob, rfl, hcb⟩ := HX3.out.2.resolve_left (by intro e; rw [e] at hlt; simp at hlt)
      obtain ⟨bu, ou, rfl, hcu⟩ := HX4.out.2.resolve_left (by intro e; rw [e] at hltU; simp at hltU)
      have HCB := Lib.hid (((HX3.out.below B1.out).2).resolve_left (by intro e; rw [e] at hlt; simp at hlt))
      have HCU := Lib.hid (((HX4.out.below B1.out).2).resolve_left (by intro e; rw [e] at hltU; simp at hltU))
      have hkI : (k : Int) < (S.length : Int) := by omega
      have hkU : (k : Int) < (U.length : Int) := by omega
      have hk0 : (0 : Int) ≤ (k : Int) := by omega
      obtain ⟨z, hz⟩ : ∃ z, sumS S (thsOf xs) S[k].1 = z := ⟨_, rfl⟩
      have HZ := Lib.hid hz
      have HAT := Lib.hid (show mAt rev S U (thsOf xs) k = (!decide (rev < S[k].2.2.2.2) && decide (U[k].2 = z)) by rw [mAt_eq hlt hltU, hz])
      have KR := Lib.hid (show ∀ W, Below wr.heap.size wr W → Below wr.heap.size wr W ∧ W.cell? ⟨w.heap.size, 0, none⟩ = some (.int .i64 rev) ∧ W.cell? ⟨w.heap.size, 3, none⟩ = some (.slice (some ⟨bb, ob, none⟩) S.length ca3) ∧ W.cell? ⟨w.heap.size, 4, none⟩ = some (.slice (some ⟨bu, ou, none⟩) U.length ca4) ∧ W.cell? ⟨w.heap.size, 5, none⟩ = some (.slice a5 xs.length ca5) ∧ W.cell? ⟨bb, ob + k * 5, none⟩ = some (.string S[k].1) ∧ W.cell? ⟨bb, ob + k * 5 + 4, none⟩ = some (.int .i64 S[k].2.2.2.2) ∧ W.cell? ⟨bu, ou + k * 2 + 1, none⟩ = some (.int .i64 U[k].2) from fun W hb => by
        have hb1 := HB.out.trans (hb.mono zb)
        have hb2 := HF.out _ hb1
        obtain ⟨y0, y1, y2, y3, y4, y5, y6⟩ := KS.out _ hb1
        obtain ⟨c0, _, _, _, c4⟩ := cellsSpace hb2 hcb k hlt
        obtain ⟨_, d1⟩ := cellsUse hb2 hcu k hltU
        exact ⟨hb, y0, y3, y4, y5, c0, c4, d1⟩)
      clear hcb hcu hbel HCB HCU hz
      by_cases hr : rev < S[k].2.2.2.2
      · have hd : decide (rev < S[k].2.2.2.2) = true := decide_eq_true hr
        have HN := Lib.hid (HM.out.trans (show (true && (true && (true && (true && (true && (true && (true && mAll rev S U (thsOf xs)))))))) = false by rw [mAll_no hlt (by rw [HAT.out, hd]; rfl)]; rfl))
        clear hr
        go_wp2_with fail
        refine wp_region_held_drew (S := fun W => Below wr.heap.size wr W ∧ W.cell? ⟨w.heap.size, 0, none⟩ = some (.int .i64 rev) ∧ W.cell? ⟨w.heap.size, 3, none⟩ = some (.slice (some ⟨bb, ob, none⟩) S.length ca3) ∧ W.cell? ⟨w.heap.size, 4, none⟩ = some (.slice (some ⟨bu, ou, none⟩) U.length ca4) ∧ W.cell? ⟨w.heap.size, 5, none⟩ = some (.slice a5 xs.length ca5) ∧ W.cell? ⟨bb, ob + k * 5, none⟩ = some (.string S[k].1) ∧ W.cell? ⟨bb, ob + k * 5 + 4, none⟩ = some (.int .i64 S[k].2.2.2.2) ∧ W.cell? ⟨bu, ou + k * 2 + 1, none⟩ = some (.int .i64 U[k].2)) (by kernel_rfl) (KR.out _ (Below.refl _ _).drew) (fun hHeld => ?_)
        refine wpAnyH_take (i := 0) (oi := { dst := some 53, op := Op.fieldAddr 36 (Operand.tmp 1) 3, type := 0, pos := "l10_model.go:52", after := _, guard := none }) (v := ?_) rfl (by kernel_rfl) (by kernel_rfl) (by kernel_rfl) (fun _ _ _ h => h) (Or.inl ⟨by rfl, ?_⟩) (by assumption) ?_
        rotate_left
        · (intro w hSw; (try dsimp only at hSw); go_simp; (try with_reducible rfl))
        simp only [Act.put, List.setIfInBounds_toArray, List.set_cons_zero, List.set_cons_succ]
        refine wpAnyH_take (i := 1) (oi := { dst := some 54, op := Op.load 31 (Operand.tmp 53), type := 31, pos := "l10_model.go:52", after := _, guard := none }) (v := ?_) rfl (by kernel_rfl) (by kernel_rfl) (by kernel_rfl) (fun _ _ _ h => h) (Or.inl ⟨by rfl, ?_⟩) (by assumption) ?_
        rotate_left
        · (intro w hSw; (try dsimp only at hSw); go_simp; (try with_reducible rfl))
        simp only [Act.put, List.setIfInBounds_toArray, List.set_cons_zero, List.set_cons_succ]
        refine wpAnyH_take (i := 2) (oi := { dst := some 55, op := Op.move (Operand.tmp 3), type := 3, pos := "l10_model.go:52", after := _, guard := none }) (v := ?_) rfl (by kernel_rfl) (by kernel_rfl) (by kernel_rfl) (fun _ _ _ h => h) (Or.inl ⟨by rfl, ?_⟩) (by assumption) ?_
        rotate_left
        · (intro w hSw; (try dsimp only at hSw); go_simp; (try with_reducible rfl))
        simp only [Act.put, List.setIfInBounds_toArray, List.set_cons_zero, List.set_cons_succ]
        refine wpAnyH_take (i := 3) (oi := { dst := some 56, op := Op.indexAddr 31 (Operand.tmp 54) (Operand.tmp 55), type := 0, pos := "l10_model.go:52", after := _, guard := none }) (v := ?_) rfl (by kernel_rfl) (by kernel_rfl) (by kernel_rfl) (fun _ _ _ h => h) (Or.inl ⟨by rfl, ?_⟩) (by assumption) ?_
        rotate_left
        · (intro w hSw; (try dsimp only at hSw); go_simp; (try with_reducible rfl))
        simp only [Act.put, List.setIfInBounds_toArray, List.set_cons_zero, List.set_cons_succ]
        refine wpAnyH_take (i := 4) (oi := { dst := some 57, op := Op.fieldAddr 82 (Operand.tmp 56) 4, type := 0, pos := "l10_model.go:52", after := _, guard := none }) (v := ?_) rfl (by kernel_rfl) (by kernel_rfl) (by kernel_rfl) (fun _ _ _ h => h) (Or.inl ⟨by rfl, ?_⟩) (by assumption) ?_
        rotate_left
        · (intro w hSw; (try dsimp only at hSw); go_simp; (try with_reducible rfl))
        simp only [Act.put, List.setIfInBounds_toArray, List.set_cons_zero, List.set_cons_succ]
        refine wpAnyH_take (i := 5) (oi := { dst := some 58, op := Op.load 3 (Operand.tmp 57), type := 3, pos := "l10_model.go:52", after := _, guard := none }) (v := ?_) rfl (by kernel_rfl) (by kernel_rfl) (by kernel_rfl) (fun _ _ _ h => h) (Or.inl ⟨by rfl, ?_⟩) (by assumption) ?_
        rotate_left
        · (intro w hSw; (try dsimp only at hSw); go_simp; (try with_reducible rfl))
        simp only [Act.put, List.setIfInBounds_toArray, List.set_cons_zero, List.set_cons_succ]
        refine wpAnyH_take (i := 6) (oi := { dst := some 59, op := Op.fieldAddr 36 (Operand.tmp 1) 0, type := 0, pos := "l10_model.go:52", after := _, guard := none }) (v := ?_) rfl (by kernel_rfl) (by kernel_rfl) (by kernel_rfl) (fun _ _ _ h => h) (Or.inl ⟨by rfl, ?_⟩) (by assumption) ?_
        rotate_left
        · (intro w hSw; (try dsimp only at hSw); go_simp; (try with_reducible rfl))
        simp only [Act.put, List.setIfInBounds_toArray, List.set_cons_zero, List.set_cons_succ]
        refine wpAnyH_take (i := 7) (oi := { dst := some 60, op := Op.load 3 (Operand.tmp 59), type := 3, pos := "l10_model.go:52", after := _, guard := none }) (v := ?_) rfl (by kernel_rfl) (by kernel_rfl) (by kernel_rfl) (fun _ _ _ h => h) (Or.inl ⟨by rfl, ?_⟩) (by assumption) ?_
        rotate_left
        · (intro w hSw; (try dsimp only at hSw); go_simp; (try with_reducible rfl))
        simp only [Act.put, List.setIfInBounds_toArray, List.set_cons_zero, List.set_cons_succ]
        refine wpAnyH_take (i := 8) (oi := { dst := some 61, op := Op.binOp BinOp.gtr 3 (Operand.tmp 58) (Operand.tmp 60) 3, type := 4, pos := "l10_model.go:52", after := _, guard := none }) (v := ?_) rfl (by kernel_rfl) (by kernel_rfl) (by kernel_rfl) (fun _ _ _ h => h) (Or.inl ⟨by rfl, ?_⟩) (by assumption) ?_
        rotate_left
        · (intro w hSw; (try dsimp only at hSw); go_simp; (try with_reducible rfl))
        simp only [Act.put, List.setIfInBounds_toArray, List.set_cons_zero, List.set_cons_succ]
        refine wpAnyH_take (i := 9) (oi := { dst := some 62, op := Op.move (Operand.tmp 61), type := 4, pos := "l10_model.go:52", after := _, guard := none }) (v := ?_) rfl (by kernel_rfl) (by kernel_rfl) (by kernel_rfl) (fun _ _ _ h => h) (Or.inl ⟨by rfl, ?_⟩) (by assumption) ?_
        rotate_left
        · (intro w hSw; (try dsimp only at hSw); go_simp; (try with_reducible rfl))
        simp only [Act.put, List.setIfInBounds_toArray, List.set_cons_zero, List.set_cons_succ]
        refine wpAnyH_take (i := 10) (oi := { dst := some 63, op := Op.fieldAddr 36 (Operand.tmp 1) 4, type := 0, pos := "l10_model.go:52", after := _, guard := some (9, false) }) (v := undef) rfl (by kernel_rfl) (by kernel_rfl) (by kernel_rfl) (fun _ _ _ h => h) (Or.inr ⟨by rfl, rfl⟩) (by assumption) ?_
        simp only [Act.put, List.setIfInBounds_toArray, List.set_cons_zero, List.set_cons_succ]
        refine wpAnyH_take (i := 11) (oi := { dst := some 64, op := Op.load 32 (Operand.tmp 63), type := 32, pos := "l10_model.go:52", after := _, guard := some (9, false) }) (v := undef) rfl (by kernel_rfl) (by kernel_rfl) (by kernel_rfl) (fun _ _ _ h => h) (Or.inr ⟨by rfl, rfl⟩) (by assumption) ?_
        simp only [Act.put, List.setIfInBounds_toArray, List.set_cons_zero, List.set_cons_succ]
        refine wpAnyH_take (i := 12) (oi := { dst := some 65, op := Op.move (Operand.tmp 3), type := 3, pos := "l10_model.go:52", after := _, guard := some (9, false) }) (v := undef) rfl (by kernel_rfl) (by kernel_rfl) (by kernel_rfl) (fun _ _ _ h => h) (Or.inr ⟨by rfl, rfl⟩) (by assumption) ?_
        simp only [Act.put, List.setIfInBounds_toArray, List.set_cons_zero, List.set_cons_succ]
        refine wpAnyH_take (i := 13) (oi := { dst := some 66, op := Op.indexAddr 32 (Operand.tmp 64) (Operand.tmp 65), type := 0, pos := "l10_model.go:52", after := _, guard := some (9, false) }) (v := undef) rfl (by kernel_rfl) (by kernel_rfl) (by kernel_rfl) (fun _ _ _ h => h) (Or.inr ⟨by rfl, rfl⟩) (by assumption) ?_
        simp only [Act.put, List.setIfInBounds_toArray, List.set_cons_zero, List.set_cons_succ]
        refine wpAnyH_take (i := 14) (oi := { dst := some 67, op := Op.fieldAddr 83 (Operand.tmp 66) 1, type := 0, pos := "l10_model.go:52", after := _, guard := some (9, false) }) (v := undef) rfl (by kernel_rfl) (by kernel_rfl) (by kernel_rfl) (fun _ _ _ h => h) (Or.inr ⟨by rfl, rfl⟩) (by assumption) ?_
        simp only [Act.put, List.setIfInBounds_toArray, List.set_cons_zero, List.set_cons_succ]
        refine wpAnyH_take (i := 15) (oi := { dst := some 68, op := Op.load 3 (Operand.tmp 67), type := 3, pos := "l10_model.go:52", after := _, guard := some (9, false) }) (v := undef) rfl (by kernel_rfl) (by kernel_rfl) (by kernel_rfl) (fun _ _ _ h => h) (Or.inr ⟨by rfl, rfl⟩) (by assumption) ?_
        simp only [Act.put, List.setIfInBounds_toArray, List.set_cons_zero, List.set_cons_succ]
        refine wpAnyH_take (i := 16) (oi := { dst := some 69, op := Op.fieldAddr 36 (Operand.tmp 1) 3, type := 0, pos := "l10_model.go:52", after := _, guard := some (9, false) }) (v := undef) rfl (by kernel_rfl) (by kernel_rfl) (by kernel_rfl) (fun _ _ _ h => h) (Or.inr ⟨by rfl, rfl⟩) (by assumption) ?_
        simp only [Act.put, List.setIfInBounds_toArray, List.set_cons_zero, List.set_cons_succ]
        refine wpAnyH_take (i := 17) (oi := { dst := some 70, op := Op.load 31 (Operand.tmp 69), type := 31, pos := "l10_model.go:52", after := _, guard := some (9, false) }) (v := undef) rfl (by kernel_rfl) (by kernel_rfl) (by kernel_rfl) (fun _ _ _ h => h) (Or.inr ⟨by rfl, rfl⟩) (by assumption) ?_
        simp only [Act.put, List.setIfInBounds_toArray, List.set_cons_zero, List.set_cons_succ]
        refine wpAnyH_take (i := 18) (oi := { dst := some 71, op := Op.fieldAddr 36 (Operand.tmp 1) 5, type := 0, pos := "l10_model.go:52", after := _, guard := some (9, false) }) (v := undef) rfl (by kernel_rfl) (by kernel_rfl) (by kernel_rfl) (fun _ _ _ h => h) (Or.inr ⟨by rfl, rfl⟩) (by assumption) ?_
        simp only [Act.put, List.setIfInBounds_toArray, List.set_cons_zero, List.set_cons_succ]
        refine wpAnyH_take (i := 19) (oi := { dst := some 72, op := Op.load 33 (Operand.tmp 71), type := 33, pos := "l10_model.go:52", after := _, guard := some (9, false) }) (v := undef) rfl (by kernel_rfl) (by kernel_rfl) (by kernel_rfl) (fun _ _ _ h => h) (Or.inr ⟨by rfl, rfl⟩) (by assumption) ?_
        simp only [Act.put, List.setIfInBounds_toArray, List.set_cons_zero, List.set_cons_succ]
        refine wpAnyH_take (i := 20) (oi := { dst := some 73, op := Op.fieldAddr 36 (Operand.tmp 1) 3, type := 0, pos := "l10_model.go:52", after := _, guard := some (9, false) }) (v := undef) rfl (by kernel_rfl) (by kernel_rfl) (by kernel_rfl) (fun _ _ _ h => h) (Or.inr ⟨by rfl, rfl⟩) (by assumption) ?_
        simp only [Act.put, List.setIfInBounds_toArray, List.set_cons_zero, List.set_cons_succ]
        refine wpAnyH_take (i := 21) (oi := { dst := some 74, op := Op.load 31 (Operand.tmp 73), type := 31, pos := "l10_model.go:52", after := _, guard := some (9, false) }) (v := undef) rfl (by kernel_rfl) (by kernel_rfl) (by kernel_rfl) (fun _ _ _ h => h) (Or.inr ⟨by rfl, rfl⟩) (by assumption) ?_
        simp only [Act.put, List.setIfInBounds_toArray, List.set_cons_zero, List.set_cons_succ]
        refine wpAnyH_take (i := 22) (oi := { dst := some 75, op := Op.move (Operand.tmp 3), type := 3, pos := "l10_model.go:52", after := _, guard := some (9, false) }) (v := undef) rfl (by kernel_rfl) (by kernel_rfl) (by kernel_rfl) (fun _ _ _ h => h) (Or.inr ⟨by rfl, rfl⟩) (by assumption) ?_
        simp only [Act.put, List.setIfInBounds_toArray, List.set_cons_zero, List.set_cons_succ]
        refine wpAnyH_take (i := 23) (oi := { dst := some 76, op := Op.indexAddr 31 (Operand.tmp 74) (Operand.tmp 75), type := 0, pos := "l10_model.go:52", after := _, guard := some (9, false) }) (v := undef) rfl (by kernel_rfl) (by kernel_rfl) (by kernel_rfl) (fun _ _ _ h => h) (Or.inr ⟨by rfl, rfl⟩) (by assumption) ?_
        simp only [Act.put, List.setIfInBounds_toArray, List.set_cons_zero, List.set_cons_succ]
        refine wpAnyH_take (i := 24) (oi := { dst := some 77, op := Op.fieldAddr 82 (Operand.tmp 76) 0, type := 0, pos := "l10_model.go:52", after := _, guard := some (9, false) }) (v := undef) rfl (by kernel_rfl) (by kernel_rfl) (by kernel_rfl) (fun _ _ _ h => h) (Or.inr ⟨by rfl, rfl⟩) (by assumption) ?_
        simp only [Act.put, List.setIfInBounds_toArray, List.set_cons_zero, List.set_cons_succ]
        refine wpAnyH_take (i := 25) (oi := { dst := some 78, op := Op.load 9 (Operand.tmp 77), type := 9, pos := "l10_model.go:52", after := _, guard := some (9, false) }) (v := undef) rfl (by kernel_rfl) (by kernel_rfl) (by kernel_rfl) (fun _ _ _ h => h) (Or.inr ⟨by rfl, rfl⟩) (by assumption) ?_
        simp only [Act.put, List.setIfInBounds_toArray, List.set_cons_zero, List.set_cons_succ]
        refine wpAnyH_take (i := 26) (oi := { dst := some 79, op := Op.call { callee := Callee.value (Operand.func 48), args := #[Operand.tmp 70, Operand.tmp 72, Operand.tmp 78], argTypes := #[31, 33, 9] }, type := 3, pos := "l10_model.go:52", after := _, guard := some (9, false) }) (v := undef) rfl (by kernel_rfl) (by kernel_rfl) (by kernel_rfl) (fun _ _ _ h => h) (Or.inr ⟨by rfl, rfl⟩) (by assumption) ?_
        simp only [Act.put, List.setIfInBounds_toArray, List.set_cons_zero, List.set_cons_succ]
        refine wpAnyH_take (i := 27) (oi := { dst := some 80, op := Op.binOp BinOp.neq 3 (Operand.tmp 68) (Operand.tmp 79) 3, type := 4, pos := "l10_model.go:52", after := _, guard := some (9, false) }) (v := undef) rfl (by kernel_rfl) (by kernel_rfl) (by kernel_rfl) (fun _ _ _ h => h) (Or.inr ⟨by rfl, rfl⟩) (by assumption) ?_
        simp only [Act.put, List.setIfInBounds_toArray, List.set_cons_zero, List.set_cons_succ]
        refine wpAnyH_take (i := 28) (oi := { dst := some 81, op := Op.pick (Operand.tmp 62) (Operand.const (Value.bool true)) (Operand.tmp 80), type := 4, pos := "l10_model.go:52", after := _, guard := none }) (v := ?_) rfl (by kernel_rfl) (by kernel_rfl) (by kernel_rfl) (fun _ _ _ h => h) (Or.inl ⟨by rfl, ?_⟩) (by assumption) ?_
        rotate_left
        · (intro w hSw; (try dsimp only at hSw); go_simp; (try with_reducible rfl))
        simp only [Act.put, List.setIfInBounds_toArray, List.set_cons_zero, List.set_cons_succ]
        refine wpAnyH_done (by kernel_rfl) ?_ _
        go_wp2
        go_ret
        exact ⟨by rw [HN.out]; rfl, HF.out _ HB.out.drew⟩
      · have hd : decide (rev < S[k].2.2.2.2) = false := decide_eq_false hr
        clear hr
        go_wp2_with fail
        refine wp_region_held_drew (S := fun W => Below wr.heap.size wr W ∧ W.cell? ⟨w.heap.size, 0, none⟩ = some (.int .i64 rev) ∧ W.cell? ⟨w.heap.size, 3, none⟩ = some (.slice (some ⟨bb, ob, none⟩) S.length ca3) ∧ W.cell? ⟨w.heap.size, 4, none⟩ = some (.slice (some ⟨bu, ou, none⟩) U.length ca4) ∧ W.cell? ⟨w.heap.size, 5, none⟩ = some (.slice a5 xs.length ca5) ∧ W.cell? ⟨bb, ob + k * 5, none⟩ = some (.string S[k].1) ∧ W.cell? ⟨bb, ob + k * 5 + 4, none⟩ = some (.int .i64 S[k].2.2.2.2) ∧ W.cell? ⟨bu, ou + k * 2 + 1, none⟩ = some (.int .i64 U[k].2)) (by kernel_rfl) (KR.out _ (Below.refl _ _).drew) (fun hHeld => ?_)
        refine wpAnyH_take (i := 0) (oi := { dst := some 53, op := Op.fieldAddr 36 (Operand.tmp 1) 3, type := 0, pos := "l10_model.go:52", after := _, guard := none }) (v := ?_) rfl (by kernel_rfl) (by kernel_rfl) (by kernel_rfl) (fun _ _ _ h => h) (Or.inl ⟨by rfl, ?_⟩) (by assumption) ?_
        rotate_left
        · (intro w hSw; (try dsimp only at hSw); go_simp; (try with_reducible rfl))
        simp only [Act.put, List.setIfInBounds_toArray, List.set_cons_zero, List.set_cons_succ]
        refine wpAnyH_take (i := 1) (oi := { dst := some 54, op := Op.load 31 (Operand.tmp 53), type := 31, pos := "l10_model.go:52", after := _, guard := none }) (v := ?_) rfl (by kernel_rfl) (by kernel_rfl) (by kernel_rfl) (fun _ _ _ h => h) (Or.inl ⟨by rfl, ?_⟩) (by assumption) ?_
        rotate_left
        · (intro w hSw; (try dsimp only at hSw); go_simp; (try with_reducible rfl))
        simp only [Act.put, List.setIfInBounds_toArray, List.set_cons_zero, List.set_cons_succ]
        refine wpAnyH_take (i := 2) (oi := { dst := some 55, op := Op.move (Operand.tmp 3), type := 3, pos := "l10_model.go:52", after := _, guard := none }) (v := ?_) rfl (by kernel_rfl) (by kernel_rfl) (by kernel_rfl) (fun _ _ _ h => h) (Or.inl ⟨by rfl, ?_⟩) (by assumption) ?_
        rotate_left
        · (intro w hSw; (try dsimp only at hSw); go_simp; (try with_reducible rfl))
        simp only [Act.put, List.setIfInBounds_toArray, List.set_cons_zero, List.set_cons_succ]
        refine wpAnyH_take (i := 3) (oi := { dst := some 56, op := Op.indexAddr 31 (Operand.tmp 54) (Operand.tmp 55), type := 0, pos := "l10_model.go:52", after := _, guard := none }) (v := ?_) rfl (by kernel_rfl) (by kernel_rfl) (by kernel_rfl) (fun _ _ _ h => h) (Or.inl ⟨by rfl, ?_⟩) (by assumption) ?_
        rotate_left
        · (intro w hSw; (try dsimp only at hSw); go_simp; (try with_reducible rfl))
        simp only [Act.put, List.setIfInBounds_toArray, List.set_cons_zero, List.set_cons_succ]
        refine wpAnyH_take (i := 4) (oi := { dst := some 57, op := Op.fieldAddr 82 (Operand.tmp 56) 4, type := 0, pos := "l10_model.go:52", after := _, guard := none }) (v := ?_) rfl (by kernel_rfl) (by kernel_rfl) (by kernel_rfl) (fun _ _ _ h => h) (Or.inl ⟨by rfl, ?_⟩) (by assumption) ?_
        rotate_left
        · (intro w hSw; (try dsimp only at hSw); go_simp; (try with_reducible rfl))
        simp only [Act.put, List.setIfInBounds_toArray, List.set_cons_zero, List.set_cons_succ]
        refine wpAnyH_take (i := 5) (oi := { dst := some 58, op := Op.load 3 (Operand.tmp 57), type := 3, pos := "l10_model.go:52", after := _, guard := none }) (v := ?_) rfl (by kernel_rfl) (by kernel_rfl) (by kernel_rfl) (fun _ _ _ h => h) (Or.inl ⟨by rfl, ?_⟩) (by assumption) ?_
        rotate_left
        · (intro w hSw; (try dsimp only at hSw); go_simp; (try with_reducible rfl))
        simp only [Act.put, List.setIfInBounds_toArray, List.set_cons_zero, List.set_cons_succ]
        refine wpAnyH_take (i := 6) (oi := { dst := some 59, op := Op.fieldAddr 36 (Operand.tmp 1) 0, type := 0, pos := "l10_model.go:52", after := _, guard := none }) (v := ?_) rfl (by kernel_rfl) (by kernel_rfl) (by kernel_rfl) (fun _ _ _ h => h) (Or.inl ⟨by rfl, ?_⟩) (by assumption) ?_
        rotate_left
        · (intro w hSw; (try dsimp only at hSw); go_simp; (try with_reducible rfl))
        simp only [Act.put, List.setIfInBounds_toArray, List.set_cons_zero, List.set_cons_succ]
        refine wpAnyH_take (i := 7) (oi := { dst := some 60, op := Op.load 3 (Operand.tmp 59), type := 3, pos := "l10_model.go:52", after := _, guard := none }) (v := ?_) rfl (by kernel_rfl) (by kernel_rfl) (by kernel_rfl) (fun _ _ _ h => h) (Or.inl ⟨by rfl, ?_⟩) (by assumption) ?_
        rotate_left
        · (intro w hSw; (try dsimp only at hSw); go_simp; (try with_reducible rfl))
        simp only [Act.put, List.setIfInBounds_toArray, List.set_cons_zero, List.set_cons_succ]
        refine wpAnyH_take (i := 8) (oi := { dst := some 61, op := Op.binOp BinOp.gtr 3 (Operand.tmp 58) (Operand.tmp 60) 3, type := 4, pos := "l10_model.go:52", after := _, guard := none }) (v := ?_) rfl (by kernel_rfl) (by kernel_rfl) (by kernel_rfl) (fun _ _ _ h => h) (Or.inl ⟨by rfl, ?_⟩) (by assumption) ?_
        rotate_left
        · (intro w hSw; (try dsimp only at hSw); go_simp; (try with_reducible rfl))
        simp only [Act.put, List.setIfInBounds_toArray, List.set_cons_zero, List.set_cons_succ]
        refine wpAnyH_take (i := 9) (oi := { dst := some 62, op := Op.move (Operand.tmp 61), type := 4, pos := "l10_model.go:52", after := _, guard := none }) (v := ?_) rfl (by kernel_rfl) (by kernel_rfl) (by kernel_rfl) (fun _ _ _ h => h) (Or.inl ⟨by rfl, ?_⟩) (by assumption) ?_
        rotate_left
        · (intro w hSw; (try dsimp only at hSw); go_simp; (try with_reducible rfl))
        simp only [Act.put, List.setIfInBounds_toArray, List.set_cons_zero, List.set_cons_succ]
        refine wpAnyH_take (i := 10) (oi := { dst := some 63, op := Op.fieldAddr 36 (Operand.tmp 1) 4, type := 0, pos := "l10_model.go:52", after := _, guard := some (9, false) }) (v := ?_) rfl (by kernel_rfl) (by kernel_rfl) (by kernel_rfl) (fun _ _ _ h => h) (Or.inl ⟨by rfl, ?_⟩) (by assumption) ?_
        rotate_left
        · (intro w hSw; (try dsimp only at hSw); go_simp; (try with_reducible rfl))
        simp only [Act.put, List.setIfInBounds_toArray, List.set_cons_zero, List.set_cons_succ]
        refine wpAnyH_take (i := 11) (oi := { dst := some 64, op := Op.load 32 (Operand.tmp 63), type := 32, pos := "l10_model.go:52", after := _, guard := some (9, false) }) (v := ?_) rfl (by kernel_rfl) (by kernel_rfl) (by kernel_rfl) (fun _ _ _ h => h) (Or.inl ⟨by rfl, ?_⟩) (by assumption) ?_
        rotate_left
        · (intro w hSw; (try dsimp only at hSw); go_simp; (try with_reducible rfl))
        simp only [Act.put, List.setIfInBounds_toArray, List.set_cons_zero, List.set_cons_succ]
        refine wpAnyH_take (i := 12) (oi := { dst := some 65, op := Op.move (Operand.tmp 3), type := 3, pos := "l10_model.go:52", after := _, guard := some (9, false) }) (v := ?_) rfl (by kernel_rfl) (by kernel_rfl) (by kernel_rfl) (fun _ _ _ h => h) (Or.inl ⟨by rfl, ?_⟩) (by assumption) ?_
        rotate_left
        · (intro w hSw; (try dsimp only at hSw); go_simp; (try with_reducible rfl))
        simp only [Act.put, List.setIfInBounds_toArray, List.set_cons_zero, List.set_cons_succ]
        refine wpAnyH_take (i := 13) (oi := { dst := some 66, op := Op.indexAddr 32 (Operand.tmp 64) (Operand.tmp 65), type := 0, pos := "l10_model.go:52", after := _, guard := some (9, false) }) (v := ?_) rfl (by kernel_rfl) (by kernel_rfl) (by kernel_rfl) (fun _ _ _ h => h) (Or.inl ⟨by rfl, ?_⟩) (by assumption) ?_
        rotate_left
        · (intro w hSw; (try dsimp only at hSw); go_simp; (try with_reducible rfl))
        simp only [Act.put, List.setIfInBounds_toArray, List.set_cons_zero, List.set_cons_succ]
        refine wpAnyH_take (i := 14) (oi := { dst := some 67, op := Op.fieldAddr 83 (Operand.tmp 66) 1, type := 0, pos := "l10_model.go:52", after := _, guard := some (9, false) }) (v := ?_) rfl (by kernel_rfl) (by kernel_rfl) (by kernel_rfl) (fun _ _ _ h => h) (Or.inl ⟨by rfl, ?_⟩) (by assumption) ?_
        rotate_left
        · (intro w hSw; (try dsimp only at hSw); go_simp; (try with_reducible rfl))
        simp only [Act.put, List.setIfInBounds_toArray, List.set_cons_zero, List.set_cons_succ]
        refine wpAnyH_take (i := 15) (oi := { dst := some 68, op := Op.load 3 (Operand.tmp 67), type := 3, pos := "l10_model.go:52", after := _, guard := some (9, false) }) (v := ?_) rfl (by kernel_rfl) (by kernel_rfl) (by kernel_rfl) (fun _ _ _ h => h) (Or.inl ⟨by rfl, ?_⟩) (by assumption) ?_
        rotate_left
        · (intro w hSw; (try dsimp only at hSw); go_simp; (try with_reducible rfl))
        simp only [Act.put, List.setIfInBounds_toArray, List.set_cons_zero, List.set_cons_succ]
        refine wpAnyH_take (i := 16) (oi := { dst := some 69, op := Op.fieldAddr 36 (Operand.tmp 1) 3, type := 0, pos := "l10_model.go:52", after := _, guard := some (9, false) }) (v := ?_) rfl (by kernel_rfl) (by kernel_rfl) (by kernel_rfl) (fun _ _ _ h => h) (Or.inl ⟨by rfl, ?_⟩) (by assumption) ?_
        rotate_left
        · (intro w hSw; (try dsimp only at hSw); go_simp; (try with_reducible rfl))
        simp only [Act.put, List.setIfInBounds_toArray, List.set_cons_zero, List.set_cons_succ]
        refine wpAnyH_take (i := 17) (oi := { dst := some 70, op := Op.load 31 (Operand.tmp 69), type := 31, pos := "l10_model.go:52", after := _, guard := some (9, false) }) (v := ?_) rfl (by kernel_rfl) (by kernel_rfl) (by kernel_rfl) (fun _ _ _ h => h) (Or.inl ⟨by rfl, ?_⟩) (by assumption) ?_
        rotate_left
        · (intro w hSw; (try dsimp only at hSw); go_simp; (try with_reducible rfl))
        simp only [Act.put, List.setIfInBounds_toArray, List.set_cons_zero, List.set_cons_succ]
        refine wpAnyH_take (i := 18) (oi := { dst := some 71, op := Op.fieldAddr 36 (Operand.tmp 1) 5, type := 0, pos := "l10_model.go:52", after := _, guard := some (9, false) }) (v := ?_) rfl (by kernel_rfl) (by kernel_rfl) (by kernel_rfl) (fun _ _ _ h => h) (Or.inl ⟨by rfl, ?_⟩) (by assumption) ?_
        rotate_left
        · (intro w hSw; (try dsimp only at hSw); go_simp; (try with_reducible rfl))
        simp only [Act.put, List.setIfInBounds_toArray, List.set_cons_zero, List.set_cons_succ]
        refine wpAnyH_take (i := 19) (oi := { dst := some 72, op := Op.load 33 (Operand.tmp 71), type := 33, pos := "l10_model.go:52", after := _, guard := some (9, false) }) (v := ?_) rfl (by kernel_rfl) (by kernel_rfl) (by kernel_rfl) (fun _ _ _ h => h) (Or.inl ⟨by rfl, ?_⟩) (by assumption) ?_
        rotate_left
        · (intro w hSw; (try dsimp only at hSw); go_simp; (try with_reducible rfl))
        simp only [Act.put, List.setIfInBounds_toArray, List.set_cons_zero, List.set_cons_succ]
        refine wpAnyH_take (i := 20) (oi := { dst := some 73, op := Op.fieldAddr 36 (Operand.tmp 1) 3, type := 0, pos := "l10_model.go:52", after := _, guard := some (9, false) }) (v := ?_) rfl (by kernel_rfl) (by kernel_rfl) (by kernel_rfl) (fun _ _ _ h => h) (Or.inl ⟨by rfl, ?_⟩) (by assumption) ?_
        rotate_left
        · (intro w hSw; (try dsimp only at hSw); go_simp; (try with_reducible rfl))
        simp only [Act.put, List.setIfInBounds_toArray, List.set_cons_zero, List.set_cons_succ]
        refine wpAnyH_take (i := 21) (oi := { dst := some 74, op := Op.load 31 (Operand.tmp 73), type := 31, pos := "l10_model.go:52", after := _, guard := some (9, false) }) (v := ?_) rfl (by kernel_rfl) (by kernel_rfl) (by kernel_rfl) (fun _ _ _ h => h) (Or.inl ⟨by rfl, ?_⟩) (by assumption) ?_
        rotate_left
        · (intro w hSw; (try dsimp only at hSw); go_simp; (try with_reducible rfl))
        simp only [Act.put, List.setIfInBounds_toArray, List.set_cons_zero, List.set_cons_succ]
        refine wpAnyH_take (i := 22) (oi := { dst := some 75, op := Op.move (Operand.tmp 3), type := 3, pos := "l10_model.go:52", after := _, guard := some (9, false) }) (v := ?_) rfl (by kernel_rfl) (by kernel_rfl) (by kernel_rfl) (fun _ _ _ h => h) (Or.inl ⟨by rfl, ?_⟩) (by assumption) ?_
        rotate_left
        · (intro w hSw; (try dsimp only at hSw); go_simp; (try with_reducible rfl))
        simp only [Act.put, List.setIfInBounds_toArray, List.set_cons_zero, List.set_cons_succ]
        refine wpAnyH_take (i := 23) (oi := { dst := some 76, op := Op.indexAddr 31 (Operand.tmp 74) (Operand.tmp 75), type := 0, pos := "l10_model.go:52", after := _, guard := some (9, false) }) (v := ?_) rfl (by kernel_rfl) (by kernel_rfl) (by kernel_rfl) (fun _ _ _ h => h) (Or.inl ⟨by rfl, ?_⟩) (by assumption) ?_
        rotate_left
        · (intro w hSw; (try dsimp only at hSw); go_simp; (try with_reducible rfl))
        simp only [Act.put, List.setIfInBounds_toArray, List.set_cons_zero, List.set_cons_succ]
        refine wpAnyH_take (i := 24) (oi := { dst := some 77, op := Op.fieldAddr 82 (Operand.tmp 76) 0, type := 0, pos := "l10_model.go:52", after := _, guard := some (9, false) }) (v := ?_) rfl (by kernel_rfl) (by kernel_rfl) (by kernel_rfl) (fun _ _ _ h => h) (Or.inl ⟨by rfl, ?_⟩) (by assumption) ?_
        rotate_left
        · (intro w hSw; (try dsimp only at hSw); go_simp; (try with_reducible rfl))
        simp only [Act.put, List.setIfInBounds_toArray, List.set_cons_zero, List.set_cons_succ]
        refine wpAnyH_take (i := 25) (oi := { dst := some 78, op := Op.load 9 (Operand.tmp 77), type := 9, pos := "l10_model.go:52", after := _, guard := some (9, false) }) (v := ?_) rfl (by kernel_rfl) (by kernel_rfl) (by kernel_rfl) (fun _ _ _ h => h) (Or.inl ⟨by rfl, ?_⟩) (by assumption) ?_
        rotate_left
        · (intro w hSw; (try dsimp only at hSw); go_simp; (try with_reducible rfl))
        simp only [Act.put, List.setIfInBounds_toArray, List.set_cons_zero, List.set_cons_succ]
        refine wpAnyH_ready (rs := [26]) (by kernel_rfl) (by simp) ?_
        refine AllReadyH.cons (o := { dst := some 79, op := Op.call { callee := Callee.value (Operand.func 48), args := #[Operand.tmp 70, Operand.tmp 72, Operand.tmp 78], argTypes := #[31, 33, 9] }, type := 3, pos := "l10_model.go:52", after := _, guard := some (9, false) }) rfl (fun K hK => ?_) AllReadyH.nil
        go_simp
        go_at_call 48
        refine (l8Sum_is HZ.out ((HX3.out.below B1.out).below (HB.out.trans (hHeld.1.mono zb))) HK3.out ((HX5.out.below B1.out).below (HB.out.trans (hHeld.1.mono zb))) (fun x hx => ((HK5.out x hx).below B1.out).below (HB.out.trans (hHeld.1.mono zb))) hbt).mono ?_
        rintro e w9 ⟨rfl, b9⟩
        have B9 : Below wr.heap.size wr w9 := hHeld.1.trans (b9.mono hHeld.1.size)
        refine hK.out _ _ ?_ (fun hHeld => ?_)
        · exact KR.out _ B9
        clear hK K
        (try simp only [Act.put, List.setIfInBounds_toArray, List.set_cons_zero, List.set_cons_succ])
        refine wpAnyH_take (i := 27) (oi := { dst := some 80, op := Op.binOp BinOp.neq 3 (Operand.tmp 68) (Operand.tmp 79) 3, type := 4, pos := "l10_model.go:52", after := _, guard := some (9, false) }) (v := ?_) rfl (by kernel_rfl) (by kernel_rfl) (by kernel_rfl) (fun _ _ _ h => h) (Or.inl ⟨by rfl, ?_⟩) (by assumption) ?_
        rotate_left
        · (intro w hSw; (try dsimp only at hSw); go_simp; (try with_reducible rfl))
        simp only [Act.put, List.setIfInBounds_toArray, List.set_cons_zero, List.set_cons_succ]
        refine wpAnyH_take (i := 28) (oi := { dst := some 81, op := Op.pick (Operand.tmp 62) (Operand.const (Value.bool true)) (Operand.tmp 80), type := 4, pos := "l10_model.go:52", after := _, guard := none }) (v := ?_) rfl (by kernel_rfl) (by kernel_rfl) (by kernel_rfl) (fun _ _ _ h => h) (Or.inl ⟨by rfl, ?_⟩) (by assumption) ?_
        rotate_left
        · (intro w hSw; (try dsimp only at hSw); go_simp; (try with_reducible rfl))
        simp only [Act.put, List.setIfInBounds_toArray, List.set_cons_zero, List.set_cons_succ]
        refine wpAnyH_done (by kernel_rfl) ?_ _
        have B9' := HB.out.trans (B9.mono zb)
        by_cases hu : U[k].2 = z
        · have HTN := Lib.hid (show ∀ j, j < k + 1 → j < S.length → mAt rev S U (thsOf xs) j = true from fun j hj hjl => by
            rcases Nat.lt_succ_iff_lt_or_eq.1 hj with hj | rfl
            · exact HT.out j hj hjl
            · rw [HAT.out, hd, decide_eq_true hu]; rfl)
          have n1 : (U[k].2 != z) = false := by rw [hu]; simp
          have n2 : (U[k].2 == z) = true := by rw [hu]; simp
          have n3 : decide (U[k].2 = z) = true := decide_eq_true hu
          clear hu
          obtain ⟨y0, y1, y2, y3, y4, y5, y6⟩ := KS.out _ B9'
          go_wp2
          go_roundw
          case rel => exact ⟨k + 1, by omega, by go_num, HTN.out, B9'⟩
          case measure => simp [intOf]; omega
        · have HN := Lib.hid (HM.out.trans (show (true && (true && (true && (true && (true && (true && (true && mAll rev S U (thsOf xs)))))))) = false by rw [mAll_no hlt (by rw [HAT.out, hd, decide_eq_false hu]; rfl)]; rfl))
          have n1 : (U[k].2 != z) = true := by simpa using hu
          have n2 : (U[k].2 == z) = false := by simpa using hu
          have n3 : decide (U[k].2 = z) = false := decide_eq_false hu
          clear hu
          go_wp2
          go_ret
          exact ⟨by rw [HN.out]; rfl, HF.out _ B9'⟩
    · have HN := Lib.hid (HM.out.trans (show (true && (true && (true && (true && (true && (true && (true && mAll rev S U (thsOf xs)))))))) = true by rw [mAll_yes (k := k) (by omega) HT.out]; rfl))
      go_wp2
      go_ret
      exact ⟨by rw [HN.out]; rfl, HF.out _ HB.out⟩
end Go.Proofs.YtdimenahnohjlaaGreat
