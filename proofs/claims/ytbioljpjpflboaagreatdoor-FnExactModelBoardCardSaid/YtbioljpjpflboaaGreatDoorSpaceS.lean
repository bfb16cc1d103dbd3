import Derived.Test.YtbioljpjpflboaaGreatDoorSpaceP
import Derived.Test.YtbioljpjpflboaaGreatDoorMarksS
import Derived.Test.YtbioljpjpflboaaGreatDoorIn
/- Spaces of the model: a place, one by itself. -/
namespace Go.Proofs.YtbioljpjpflboaaGreatDoor
open Go Go.RowKit

set_option maxRecDepth 100000 in
set_option maxHeartbeats 800000 in
theorem l8At_any (a : Option Addr) (ca : Nat) (l : List SpaceD) (name : ByteArray) (w : World) (hl : ElS 5 encSpace w a l) :
    Calls Tryz.prog 89 #[.slice a l.length ca, .string name] w fun e w' => e = .returned (.int .i64 (optI (idxS l name))) ∧ Below w.heap.size w w' := by
  obtain ⟨hl1, hl⟩ := hl
  unfold maxLen at hl1
  rcases hl with rfl | ⟨ba, oa, rfl, hca⟩
  · go_enter Tryz.func89, Tryz.ntmps89
    go_wp2
    refine wp_loop_rounds 1 ?_
    rw [rounds_succ]
    go_wp2
    go_ret
    exact ⟨rfl, (by repeat (first | exact Below.refl _ _ | (refine Below.alloc ?_ (by first | (simp; done) | (simp; omega)) _) | (refine Below.setCell ?_ (by first | (simp; done) | (simp; omega)) _) | (refine Below.drew ?_)))⟩
  · have HC := Lib.hid hca
    clear hca
    go_enter Tryz.func89, Tryz.ntmps89
    go_wp2
    go_loopw [5] (fun i wr => ∃ k : Nat, k ≤ l.length ∧ i = .int .i64 k ∧ (∀ j (hj : j < k) (hl : j < l.length), l[j].1 ≠ name) ∧ Below w.heap.size w wr) (fun i _ => l.length - (intOf i).toNat)
    case atStart => exact ⟨0, Nat.zero_le _, rfl, fun j hj => absurd hj (Nat.not_lt_zero _), (by repeat (first | exact Below.refl _ _ | (refine Below.alloc ?_ (by first | (simp; done) | (simp; omega)) _) | (refine Below.setCell ?_ (by first | (simp; done) | (simp; omega)) _) | (refine Below.drew ?_)))⟩
    case round =>
      obtain ⟨k, hk, rfl, hto, hbel⟩ := hrel
      have HT := Lib.hid hto
      clear hto
      by_cases hlt : k < l.length
      · obtain ⟨c0, c1, c2, c3, c4⟩ := cellsSpace hbel HC.out k hlt
        by_cases e : l[k].1 = name
        · have q1 : (l[k].1.toList == name.toList) = true := by rw [e]; simp
          have HN := Lib.hid (show idxS l name = some k from idxS_some hlt e (fun j hj => HT.out j hj _))
          clear e
          go_wp2
          go_ret
          exact ⟨ret_int (by rw [HN.out]; rfl), hbel⟩
        · have q1 : (l[k].1.toList == name.toList) = false := by
            rw [beq_eq_false_iff_ne]
            exact fun e2 => e (toList_inj e2)
          have HN := Lib.hid (show ∀ j (hj : j < k + 1) (hl : j < l.length), l[j].1 ≠ name from fun j hj hl' => by
            by_cases hjk : j < k
            · exact HT.out j hjk hl'
            · obtain rfl : j = k := by omega
              exact e)
          clear e
          go_wp2
          go_roundw
          case rel => exact ⟨k + 1, by omega, by go_num, HN.out, hbel⟩
          case measure => simp [intOf]; omega
      · have HN := Lib.hid (show idxS l name = none from idxS_none (fun j hj => HT.out j (by omega) hj))
        go_wp2
        go_ret
        exact ⟨ret_int (by rw [HN.out]; rfl), hbel⟩

theorem in_is {n a b : Int} {q : Bool} (h : inB n a b = q) (w : World) : Calls Tryz.prog 53 #[.int .i64 n, .int .i64 a, .int .i64 b] w fun e w' => e = .returned (.bool q) ∧ w' = w :=
  (in_any n a b w).mono fun _ _ ⟨h1, k⟩ => ⟨by rw [h1, h], k.symm⟩
def agS (x : SpaceD) : Value := .agg #[.string x.1, .string x.2.1, .int .i64 x.2.2.1, .bool x.2.2.2.1, .int .i64 x.2.2.2.2]
theorem isEmpty_no {x : ByteArray} (h : x ≠ ⟨#[]⟩) : x.toList.isEmpty = false := by
  rw [List.isEmpty_eq_false_iff]
  intro e
  exact h (toList_inj (e.trans (by simp)))
theorem toList_no {x y : ByteArray} (h : x ≠ y) : (x.toList == y.toList) = false := by
  rw [beq_eq_false_iff_ne]
  exact fun e => h (toList_inj e)
set_option maxRecDepth 100000 in
set_option maxHeartbeats 4000000 in
theorem l8Ok_any (x0 x1 : ByteArray) (x2 : Int) (x3 : Bool) (x4 : Int) (w : World) (h0 : x0.size ≤ maxLen) (h1 : x1.size ≤ maxLen) :
    Calls Tryz.prog 59 #[.agg #[.string x0, .string x1, .int .i64 x2, .bool x3, .int .i64 x4]] w fun e w' => e = .returned (.bool (spOk (x0, x1, x2, x3, x4))) ∧ Below w.heap.size w w' := by
  have HT := Lib.hid (show spOk (x0, x1, x2, x3, x4) = (nameB x0.data.toList && (decide (x1 = ⟨#[]⟩) || nameB x1.data.toList) && (decide (x1 = ⟨#[]⟩) == decide (x0 = allB)) && inB x2 (-1) 99999 && inB x4 0 99999 && (!decide (x1 = ⟨#[]⟩) || !x3)) from rfl)
  cases e0 : nameB x0.data.toList with
  | false =>
    have H0 := Lib.hid e0
    clear e0
    have HF := Lib.hid (show spOk (x0, x1, x2, x3, x4) = false by rw [HT.out, H0.out]; simp)
    go_enter Tryz.func59, Tryz.ntmps59
    go_wp2_with fail
    refine (specName_is h0 H0.out _).mono ?_
    rintro e wq ⟨rfl, rfl⟩
    go_wp2
    go_ret
    exact ⟨ret_bool (by rw [HF.out]), (by repeat (first | exact Below.refl _ _ | (refine Below.alloc ?_ (by first | (simp; done) | (simp; omega)) _) | (refine Below.setCell ?_ (by first | (simp; done) | (simp; omega)) _) | (refine Below.drew ?_)))⟩
  | true =>
    have H0 := Lib.hid e0
    clear e0
    by_cases e : x1 = ⟨#[]⟩
    · have HE := Lib.hid (decide_eq_true e)
      have q1 : x1.toList.isEmpty = true := by rw [e]; simp
      clear e
      by_cases g : x0 = allB
      · have HA := Lib.hid (decide_eq_true g)
        have q2 : (x0.toList == [97, 108, 108]) = true := by rw [g]; simp [allB]
        clear g
        cases e2 : inB x2 (-1) 99999 with
        | false =>
          have H2 := Lib.hid e2
          clear e2
          have HF := Lib.hid (show spOk (x0, x1, x2, x3, x4) = false by rw [HT.out, H0.out, HE.out, HA.out, H2.out]; simp)
          go_enter Tryz.func59, Tryz.ntmps59
          go_wp2_with fail
          refine (specName_is h0 H0.out _).mono ?_
          rintro e wq ⟨rfl, rfl⟩
          go_wp2_with fail
          refine (in_is H2.out _).mono ?_
          rintro e wq ⟨rfl, rfl⟩
          go_wp2
          go_ret
          exact ⟨ret_bool (by rw [HF.out]), (by repeat (first | exact Below.refl _ _ | (refine Below.alloc ?_ (by first | (simp; done) | (simp; omega)) _) | (refine Below.setCell ?_ (by first | (simp; done) | (simp; omega)) _) | (refine Below.drew ?_)))⟩
        | true =>
          have H2 := Lib.hid e2
          clear e2
          cases e4 : inB x4 0 99999 with
          | false =>
            have H4 := Lib.hid e4
            clear e4
            have HF := Lib.hid (show spOk (x0, x1, x2, x3, x4) = false by rw [HT.out, H0.out, HE.out, HA.out, H2.out, H4.out]; simp)
            go_enter Tryz.func59, Tryz.ntmps59
            go_wp2_with fail
            refine (specName_is h0 H0.out _).mono ?_
            rintro e wq ⟨rfl, rfl⟩
            go_wp2_with fail
            refine (in_is H2.out _).mono ?_
            rintro e wq ⟨rfl, rfl⟩
            go_wp2_with fail
            refine (in_is H4.out _).mono ?_
            rintro e wq ⟨rfl, rfl⟩
            go_wp2
            go_ret
            exact ⟨ret_bool (by rw [HF.out]), (by repeat (first | exact Below.refl _ _ | (refine Below.alloc ?_ (by first | (simp; done) | (simp; omega)) _) | (refine Below.setCell ?_ (by first | (simp; done) | (simp; omega)) _) | (refine Below.drew ?_)))⟩
          | true =>
            have H4 := Lib.hid e4
            clear e4
            have HF := Lib.hid (show spOk (x0, x1, x2, x3, x4) = (!x3) by rw [HT.out, H0.out, HE.out, HA.out, H2.out, H4.out]; simp)
            go_enter Tryz.func59, Tryz.ntmps59
            go_wp2_with fail
            refine (specName_is h0 H0.out _).mono ?_
            rintro e wq ⟨rfl, rfl⟩
            go_wp2_with fail
            refine (in_is H2.out _).mono ?_
            rintro e wq ⟨rfl, rfl⟩
            go_wp2_with fail
            refine (in_is H4.out _).mono ?_
            rintro e wq ⟨rfl, rfl⟩
            go_wp2
            go_ret
            exact ⟨ret_bool (by rw [HF.out]), (by repeat (first | exact Below.refl _ _ | (refine Below.alloc ?_ (by first | (simp; done) | (simp; omega)) _) | (refine Below.setCell ?_ (by first | (simp; done) | (simp; omega)) _) | (refine Below.drew ?_)))⟩
      · have HA := Lib.hid (decide_eq_false g)
        have q2 : (x0.toList == [97, 108, 108]) = false := (by have := toList_no g; simpa [allB] using this)
        clear g
        have HF := Lib.hid (show spOk (x0, x1, x2, x3, x4) = false by rw [HT.out, H0.out, HE.out, HA.out]; simp)
        go_enter Tryz.func59, Tryz.ntmps59
        go_wp2_with fail
        refine (specName_is h0 H0.out _).mono ?_
        rintro e wq ⟨rfl, rfl⟩
        go_wp2
        go_ret
        exact ⟨ret_bool (by rw [HF.out]), (by repeat (first | exact Below.refl _ _ | (refine Below.alloc ?_ (by first | (simp; done) | (simp; omega)) _) | (refine Below.setCell ?_ (by first | (simp; done) | (simp; omega)) _) | (refine Below.drew ?_)))⟩
    · have HE := Lib.hid (decide_eq_false e)
      have q1 : x1.toList.isEmpty = false := isEmpty_no e
      clear e
      cases e1 : nameB x1.data.toList with
      | false =>
        have H1 := Lib.hid e1
        clear e1
        have HF := Lib.hid (show spOk (x0, x1, x2, x3, x4) = false by rw [HT.out, H0.out, HE.out, H1.out]; simp)
        go_enter Tryz.func59, Tryz.ntmps59
        go_wp2_with fail
        refine (specName_is h0 H0.out _).mono ?_
        rintro e wq ⟨rfl, rfl⟩
        go_wp2_with fail
        refine (specName_is h1 H1.out _).mono ?_
        rintro e wq ⟨rfl, rfl⟩
        go_wp2
        go_ret
        exact ⟨ret_bool (by rw [HF.out]), (by repeat (first | exact Below.refl _ _ | (refine Below.alloc ?_ (by first | (simp; done) | (simp; omega)) _) | (refine Below.setCell ?_ (by first | (simp; done) | (simp; omega)) _) | (refine Below.drew ?_)))⟩
      | true =>
        have H1 := Lib.hid e1
        clear e1
        by_cases g : x0 = allB
        · have HA := Lib.hid (decide_eq_true g)
          have q2 : (x0.toList == [97, 108, 108]) = true := by rw [g]; simp [allB]
          clear g
          have HF := Lib.hid (show spOk (x0, x1, x2, x3, x4) = false by rw [HT.out, H0.out, HE.out, H1.out, HA.out]; simp)
          go_enter Tryz.func59, Tryz.ntmps59
          go_wp2_with fail
          refine (specName_is h0 H0.out _).mono ?_
          rintro e wq ⟨rfl, rfl⟩
          go_wp2_with fail
          refine (specName_is h1 H1.out _).mono ?_
          rintro e wq ⟨rfl, rfl⟩
          go_wp2
          go_ret
          exact ⟨ret_bool (by rw [HF.out]), (by repeat (first | exact Below.refl _ _ | (refine Below.alloc ?_ (by first | (simp; done) | (simp; omega)) _) | (refine Below.setCell ?_ (by first | (simp; done) | (simp; omega)) _) | (refine Below.drew ?_)))⟩
        · have HA := Lib.hid (decide_eq_false g)
          have q2 : (x0.toList == [97, 108, 108]) = false := (by have := toList_no g; simpa [allB] using this)
          clear g
          cases e2 : inB x2 (-1) 99999 with
          | false =>
            have H2 := Lib.hid e2
            clear e2
            have HF := Lib.hid (show spOk (x0, x1, x2, x3, x4) = false by rw [HT.out, H0.out, HE.out, H1.out, HA.out, H2.out]; simp)
            go_enter Tryz.func59, Tryz.ntmps59
            go_wp2_with fail
            refine (specName_is h0 H0.out _).mono ?_
            rintro e wq ⟨rfl, rfl⟩
            go_wp2_with fail
            refine (specName_is h1 H1.out _).mono ?_
            rintro e wq ⟨rfl, rfl⟩
            go_wp2_with fail
            refine (in_is H2.out _).mono ?_
            rintro e wq ⟨rfl, rfl⟩
            go_wp2
            go_ret
            exact ⟨ret_bool (by rw [HF.out]), (by repeat (first | exact Below.refl _ _ | (refine Below.alloc ?_ (by first | (simp; done) | (simp; omega)) _) | (refine Below.setCell ?_ (by first | (simp; done) | (simp; omega)) _) | (refine Below.drew ?_)))⟩
          | true =>
            have H2 := Lib.hid e2
            clear e2
            cases e4 : inB x4 0 99999 with
            | false =>
              have H4 := Lib.hid e4
              clear e4
              have HF := Lib.hid (show spOk (x0, x1, x2, x3, x4) = false by rw [HT.out, H0.out, HE.out, H1.out, HA.out, H2.out, H4.out]; simp)
              go_enter Tryz.func59, Tryz.ntmps59
              go_wp2_with fail
              refine (specName_is h0 H0.out _).mono ?_
              rintro e wq ⟨rfl, rfl⟩
              go_wp2_with fail
              refine (specName_is h1 H1.out _).mono ?_
              rintro e wq ⟨rfl, rfl⟩
              go_wp2_with fail
              refine (in_is H2.out _).mono ?_
              rintro e wq ⟨rfl, rfl⟩
              go_wp2_with fail
              refine (in_is H4.out _).mono ?_
              rintro e wq ⟨rfl, rfl⟩
              go_wp2
              go_ret
              exact ⟨ret_bool (by rw [HF.out]), (by repeat (first | exact Below.refl _ _ | (refine Below.alloc ?_ (by first | (simp; done) | (simp; omega)) _) | (refine Below.setCell ?_ (by first | (simp; done) | (simp; omega)) _) | (refine Below.drew ?_)))⟩
            | true =>
              have H4 := Lib.hid e4
              clear e4
              have HF := Lib.hid (show spOk (x0, x1, x2, x3, x4) = true by rw [HT.out, H0.out, HE.out, H1.out, HA.out, H2.out, H4.out]; simp)
              go_enter Tryz.func59, Tryz.ntmps59
              go_wp2_with fail
              refine (specName_is h0 H0.out _).mono ?_
              rintro e wq ⟨rfl, rfl⟩
              go_wp2_with fail
              refine (specName_is h1 H1.out _).mono ?_
              rintro e wq ⟨rfl, rfl⟩
              go_wp2_with fail
              refine (in_is H2.out _).mono ?_
              rintro e wq ⟨rfl, rfl⟩
              go_wp2_with fail
              refine (in_is H4.out _).mono ?_
              rintro e wq ⟨rfl, rfl⟩
              go_wp2
              go_ret
              exact ⟨ret_bool (by rw [HF.out]), (by repeat (first | exact Below.refl _ _ | (refine Below.alloc ?_ (by first | (simp; done) | (simp; omega)) _) | (refine Below.setCell ?_ (by first | (simp; done) | (simp; omega)) _) | (refine Below.drew ?_)))⟩
theorem implName_is {s : ByteArray} (hs : s.size ≤ maxLen) {b : Bool} (h : nameB s.data.toList = b) (w : World) :
    Calls Tryz.prog 85 #[.string s] w fun e w' => e = .returned (.bool b) ∧ w' = w :=
  (impl_name s w hs).mono fun _ _ ⟨h1, k⟩ => ⟨by rw [h1, h], k.symm⟩
theorem count_is {n lo : Int} {b : Bool} (h : inB n lo 99999 = b) (w : World) :
    Calls Tryz.prog 67 #[.int .i64 n, .int .i64 lo] w fun e w' => e = .returned (.bool b) ∧ w' = w :=
  (count_any n lo w).mono fun _ _ ⟨h1, k⟩ => ⟨by rw [h1, h], k.symm⟩
set_option maxRecDepth 100000 in
set_option maxHeartbeats 4000000 in
theorem spaceOk_any (x0 x1 : ByteArray) (x2 : Int) (x3 : Bool) (x4 : Int) (w : World) (h0 : x0.size ≤ maxLen) (h1 : x1.size ≤ maxLen) :
    Calls Tryz.prog 74 #[.agg #[.string x0, .string x1, .int .i64 x2, .bool x3, .int .i64 x4]] w fun e w' => e = .returned (.bool (spOk (x0, x1, x2, x3, x4))) ∧ Below w.heap.size w w' := by
  have HT := Lib.hid (show spOk (x0, x1, x2, x3, x4) = (nameB x0.data.toList && (decide (x1 = ⟨#[]⟩) || nameB x1.data.toList) && (decide (x1 = ⟨#[]⟩) == decide (x0 = allB)) && inB x2 (-1) 99999 && inB x4 0 99999 && (!decide (x1 = ⟨#[]⟩) || !x3)) from rfl)
  cases e0 : nameB x0.data.toList with
  | false =>
    have H0 := Lib.hid e0
    clear e0
    have HF := Lib.hid (show spOk (x0, x1, x2, x3, x4) = false by rw [HT.out, H0.out]; simp)
    go_enter Tryz.func74, Tryz.ntmps74
    go_wp2_with fail
    refine (implName_is h0 H0.out _).mono ?_
    rintro e wq ⟨rfl, rfl⟩
    go_wp2
    go_ret
    exact ⟨ret_bool (by rw [HF.out]), (by repeat (first | exact Below.refl _ _ | (refine Below.alloc ?_ (by first | (simp; done) | (simp; omega)) _) | (refine Below.setCell ?_ (by first | (simp; done) | (simp; omega)) _) | (refine Below.drew ?_)))⟩
  | true =>
    have H0 := Lib.hid e0
    clear e0
    cases e2 : inB x2 (-1) 99999 with
    | false =>
      have H2 := Lib.hid e2
      clear e2
      have HF := Lib.hid (show spOk (x0, x1, x2, x3, x4) = false by rw [HT.out, H0.out, H2.out]; simp)
      go_enter Tryz.func74, Tryz.ntmps74
      go_wp2_with fail
      refine (implName_is h0 H0.out _).mono ?_
      rintro e wq ⟨rfl, rfl⟩
      go_wp2_with fail
      refine (count_is H2.out _).mono ?_
      rintro e wq ⟨rfl, rfl⟩
      go_wp2
      go_ret
      exact ⟨ret_bool (by rw [HF.out]), (by repeat (first | exact Below.refl _ _ | (refine Below.alloc ?_ (by first | (simp; done) | (simp; omega)) _) | (refine Below.setCell ?_ (by first | (simp; done) | (simp; omega)) _) | (refine Below.drew ?_)))⟩
    | true =>
      have H2 := Lib.hid e2
      clear e2
      cases e4 : inB x4 0 99999 with
      | false =>
        have H4 := Lib.hid e4
        clear e4
        have HF := Lib.hid (show spOk (x0, x1, x2, x3, x4) = false by rw [HT.out, H0.out, H2.out, H4.out]; simp)
        go_enter Tryz.func74, Tryz.ntmps74
        go_wp2_with fail
        refine (implName_is h0 H0.out _).mono ?_
        rintro e wq ⟨rfl, rfl⟩
        go_wp2_with fail
        refine (count_is H2.out _).mono ?_
        rintro e wq ⟨rfl, rfl⟩
        go_wp2_with fail
        refine (count_is H4.out _).mono ?_
        rintro e wq ⟨rfl, rfl⟩
        go_wp2
        go_ret
        exact ⟨ret_bool (by rw [HF.out]), (by repeat (first | exact Below.refl _ _ | (refine Below.alloc ?_ (by first | (simp; done) | (simp; omega)) _) | (refine Below.setCell ?_ (by first | (simp; done) | (simp; omega)) _) | (refine Below.drew ?_)))⟩
      | true =>
        have H4 := Lib.hid e4
        clear e4
        by_cases g : x0 = allB
        · have HA := Lib.hid (decide_eq_true g)
          have q2 : (x0.toList == [97, 108, 108]) = true := by rw [g]; simp [allB]
          clear g
          by_cases e : x1 = ⟨#[]⟩
          · have HE := Lib.hid (decide_eq_true e)
            have q1 : x1.toList.isEmpty = true := by rw [e]; simp
            clear e
            have HF := Lib.hid (show spOk (x0, x1, x2, x3, x4) = (!x3) by rw [HT.out, H0.out, H2.out, H4.out, HA.out, HE.out]; simp)
            go_enter Tryz.func74, Tryz.ntmps74
            go_wp2_with fail
            refine (implName_is h0 H0.out _).mono ?_
            rintro e wq ⟨rfl, rfl⟩
            go_wp2_with fail
            refine (count_is H2.out _).mono ?_
            rintro e wq ⟨rfl, rfl⟩
            go_wp2_with fail
            refine (count_is H4.out _).mono ?_
            rintro e wq ⟨rfl, rfl⟩
            go_wp2
            go_ret
            exact ⟨ret_bool (by rw [HF.out]), (by repeat (first | exact Below.refl _ _ | (refine Below.alloc ?_ (by first | (simp; done) | (simp; omega)) _) | (refine Below.setCell ?_ (by first | (simp; done) | (simp; omega)) _) | (refine Below.drew ?_)))⟩
          · have HE := Lib.hid (decide_eq_false e)
            have q1 : x1.toList.isEmpty = false := isEmpty_no e
            clear e
            have HF := Lib.hid (show spOk (x0, x1, x2, x3, x4) = false by rw [HT.out, H0.out, H2.out, H4.out, HA.out, HE.out]; simp)
            go_enter Tryz.func74, Tryz.ntmps74
            go_wp2_with fail
            refine (implName_is h0 H0.out _).mono ?_
            rintro e wq ⟨rfl, rfl⟩
            go_wp2_with fail
            refine (count_is H2.out _).mono ?_
            rintro e wq ⟨rfl, rfl⟩
            go_wp2_with fail
            refine (count_is H4.out _).mono ?_
            rintro e wq ⟨rfl, rfl⟩
            go_wp2
            go_ret
            exact ⟨ret_bool (by rw [HF.out]), (by repeat (first | exact Below.refl _ _ | (refine Below.alloc ?_ (by first | (simp; done) | (simp; omega)) _) | (refine Below.setCell ?_ (by first | (simp; done) | (simp; omega)) _) | (refine Below.drew ?_)))⟩
        · have HA := Lib.hid (decide_eq_false g)
          have q2 : (x0.toList == [97, 108, 108]) = false := (by have := toList_no g; simpa [allB] using this)
          clear g
          cases e1 : nameB x1.data.toList with
          | false =>
            have H1 := Lib.hid e1
            clear e1
            by_cases e : x1 = ⟨#[]⟩
            · have HE := Lib.hid (decide_eq_true e)
              clear e
              have HF := Lib.hid (show spOk (x0, x1, x2, x3, x4) = false by rw [HT.out, H0.out, H2.out, H4.out, HA.out, H1.out, HE.out]; simp)
              go_enter Tryz.func74, Tryz.ntmps74
              go_wp2_with fail
              refine (implName_is h0 H0.out _).mono ?_
              rintro e wq ⟨rfl, rfl⟩
              go_wp2_with fail
              refine (count_is H2.out _).mono ?_
              rintro e wq ⟨rfl, rfl⟩
              go_wp2_with fail
              refine (count_is H4.out _).mono ?_
              rintro e wq ⟨rfl, rfl⟩
              go_wp2_with fail
              refine (implName_is h1 H1.out _).mono ?_
              rintro e wq ⟨rfl, rfl⟩
              go_wp2
              go_ret
              exact ⟨ret_bool (by rw [HF.out]), (by repeat (first | exact Below.refl _ _ | (refine Below.alloc ?_ (by first | (simp; done) | (simp; omega)) _) | (refine Below.setCell ?_ (by first | (simp; done) | (simp; omega)) _) | (refine Below.drew ?_)))⟩
            · have HE := Lib.hid (decide_eq_false e)
              clear e
              have HF := Lib.hid (show spOk (x0, x1, x2, x3, x4) = false by rw [HT.out, H0.out, H2.out, H4.out, HA.out, H1.out, HE.out]; simp)
              go_enter Tryz.func74, Tryz.ntmps74
              go_wp2_with fail
              refine (implName_is h0 H0.out _).mono ?_
              rintro e wq ⟨rfl, rfl⟩
              go_wp2_with fail
              refine (count_is H2.out _).mono ?_
              rintro e wq ⟨rfl, rfl⟩
              go_wp2_with fail
              refine (count_is H4.out _).mono ?_
              rintro e wq ⟨rfl, rfl⟩
              go_wp2_with fail
              refine (implName_is h1 H1.out _).mono ?_
              rintro e wq ⟨rfl, rfl⟩
              go_wp2
              go_ret
              exact ⟨ret_bool (by rw [HF.out]), (by repeat (first | exact Below.refl _ _ | (refine Below.alloc ?_ (by first | (simp; done) | (simp; omega)) _) | (refine Below.setCell ?_ (by first | (simp; done) | (simp; omega)) _) | (refine Below.drew ?_)))⟩
          | true =>
            have H1 := Lib.hid e1
            have HE := Lib.hid (decide_eq_false (show ¬ x1 = ⟨#[]⟩ from fun e => by rw [e] at e1; revert e1; decide))
            clear e1
            have HF := Lib.hid (show spOk (x0, x1, x2, x3, x4) = true by rw [HT.out, H0.out, H2.out, H4.out, HA.out, H1.out, HE.out]; simp)
            go_enter Tryz.func74, Tryz.ntmps74
            go_wp2_with fail
            refine (implName_is h0 H0.out _).mono ?_
            rintro e wq ⟨rfl, rfl⟩
            go_wp2_with fail
            refine (count_is H2.out _).mono ?_
            rintro e wq ⟨rfl, rfl⟩
            go_wp2_with fail
            refine (count_is H4.out _).mono ?_
            rintro e wq ⟨rfl, rfl⟩
            go_wp2_with fail
            refine (implName_is h1 H1.out _).mono ?_
            rintro e wq ⟨rfl, rfl⟩
            go_wp2
            go_ret
            exact ⟨ret_bool (by rw [HF.out]), (by repeat (first | exact Below.refl _ _ | (refine Below.alloc ?_ (by first | (simp; done) | (simp; omega)) _) | (refine Below.setCell ?_ (by first | (simp; done) | (simp; omega)) _) | (refine Below.drew ?_)))⟩
end Go.Proofs.YtbioljpjpflboaaGreatDoor
