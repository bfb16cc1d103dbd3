import Derived.Test.YtbioljpjpflboaaGreatDoorModelK
import Derived.Test.YtbioljpjpflboaaGreatDoorIn
import Derived.Test.YtbioljpjpflboaaGreatDoorName
import Derived.BigQuiet
import Derived.Deep.RegionHeld3
import Derived.WalkLawsBesides
import Derived.Deep.RegionLaw
/- What has passed, of the model: l10Past, l10Pasts of the specification. -/
namespace Go.Proofs.YtbioljpjpflboaaGreatDoor
open Go Go.RowKit

def signB (s : ByteArray) : Bool := decide (s = ⟨#[43]⟩) || (decide (s = ⟨#[61]⟩) || decide (s = ⟨#[45]⟩))
def pastB (p : PastD) : Bool := inB p.1 1 99999 && (signB p.2.1 && (nameB p.2.2.1.data.toList && (decide (p.2.2.2 = ⟨#[]⟩) || nameB p.2.2.2.data.toList)))
theorem in_isP {n a b : Int} {q : Bool} (h : inB n a b = q) (w : World) : Calls Tryz.prog 53 #[.int .i64 n, .int .i64 a, .int .i64 b] w fun e w' => e = .returned (.bool q) ∧ w = w' := by
  subst h
  exact in_any n a b w
theorem nm_isP {s : ByteArray} (hs : s.size ≤ maxLen) {q : Bool} (h : nameB s.data.toList = q) (w : World) : Calls Tryz.prog 93 #[.string s] w fun e w' => e = .returned (.bool q) ∧ w = w' := by
  subst h
  exact spec_name s w hs
theorem eqP_no {x y : ByteArray} (e : ¬ x = y) : (x.toList == y.toList) = false := by
  rw [beq_eq_false_iff_ne]
  intro h
  rw [ByteArray.toList_eq, ByteArray.toList_eq] at h
  exact e (by cases x; cases y; simpa [Array.toList_inj] using h)
theorem emP {x : ByteArray} (h : x ≠ ⟨#[]⟩) : x.toList.isEmpty = false ∧ ¬ x.toList = [] := by
  have h1 : ¬ x.toList = [] := fun e => by
    rw [ByteArray.toList_eq] at e
    exact h (by cases x; simpa using e)
  exact ⟨List.isEmpty_eq_false_iff.2 h1, h1⟩
theorem ltP_no {g : ByteArray} {l : List UInt8} (e : ¬ g = ⟨l.toArray⟩) : (¬ g.toList = l) ∧ (g.toList == l) = false := by
  have h : ¬ g.toList = l := fun h => e (by rw [ByteArray.toList_eq] at h; subst h; cases g; simp)
  exact ⟨h, by rw [beq_eq_false_iff_ne]; exact h⟩
set_option maxRecDepth 100000 in
set_option maxHeartbeats 1000000 in
theorem l10Past_any (r : Int) (g s n : ByteArray) (hs : s.size ≤ maxLen) (hn : n.size ≤ maxLen) (w : World) :
    Calls Tryz.prog 91 #[.agg #[.int .i64 r, .string g, .string s, .string n]] w fun e w' => e = .returned (.bool (pastB (r, g, s, n))) ∧ Below w.heap.size w w' := by
  have hB := Lib.hid (show pastB (r, g, s, n) = (inB r 1 99999 && (signB g && (nameB s.data.toList && (decide (n = ⟨#[]⟩) || nameB n.data.toList)))) from rfl)
  obtain ⟨q1, h1⟩ : ∃ q, inB r 1 99999 = q := ⟨_, rfl⟩
  obtain ⟨q2, h2⟩ : ∃ q, nameB s.data.toList = q := ⟨_, rfl⟩
  obtain ⟨q3, h3⟩ : ∃ q, nameB n.data.toList = q := ⟨_, rfl⟩
  rw [h1, h2, h3] at hB
  have H1 := Lib.hid h1
  have H2 := Lib.hid h2
  have H3 := Lib.hid h3
  clear h1 h2 h3
  cases q1 with
  | false =>
    go_enter Tryz.func91, Tryz.ntmps91
    go_wp2_with (go_at_call 53; refine (in_isP H1.out _).mono ?_; rintro e w1 ⟨rfl, rfl⟩)
    go_ret
    exact ⟨ret_bool (by rw [hB.out]; rfl), (by repeat (first | exact Below.refl _ _ | (refine Below.alloc ?_ (by first | (simp; done) | (simp; omega)) _) | (refine Below.setCell ?_ (by first | (simp; done) | (simp; omega)) _) | (refine Below.drew ?_)))⟩
  | true =>
    cases hg : signB g with
    | false =>
      rw [hg] at hB
      have hgg : ¬ g = ⟨#[43]⟩ ∧ ¬ g = ⟨#[61]⟩ ∧ ¬ g = ⟨#[45]⟩ := by simpa [signB] using hg
      obtain ⟨g1, g1'⟩ := ltP_no (l := [43]) hgg.1
      obtain ⟨g2, g2'⟩ := ltP_no (l := [61]) hgg.2.1
      obtain ⟨g3, g3'⟩ := ltP_no (l := [45]) hgg.2.2
      clear hg hgg
      go_enter Tryz.func91, Tryz.ntmps91
      go_wp2_with (go_at_call 53; refine (in_isP H1.out _).mono ?_; rintro e w1 ⟨rfl, rfl⟩)
      go_ret
      exact ⟨ret_bool (by rw [hB.out]; rfl), (by repeat (first | exact Below.refl _ _ | (refine Below.alloc ?_ (by first | (simp; done) | (simp; omega)) _) | (refine Below.setCell ?_ (by first | (simp; done) | (simp; omega)) _) | (refine Below.drew ?_)))⟩
    | true =>
      rw [hg] at hB
      have hgg : g = ⟨#[43]⟩ ∨ g = ⟨#[61]⟩ ∨ g = ⟨#[45]⟩ := by simpa [signB] using hg
      clear hg
      rcases hgg with rfl | rfl | rfl
      · cases q2 with
        | false =>
          go_enter Tryz.func91, Tryz.ntmps91
          go_wp2_with (first | (go_at_call 53; refine (in_isP H1.out _).mono ?_; rintro e w1 ⟨rfl, rfl⟩) | (go_at_call 93; refine (nm_isP hs H2.out _).mono ?_; rintro e w1 ⟨rfl, rfl⟩))
          go_ret
          exact ⟨ret_bool (by rw [hB.out]; rfl), (by repeat (first | exact Below.refl _ _ | (refine Below.alloc ?_ (by first | (simp; done) | (simp; omega)) _) | (refine Below.setCell ?_ (by first | (simp; done) | (simp; omega)) _) | (refine Below.drew ?_)))⟩
        | true =>
          by_cases he : n = ⟨#[]⟩
          · subst he
            go_enter Tryz.func91, Tryz.ntmps91
            go_wp2_with (first | (go_at_call 53; refine (in_isP H1.out _).mono ?_; rintro e w1 ⟨rfl, rfl⟩) | (go_at_call 93; refine (nm_isP hs H2.out _).mono ?_; rintro e w1 ⟨rfl, rfl⟩))
            go_ret
            exact ⟨ret_bool (by rw [hB.out]; simp), (by repeat (first | exact Below.refl _ _ | (refine Below.alloc ?_ (by first | (simp; done) | (simp; omega)) _) | (refine Below.setCell ?_ (by first | (simp; done) | (simp; omega)) _) | (refine Below.drew ?_)))⟩
          · obtain ⟨m1, m2⟩ := emP he
            have hB2 := Lib.hid (show pastB (r, ⟨#[43]⟩, s, n) = q3 by rw [hB.out, decide_eq_false he]; rfl)
            clear he
            go_enter Tryz.func91, Tryz.ntmps91
            go_wp2_with (first | (go_at_call 53; refine (in_isP H1.out _).mono ?_; rintro e w1 ⟨rfl, rfl⟩) | (go_at_call 93; have _d := D2; refine (nm_isP hn H3.out _).mono ?_; rintro e w1 ⟨rfl, rfl⟩) | (go_at_call 93; refine (nm_isP hs H2.out _).mono ?_; rintro e w1 ⟨rfl, rfl⟩; have D2 : True := (trivial)))
            go_ret
            exact ⟨ret_bool (by rw [hB2.out]), (by repeat (first | exact Below.refl _ _ | (refine Below.alloc ?_ (by first | (simp; done) | (simp; omega)) _) | (refine Below.setCell ?_ (by first | (simp; done) | (simp; omega)) _) | (refine Below.drew ?_)))⟩
      · cases q2 with
        | false =>
          go_enter Tryz.func91, Tryz.ntmps91
          go_wp2_with (first | (go_at_call 53; refine (in_isP H1.out _).mono ?_; rintro e w1 ⟨rfl, rfl⟩) | (go_at_call 93; refine (nm_isP hs H2.out _).mono ?_; rintro e w1 ⟨rfl, rfl⟩))
          go_ret
          exact ⟨ret_bool (by rw [hB.out]; rfl), (by repeat (first | exact Below.refl _ _ | (refine Below.alloc ?_ (by first | (simp; done) | (simp; omega)) _) | (refine Below.setCell ?_ (by first | (simp; done) | (simp; omega)) _) | (refine Below.drew ?_)))⟩
        | true =>
          by_cases he : n = ⟨#[]⟩
          · subst he
            go_enter Tryz.func91, Tryz.ntmps91
            go_wp2_with (first | (go_at_call 53; refine (in_isP H1.out _).mono ?_; rintro e w1 ⟨rfl, rfl⟩) | (go_at_call 93; refine (nm_isP hs H2.out _).mono ?_; rintro e w1 ⟨rfl, rfl⟩))
            go_ret
            exact ⟨ret_bool (by rw [hB.out]; simp), (by repeat (first | exact Below.refl _ _ | (refine Below.alloc ?_ (by first | (simp; done) | (simp; omega)) _) | (refine Below.setCell ?_ (by first | (simp; done) | (simp; omega)) _) | (refine Below.drew ?_)))⟩
          · obtain ⟨m1, m2⟩ := emP he
            have hB2 := Lib.hid (show pastB (r, ⟨#[61]⟩, s, n) = q3 by rw [hB.out, decide_eq_false he]; rfl)
            clear he
            go_enter Tryz.func91, Tryz.ntmps91
            go_wp2_with (first | (go_at_call 53; refine (in_isP H1.out _).mono ?_; rintro e w1 ⟨rfl, rfl⟩) | (go_at_call 93; have _d := D2; refine (nm_isP hn H3.out _).mono ?_; rintro e w1 ⟨rfl, rfl⟩) | (go_at_call 93; refine (nm_isP hs H2.out _).mono ?_; rintro e w1 ⟨rfl, rfl⟩; have D2 : True := (trivial)))
            go_ret
            exact ⟨ret_bool (by rw [hB2.out]), (by repeat (first | exact Below.refl _ _ | (refine Below.alloc ?_ (by first | (simp; done) | (simp; omega)) _) | (refine Below.setCell ?_ (by first | (simp; done) | (simp; omega)) _) | (refine Below.drew ?_)))⟩
      · cases q2 with
        | false =>
          go_enter Tryz.func91, Tryz.ntmps91
          go_wp2_with (first | (go_at_call 53; refine (in_isP H1.out _).mono ?_; rintro e w1 ⟨rfl, rfl⟩) | (go_at_call 93; refine (nm_isP hs H2.out _).mono ?_; rintro e w1 ⟨rfl, rfl⟩))
          go_ret
          exact ⟨ret_bool (by rw [hB.out]; rfl), (by repeat (first | exact Below.refl _ _ | (refine Below.alloc ?_ (by first | (simp; done) | (simp; omega)) _) | (refine Below.setCell ?_ (by first | (simp; done) | (simp; omega)) _) | (refine Below.drew ?_)))⟩
        | true =>
          by_cases he : n = ⟨#[]⟩
          · subst he
            go_enter Tryz.func91, Tryz.ntmps91
            go_wp2_with (first | (go_at_call 53; refine (in_isP H1.out _).mono ?_; rintro e w1 ⟨rfl, rfl⟩) | (go_at_call 93; refine (nm_isP hs H2.out _).mono ?_; rintro e w1 ⟨rfl, rfl⟩))
            go_ret
            exact ⟨ret_bool (by rw [hB.out]; simp), (by repeat (first | exact Below.refl _ _ | (refine Below.alloc ?_ (by first | (simp; done) | (simp; omega)) _) | (refine Below.setCell ?_ (by first | (simp; done) | (simp; omega)) _) | (refine Below.drew ?_)))⟩
          · obtain ⟨m1, m2⟩ := emP he
            have hB2 := Lib.hid (show pastB (r, ⟨#[45]⟩, s, n) = q3 by rw [hB.out, decide_eq_false he]; rfl)
            clear he
            go_enter Tryz.func91, Tryz.ntmps91
            go_wp2_with (first | (go_at_call 53; refine (in_isP H1.out _).mono ?_; rintro e w1 ⟨rfl, rfl⟩) | (go_at_call 93; have _d := D2; refine (nm_isP hn H3.out _).mono ?_; rintro e w1 ⟨rfl, rfl⟩) | (go_at_call 93; refine (nm_isP hs H2.out _).mono ?_; rintro e w1 ⟨rfl, rfl⟩; have D2 : True := (trivial)))
            go_ret
            exact ⟨ret_bool (by rw [hB2.out]), (by repeat (first | exact Below.refl _ _ | (refine Below.alloc ?_ (by first | (simp; done) | (simp; omega)) _) | (refine Below.setCell ?_ (by first | (simp; done) | (simp; omega)) _) | (refine Below.drew ?_)))⟩
def pastAt (flo : Int) (P : List PastD) (i : Nat) : Bool := pastB (P.getD i default) && decide ((P.getD i default).1 = flo + i + 1)
def pastsB (rev flo : Int) (P : List PastD) : Bool := (List.range P.length).all (pastAt flo P) && (decide (flo + P.length = rev) && decide (P.length ≤ 8))
theorem pastAt_eq {flo : Int} {P : List PastD} {i : Nat} (h : i < P.length) : pastAt flo P i = (pastB P[i] && decide (P[i].1 = flo + i + 1)) := by simp [pastAt, h]
theorem pasts_no {rev flo : Int} {P : List PastD} {i : Nat} (h : i < P.length) (hi : pastAt flo P i = false) : pastsB rev flo P = false := by
  unfold pastsB
  rw [List.all_eq_false.2 ⟨i, List.mem_range.2 h, by rw [hi]; simp⟩]
  rfl
theorem pasts_all {rev flo : Int} {P : List PastD} {k : Nat} (hk : P.length ≤ k) (h : ∀ i, i < k → i < P.length → pastAt flo P i = true) : pastsB rev flo P = (decide (flo + P.length = rev) && decide (P.length ≤ 8)) := by
  unfold pastsB
  rw [List.all_eq_true.2 fun i hi => h i (Nat.lt_of_lt_of_le (List.mem_range.1 hi) hk) (List.mem_range.1 hi)]
  rfl
theorem past_isP {x : PastD} {q : Bool} (h : pastB x = q) (hx : OkPast x) (w : World) :
    Calls Tryz.prog 91 #[.agg #[.int .i64 x.1, .string x.2.1, .string x.2.2.1, .string x.2.2.2]] w fun e w' => e = .returned (.bool q) ∧ Below w.heap.size w w' := by
  subst h
  exact l10Past_any x.1 x.2.1 x.2.2.1 x.2.2.2 hx.2.1 hx.2.2 w
set_option maxRecDepth 100000 in
set_option maxHeartbeats 2000000 in
theorem l10Pasts_any {v : Value} {m : ModelD} {w : World} (h : VwModel w v m) (hr : 0 ≤ m.rev ∧ m.rev ≤ 99999) (hf : 0 ≤ m.flo ∧ m.flo ≤ m.rev) (hb : (bulkPastS m.pasts : Int) ≤ 1048576) :
    Calls Tryz.prog 57 #[v] w fun e w' => e = .returned (.bool (pastsB m.rev m.flo m.pasts)) ∧ Below w.heap.size w w' := by
  obtain ⟨v3, v4, v5, v6, rfl, -, -, -, h6⟩ := h
  obtain ⟨a, c, rfl, hl, hok⟩ := h6
  have hlen := bulkPastS_len hb
  have HX := Lib.hid hl
  have HK := Lib.hid hok
  clear hl hok
  obtain ⟨rev, uid, flo, sps, uses, ths, P⟩ := m
  simp only at hr hf hlen HX HK ⊢
  go_enter Tryz.func57, Tryz.ntmps57
  go_wp2_with fail
  obtain ⟨w2, hA⟩ : ∃ wA, w.alloc (.cells #[.int .i64 rev, .int .i64 uid, .int .i64 flo, v3, v4, v5, .slice a P.length c] 35) = wA := ⟨_, rfl⟩
  have BX := Lib.hid (show Box w2 w.heap.size [.int .i64 rev, .int .i64 uid, .int .i64 flo, v3, v4, v5, .slice a P.length c] by rw [← hA]; exact Box.alloc w _ _)
  have B2 := Lib.hid (show Below w.heap.size w w2 by rw [← hA]; exact below_alloc _ _)
  have HX2 := Lib.hid (HX.out.below (w' := w2) B2.out)
  have z2 := B2.out.size
  rw [hA]
  clear hA HX
  go_wp2_with fail
  go_loopw [3] (fun i wr => ∃ k : Nat, k ≤ P.length ∧ i = .int .i64 k ∧ (∀ j, j < k → j < P.length → pastAt flo P j = true) ∧ Below w2.heap.size w2 wr) (fun i _ => P.length - (intOf i).toNat)
  case atStart => exact ⟨0, Nat.zero_le _, rfl, fun j h => absurd h (Nat.not_lt_zero _), Below.refl _ _⟩
  case round =>
    obtain ⟨k, hk, rfl, hto, hbel⟩ := hrel
    have HT := Lib.hid hto
    have HB := Lib.hid hbel
    have zb := hbel.size
    have BXr := BX.out.below hbel
    obtain ⟨⟨x0, _⟩, ⟨x1, _⟩, ⟨x2, _⟩, ⟨x3, _⟩, ⟨x4, _⟩, ⟨x5, _⟩, x6, _⟩ := show _ ∧ _ ∧ _ ∧ _ ∧ _ ∧ _ ∧ _ from ⟨BXr 0 _ rfl, BXr 1 _ rfl, BXr 2 _ rfl, BXr 3 _ rfl, BXr 4 _ rfl, BXr 5 _ rfl, BXr 6 _ rfl⟩
    clear hto BXr
    by_cases hlt : k < P.length
    · obtain ⟨bb, ob, rfl, hcb⟩ := HX2.out.2.resolve_left (by intro e; rw [e] at hlt; simp at hlt)
      obtain ⟨c0, c1, c2, c3⟩ := cellsPast hbel hcb k hlt
      have HCB := Lib.hid hcb
      have hkI : (k : Int) < (P.length : Int) := by omega
      have hk0 : (0 : Int) ≤ (k : Int) := by omega
      have HOK := Lib.hid (HK.out _ (List.getElem_mem hlt))
      have KS := Lib.hid (show ∀ W, Below w2.heap.size w2 W → (W.cell? ⟨w.heap.size, 6, none⟩ = some (.slice (some ⟨bb, ob, none⟩) P.length c) ∧ W.cell? ⟨w.heap.size, 2, none⟩ = some (.int .i64 flo) ∧ W.cell? ⟨bb, ob + k * 4, none⟩ = some (.int .i64 P[k].1) ∧ W.cell? ⟨bb, ob + k * 4 + 1, none⟩ = some (.string P[k].2.1) ∧ W.cell? ⟨bb, ob + k * 4 + 2, none⟩ = some (.string P[k].2.2.1) ∧ W.cell? ⟨bb, ob + k * 4 + 3, none⟩ = some (.string P[k].2.2.2) ∧ Below w2.heap.size w2 W) from fun W hb => by
        obtain ⟨d0, d1, d2, d3⟩ := cellsPast hb hcb k hlt
        have h := BX.out.below hb
        exact ⟨(h 6 _ rfl).1, (h 2 _ rfl).1, d0, d1, d2, d3, hb⟩)
      clear hcb hbel
      cases hq : pastB P[k] with
      | false =>
        have HQ := Lib.hid hq
        have HF := Lib.hid (pasts_no (rev := rev) (flo := flo) hlt (by rw [pastAt_eq hlt, hq]; rfl))
        clear hq
        go_wp2_with fail
        refine wp_region_held_drew (S := fun W => W.cell? ⟨w.heap.size, 6, none⟩ = some (.slice (some ⟨bb, ob, none⟩) P.length c) ∧ W.cell? ⟨w.heap.size, 2, none⟩ = some (.int .i64 flo) ∧ W.cell? ⟨bb, ob + k * 4, none⟩ = some (.int .i64 P[k].1) ∧ W.cell? ⟨bb, ob + k * 4 + 1, none⟩ = some (.string P[k].2.1) ∧ W.cell? ⟨bb, ob + k * 4 + 2, none⟩ = some (.string P[k].2.2.1) ∧ W.cell? ⟨bb, ob + k * 4 + 3, none⟩ = some (.string P[k].2.2.2) ∧ Below w2.heap.size w2 W) (by kernel_rfl) (KS.out _ HB.out.drew) (fun hHeld => ?_)
        refine wpAnyH_take (i := 0) (oi := { dst := some 11, op := Op.fieldAddr 35 (Operand.tmp 1) 6, type := 0, pos := "l10_model.go:39", after := _, guard := none }) (v := ?_) rfl (by kernel_rfl) (by kernel_rfl) (by kernel_rfl) (fun _ _ _ h => h) (Or.inl ⟨by rfl, ?_⟩) (by assumption) ?_
        rotate_left
        · (intro w hSw; (try dsimp only at hSw); go_simp; (try with_reducible rfl))
        simp only [Act.put, List.setIfInBounds_toArray, List.set_cons_zero, List.set_cons_succ]
        refine wpAnyH_take (i := 1) (oi := { dst := some 12, op := Op.load 33 (Operand.tmp 11), type := 33, pos := "l10_model.go:39", after := _, guard := none }) (v := ?_) rfl (by kernel_rfl) (by kernel_rfl) (by kernel_rfl) (fun _ _ _ h => h) (Or.inl ⟨by rfl, ?_⟩) (by assumption) ?_
        rotate_left
        · (intro w hSw; (try dsimp only at hSw); go_simp; (try with_reducible rfl))
        simp only [Act.put, List.setIfInBounds_toArray, List.set_cons_zero, List.set_cons_succ]
        refine wpAnyH_take (i := 2) (oi := { dst := some 13, op := Op.move (Operand.tmp 3), type := 3, pos := "l10_model.go:39", after := _, guard := none }) (v := ?_) rfl (by kernel_rfl) (by kernel_rfl) (by kernel_rfl) (fun _ _ _ h => h) (Or.inl ⟨by rfl, ?_⟩) (by assumption) ?_
        rotate_left
        · (intro w hSw; (try dsimp only at hSw); go_simp; (try with_reducible rfl))
        simp only [Act.put, List.setIfInBounds_toArray, List.set_cons_zero, List.set_cons_succ]
        refine wpAnyH_take (i := 3) (oi := { dst := some 14, op := Op.indexAddr 33 (Operand.tmp 12) (Operand.tmp 13), type := 0, pos := "l10_model.go:39", after := _, guard := none }) (v := ?_) rfl (by kernel_rfl) (by kernel_rfl) (by kernel_rfl) (fun _ _ _ h => h) (Or.inl ⟨by rfl, ?_⟩) (by assumption) ?_
        rotate_left
        · (intro w hSw; (try dsimp only at hSw); go_simp; (try with_reducible rfl))
        simp only [Act.put, List.setIfInBounds_toArray, List.set_cons_zero, List.set_cons_succ]
        refine wpAnyH_take (i := 4) (oi := { dst := some 15, op := Op.load 80 (Operand.tmp 14), type := 80, pos := "l10_model.go:39", after := _, guard := none }) (v := ?_) rfl (by kernel_rfl) (by kernel_rfl) (by kernel_rfl) (fun _ _ _ h => h) (Or.inl ⟨by rfl, ?_⟩) (by assumption) ?_
        rotate_left
        · (intro w hSw; (try dsimp only at hSw); go_simp; (try with_reducible rfl))
        simp only [Act.put, List.setIfInBounds_toArray, List.set_cons_zero, List.set_cons_succ]
        refine wpAnyH_ready (rs := [5]) (by kernel_rfl) (by simp) ?_
        refine AllReadyH.cons (o := { dst := some 16, op := Op.call { callee := Callee.value (Operand.func 91), args := #[Operand.tmp 15], argTypes := #[80] }, type := 4, pos := "l10_model.go:39", after := _, guard := none }) rfl (fun K hK => ?_) AllReadyH.nil
        go_simp
        go_at_call 91
        refine (past_isP HQ.out HOK.out _).mono ?_
        rintro e w3 ⟨rfl, b3⟩
        have B3 : Below w2.heap.size w2 w3 := hHeld.2.2.2.2.2.2.trans (b3.mono hHeld.2.2.2.2.2.2.size)
        refine hK.out _ _ ?_ (fun hHeld => ?_)
        · exact KS.out _ B3
        clear hK K
        (try simp only [Act.put, List.setIfInBounds_toArray, List.set_cons_zero, List.set_cons_succ])
        refine wpAnyH_take (i := 6) (oi := { dst := some 17, op := Op.unOp UnOp.not 4 (Operand.tmp 16), type := 4, pos := "l10_model.go:39", after := _, guard := none }) (v := ?_) rfl (by kernel_rfl) (by kernel_rfl) (by kernel_rfl) (fun _ _ _ h => h) (Or.inl ⟨by rfl, ?_⟩) (by assumption) ?_
        rotate_left
        · (intro w hSw; (try dsimp only at hSw); go_simp; (try with_reducible rfl))
        simp only [Act.put, List.setIfInBounds_toArray, List.set_cons_zero, List.set_cons_succ]
        refine wpAnyH_take (i := 7) (oi := { dst := some 18, op := Op.move (Operand.tmp 17), type := 4, pos := "l10_model.go:39", after := _, guard := none }) (v := ?_) rfl (by kernel_rfl) (by kernel_rfl) (by kernel_rfl) (fun _ _ _ h => h) (Or.inl ⟨by rfl, ?_⟩) (by assumption) ?_
        rotate_left
        · (intro w hSw; (try dsimp only at hSw); go_simp; (try with_reducible rfl))
        simp only [Act.put, List.setIfInBounds_toArray, List.set_cons_zero, List.set_cons_succ]
        refine wpAnyH_take (i := 8) (oi := { dst := some 19, op := Op.fieldAddr 35 (Operand.tmp 1) 6, type := 0, pos := "l10_model.go:39", after := _, guard := some (7, false) }) (v := undef) rfl (by kernel_rfl) (by kernel_rfl) (by kernel_rfl) (fun _ _ _ h => h) (Or.inr ⟨by rfl, rfl⟩) (by assumption) ?_
        simp only [Act.put, List.setIfInBounds_toArray, List.set_cons_zero, List.set_cons_succ]
        refine wpAnyH_take (i := 9) (oi := { dst := some 20, op := Op.load 33 (Operand.tmp 19), type := 33, pos := "l10_model.go:39", after := _, guard := some (7, false) }) (v := undef) rfl (by kernel_rfl) (by kernel_rfl) (by kernel_rfl) (fun _ _ _ h => h) (Or.inr ⟨by rfl, rfl⟩) (by assumption) ?_
        simp only [Act.put, List.setIfInBounds_toArray, List.set_cons_zero, List.set_cons_succ]
        refine wpAnyH_take (i := 10) (oi := { dst := some 21, op := Op.move (Operand.tmp 3), type := 3, pos := "l10_model.go:39", after := _, guard := some (7, false) }) (v := undef) rfl (by kernel_rfl) (by kernel_rfl) (by kernel_rfl) (fun _ _ _ h => h) (Or.inr ⟨by rfl, rfl⟩) (by assumption) ?_
        simp only [Act.put, List.setIfInBounds_toArray, List.set_cons_zero, List.set_cons_succ]
        refine wpAnyH_take (i := 11) (oi := { dst := some 22, op := Op.indexAddr 33 (Operand.tmp 20) (Operand.tmp 21), type := 0, pos := "l10_model.go:39", after := _, guard := some (7, false) }) (v := undef) rfl (by kernel_rfl) (by kernel_rfl) (by kernel_rfl) (fun _ _ _ h => h) (Or.inr ⟨by rfl, rfl⟩) (by assumption) ?_
        simp only [Act.put, List.setIfInBounds_toArray, List.set_cons_zero, List.set_cons_succ]
        refine wpAnyH_take (i := 12) (oi := { dst := some 23, op := Op.fieldAddr 80 (Operand.tmp 22) 0, type := 0, pos := "l10_model.go:39", after := _, guard := some (7, false) }) (v := undef) rfl (by kernel_rfl) (by kernel_rfl) (by kernel_rfl) (fun _ _ _ h => h) (Or.inr ⟨by rfl, rfl⟩) (by assumption) ?_
        simp only [Act.put, List.setIfInBounds_toArray, List.set_cons_zero, List.set_cons_succ]
        refine wpAnyH_take (i := 13) (oi := { dst := some 24, op := Op.load 3 (Operand.tmp 23), type := 3, pos := "l10_model.go:39", after := _, guard := some (7, false) }) (v := undef) rfl (by kernel_rfl) (by kernel_rfl) (by kernel_rfl) (fun _ _ _ h => h) (Or.inr ⟨by rfl, rfl⟩) (by assumption) ?_
        simp only [Act.put, List.setIfInBounds_toArray, List.set_cons_zero, List.set_cons_succ]
        refine wpAnyH_take (i := 14) (oi := { dst := some 25, op := Op.fieldAddr 35 (Operand.tmp 1) 2, type := 0, pos := "l10_model.go:39", after := _, guard := some (7, false) }) (v := undef) rfl (by kernel_rfl) (by kernel_rfl) (by kernel_rfl) (fun _ _ _ h => h) (Or.inr ⟨by rfl, rfl⟩) (by assumption) ?_
        simp only [Act.put, List.setIfInBounds_toArray, List.set_cons_zero, List.set_cons_succ]
        refine wpAnyH_take (i := 15) (oi := { dst := some 26, op := Op.load 3 (Operand.tmp 25), type := 3, pos := "l10_model.go:39", after := _, guard := some (7, false) }) (v := undef) rfl (by kernel_rfl) (by kernel_rfl) (by kernel_rfl) (fun _ _ _ h => h) (Or.inr ⟨by rfl, rfl⟩) (by assumption) ?_
        simp only [Act.put, List.setIfInBounds_toArray, List.set_cons_zero, List.set_cons_succ]
        refine wpAnyH_take (i := 16) (oi := { dst := some 27, op := Op.move (Operand.tmp 3), type := 3, pos := "l10_model.go:39", after := _, guard := some (7, false) }) (v := undef) rfl (by kernel_rfl) (by kernel_rfl) (by kernel_rfl) (fun _ _ _ h => h) (Or.inr ⟨by rfl, rfl⟩) (by assumption) ?_
        simp only [Act.put, List.setIfInBounds_toArray, List.set_cons_zero, List.set_cons_succ]
        refine wpAnyH_take (i := 17) (oi := { dst := some 28, op := Op.binOp BinOp.add 3 (Operand.tmp 26) (Operand.tmp 27) 3, type := 3, pos := "l10_model.go:39", after := _, guard := some (7, false) }) (v := undef) rfl (by kernel_rfl) (by kernel_rfl) (by kernel_rfl) (fun _ _ _ h => h) (Or.inr ⟨by rfl, rfl⟩) (by assumption) ?_
        simp only [Act.put, List.setIfInBounds_toArray, List.set_cons_zero, List.set_cons_succ]
        refine wpAnyH_take (i := 18) (oi := { dst := some 29, op := Op.binOp BinOp.add 3 (Operand.tmp 28) (Operand.const (Value.int IntKind.i64 1)) 3, type := 3, pos := "l10_model.go:39", after := _, guard := some (7, false) }) (v := undef) rfl (by kernel_rfl) (by kernel_rfl) (by kernel_rfl) (fun _ _ _ h => h) (Or.inr ⟨by rfl, rfl⟩) (by assumption) ?_
        simp only [Act.put, List.setIfInBounds_toArray, List.set_cons_zero, List.set_cons_succ]
        refine wpAnyH_take (i := 19) (oi := { dst := some 30, op := Op.binOp BinOp.neq 3 (Operand.tmp 24) (Operand.tmp 29) 3, type := 4, pos := "l10_model.go:39", after := _, guard := some (7, false) }) (v := undef) rfl (by kernel_rfl) (by kernel_rfl) (by kernel_rfl) (fun _ _ _ h => h) (Or.inr ⟨by rfl, rfl⟩) (by assumption) ?_
        simp only [Act.put, List.setIfInBounds_toArray, List.set_cons_zero, List.set_cons_succ]
        refine wpAnyH_take (i := 20) (oi := { dst := some 31, op := Op.pick (Operand.tmp 18) (Operand.const (Value.bool true)) (Operand.tmp 30), type := 4, pos := "l10_model.go:39", after := _, guard := none }) (v := ?_) rfl (by kernel_rfl) (by kernel_rfl) (by kernel_rfl) (fun _ _ _ h => h) (Or.inl ⟨by rfl, ?_⟩) (by assumption) ?_
        rotate_left
        · (intro w hSw; (try dsimp only at hSw); go_simp; (try with_reducible rfl))
        simp only [Act.put, List.setIfInBounds_toArray, List.set_cons_zero, List.set_cons_succ]
        refine wpAnyH_done (by kernel_rfl) ?_ _
        go_wp2
        go_ret
        exact ⟨ret_bool (by rw [HF.out]), B2.out.trans (B3.mono (by omega))⟩
      | true =>
        have HQ := Lib.hid hq
        have hw1 : IntKind.i64.wrap (flo + (k : Int)) = flo + (k : Int) := wrap_small _ (by omega) (by omega)
        have hw2 : IntKind.i64.wrap (flo + (k : Int) + 1) = flo + (k : Int) + 1 := wrap_small _ (by omega) (by omega)
        by_cases he : P[k].1 = flo + k + 1
        · have HN := Lib.hid (show ∀ j, j < k + 1 → j < P.length → pastAt flo P j = true from fun j h1 h2 => by
            by_cases e : j < k
            · exact HT.out j e h2
            · obtain rfl : j = k := by omega
              rw [pastAt_eq h2, hq, decide_eq_true he]; rfl)
          have n1 : (P[k].1 != flo + (k : Int) + 1) = false := by rw [he]; simp
          have n2 : (P[k].1 == flo + (k : Int) + 1) = true := by rw [he]; simp
          clear hq he
          go_wp2_with fail
          refine wp_region_held_drew (S := fun W => W.cell? ⟨w.heap.size, 6, none⟩ = some (.slice (some ⟨bb, ob, none⟩) P.length c) ∧ W.cell? ⟨w.heap.size, 2, none⟩ = some (.int .i64 flo) ∧ W.cell? ⟨bb, ob + k * 4, none⟩ = some (.int .i64 P[k].1) ∧ W.cell? ⟨bb, ob + k * 4 + 1, none⟩ = some (.string P[k].2.1) ∧ W.cell? ⟨bb, ob + k * 4 + 2, none⟩ = some (.string P[k].2.2.1) ∧ W.cell? ⟨bb, ob + k * 4 + 3, none⟩ = some (.string P[k].2.2.2) ∧ Below w2.heap.size w2 W) (by kernel_rfl) (KS.out _ HB.out.drew) (fun hHeld => ?_)
          refine wpAnyH_take (i := 0) (oi := { dst := some 11, op := Op.fieldAddr 35 (Operand.tmp 1) 6, type := 0, pos := "l10_model.go:39", after := _, guard := none }) (v := ?_) rfl (by kernel_rfl) (by kernel_rfl) (by kernel_rfl) (fun _ _ _ h => h) (Or.inl ⟨by rfl, ?_⟩) (by assumption) ?_
          rotate_left
          · (intro w hSw; (try dsimp only at hSw); go_simp; (try with_reducible rfl))
          simp only [Act.put, List.setIfInBounds_toArray, List.set_cons_zero, List.set_cons_succ]
          refine wpAnyH_take (i := 1) (oi := { dst := some 12, op := Op.load 33 (Operand.tmp 11), type := 33, pos := "l10_model.go:39", after := _, guard := none }) (v := ?_) rfl (by kernel_rfl) (by kernel_rfl) (by kernel_rfl) (fun _ _ _ h => h) (Or.inl ⟨by rfl, ?_⟩) (by assumption) ?_
          rotate_left
          · (intro w hSw; (try dsimp only at hSw); go_simp; (try with_reducible rfl))
          simp only [Act.put, List.setIfInBounds_toArray, List.set_cons_zero, List.set_cons_succ]
          refine wpAnyH_take (i := 2) (oi := { dst := some 13, op := Op.move (Operand.tmp 3), type := 3, pos := "l10_model.go:39", after := _, guard := none }) (v := ?_) rfl (by kernel_rfl) (by kernel_rfl) (by kernel_rfl) (fun _ _ _ h => h) (Or.inl ⟨by rfl, ?_⟩) (by assumption) ?_
          rotate_left
          · (intro w hSw; (try dsimp only at hSw); go_simp; (try with_reducible rfl))
          simp only [Act.put, List.setIfInBounds_toArray, List.set_cons_zero, List.set_cons_succ]
          refine wpAnyH_take (i := 3) (oi := { dst := some 14, op := Op.indexAddr 33 (Operand.tmp 12) (Operand.tmp 13), type := 0, pos := "l10_model.go:39", after := _, guard := none }) (v := ?_) rfl (by kernel_rfl) (by kernel_rfl) (by kernel_rfl) (fun _ _ _ h => h) (Or.inl ⟨by rfl, ?_⟩) (by assumption) ?_
          rotate_left
          · (intro w hSw; (try dsimp only at hSw); go_simp; (try with_reducible rfl))
          simp only [Act.put, List.setIfInBounds_toArray, List.set_cons_zero, List.set_cons_succ]
          refine wpAnyH_take (i := 4) (oi := { dst := some 15, op := Op.load 80 (Operand.tmp 14), type := 80, pos := "l10_model.go:39", after := _, guard := none }) (v := ?_) rfl (by kernel_rfl) (by kernel_rfl) (by kernel_rfl) (fun _ _ _ h => h) (Or.inl ⟨by rfl, ?_⟩) (by assumption) ?_
          rotate_left
          · (intro w hSw; (try dsimp only at hSw); go_simp; (try with_reducible rfl))
          simp only [Act.put, List.setIfInBounds_toArray, List.set_cons_zero, List.set_cons_succ]
          refine wpAnyH_ready (rs := [5]) (by kernel_rfl) (by simp) ?_
          refine AllReadyH.cons (o := { dst := some 16, op := Op.call { callee := Callee.value (Operand.func 91), args := #[Operand.tmp 15], argTypes := #[80] }, type := 4, pos := "l10_model.go:39", after := _, guard := none }) rfl (fun K hK => ?_) AllReadyH.nil
          go_simp
          go_at_call 91
          refine (past_isP HQ.out HOK.out _).mono ?_
          rintro e w3 ⟨rfl, b3⟩
          have B3 : Below w2.heap.size w2 w3 := hHeld.2.2.2.2.2.2.trans (b3.mono hHeld.2.2.2.2.2.2.size)
          refine hK.out _ _ ?_ (fun hHeld => ?_)
          · exact KS.out _ B3
          clear hK K
          (try simp only [Act.put, List.setIfInBounds_toArray, List.set_cons_zero, List.set_cons_succ])
          refine wpAnyH_take (i := 6) (oi := { dst := some 17, op := Op.unOp UnOp.not 4 (Operand.tmp 16), type := 4, pos := "l10_model.go:39", after := _, guard := none }) (v := ?_) rfl (by kernel_rfl) (by kernel_rfl) (by kernel_rfl) (fun _ _ _ h => h) (Or.inl ⟨by rfl, ?_⟩) (by assumption) ?_
          rotate_left
          · (intro w hSw; (try dsimp only at hSw); go_simp; (try with_reducible rfl))
          simp only [Act.put, List.setIfInBounds_toArray, List.set_cons_zero, List.set_cons_succ]
          refine wpAnyH_take (i := 7) (oi := { dst := some 18, op := Op.move (Operand.tmp 17), type := 4, pos := "l10_model.go:39", after := _, guard := none }) (v := ?_) rfl (by kernel_rfl) (by kernel_rfl) (by kernel_rfl) (fun _ _ _ h => h) (Or.inl ⟨by rfl, ?_⟩) (by assumption) ?_
          rotate_left
          · (intro w hSw; (try dsimp only at hSw); go_simp; (try with_reducible rfl))
          simp only [Act.put, List.setIfInBounds_toArray, List.set_cons_zero, List.set_cons_succ]
          refine wpAnyH_take (i := 8) (oi := { dst := some 19, op := Op.fieldAddr 35 (Operand.tmp 1) 6, type := 0, pos := "l10_model.go:39", after := _, guard := some (7, false) }) (v := ?_) rfl (by kernel_rfl) (by kernel_rfl) (by kernel_rfl) (fun _ _ _ h => h) (Or.inl ⟨by rfl, ?_⟩) (by assumption) ?_
          rotate_left
          · (intro w hSw; (try dsimp only at hSw); go_simp; (try with_reducible rfl))
          simp only [Act.put, List.setIfInBounds_toArray, List.set_cons_zero, List.set_cons_succ]
          refine wpAnyH_take (i := 9) (oi := { dst := some 20, op := Op.load 33 (Operand.tmp 19), type := 33, pos := "l10_model.go:39", after := _, guard := some (7, false) }) (v := ?_) rfl (by kernel_rfl) (by kernel_rfl) (by kernel_rfl) (fun _ _ _ h => h) (Or.inl ⟨by rfl, ?_⟩) (by assumption) ?_
          rotate_left
          · (intro w hSw; (try dsimp only at hSw); go_simp; (try with_reducible rfl))
          simp only [Act.put, List.setIfInBounds_toArray, List.set_cons_zero, List.set_cons_succ]
          refine wpAnyH_take (i := 10) (oi := { dst := some 21, op := Op.move (Operand.tmp 3), type := 3, pos := "l10_model.go:39", after := _, guard := some (7, false) }) (v := ?_) rfl (by kernel_rfl) (by kernel_rfl) (by kernel_rfl) (fun _ _ _ h => h) (Or.inl ⟨by rfl, ?_⟩) (by assumption) ?_
          rotate_left
          · (intro w hSw; (try dsimp only at hSw); go_simp; (try with_reducible rfl))
          simp only [Act.put, List.setIfInBounds_toArray, List.set_cons_zero, List.set_cons_succ]
          refine wpAnyH_take (i := 11) (oi := { dst := some 22, op := Op.indexAddr 33 (Operand.tmp 20) (Operand.tmp 21), type := 0, pos := "l10_model.go:39", after := _, guard := some (7, false) }) (v := ?_) rfl (by kernel_rfl) (by kernel_rfl) (by kernel_rfl) (fun _ _ _ h => h) (Or.inl ⟨by rfl, ?_⟩) (by assumption) ?_
          rotate_left
          · (intro w hSw; (try dsimp only at hSw); go_simp; (try with_reducible rfl))
          simp only [Act.put, List.setIfInBounds_toArray, List.set_cons_zero, List.set_cons_succ]
          refine wpAnyH_take (i := 12) (oi := { dst := some 23, op := Op.fieldAddr 80 (Operand.tmp 22) 0, type := 0, pos := "l10_model.go:39", after := _, guard := some (7, false) }) (v := ?_) rfl (by kernel_rfl) (by kernel_rfl) (by kernel_rfl) (fun _ _ _ h => h) (Or.inl ⟨by rfl, ?_⟩) (by assumption) ?_
          rotate_left
          · (intro w hSw; (try dsimp only at hSw); go_simp; (try with_reducible rfl))
          simp only [Act.put, List.setIfInBounds_toArray, List.set_cons_zero, List.set_cons_succ]
          refine wpAnyH_take (i := 13) (oi := { dst := some 24, op := Op.load 3 (Operand.tmp 23), type := 3, pos := "l10_model.go:39", after := _, guard := some (7, false) }) (v := ?_) rfl (by kernel_rfl) (by kernel_rfl) (by kernel_rfl) (fun _ _ _ h => h) (Or.inl ⟨by rfl, ?_⟩) (by assumption) ?_
          rotate_left
          · (intro w hSw; (try dsimp only at hSw); go_simp; (try with_reducible rfl))
          simp only [Act.put, List.setIfInBounds_toArray, List.set_cons_zero, List.set_cons_succ]
          refine wpAnyH_take (i := 14) (oi := { dst := some 25, op := Op.fieldAddr 35 (Operand.tmp 1) 2, type := 0, pos := "l10_model.go:39", after := _, guard := some (7, false) }) (v := ?_) rfl (by kernel_rfl) (by kernel_rfl) (by kernel_rfl) (fun _ _ _ h => h) (Or.inl ⟨by rfl, ?_⟩) (by assumption) ?_
          rotate_left
          · (intro w hSw; (try dsimp only at hSw); go_simp; (try with_reducible rfl))
          simp only [Act.put, List.setIfInBounds_toArray, List.set_cons_zero, List.set_cons_succ]
          refine wpAnyH_take (i := 15) (oi := { dst := some 26, op := Op.load 3 (Operand.tmp 25), type := 3, pos := "l10_model.go:39", after := _, guard := some (7, false) }) (v := ?_) rfl (by kernel_rfl) (by kernel_rfl) (by kernel_rfl) (fun _ _ _ h => h) (Or.inl ⟨by rfl, ?_⟩) (by assumption) ?_
          rotate_left
          · (intro w hSw; (try dsimp only at hSw); go_simp; (try with_reducible rfl))
          simp only [Act.put, List.setIfInBounds_toArray, List.set_cons_zero, List.set_cons_succ]
          refine wpAnyH_take (i := 16) (oi := { dst := some 27, op := Op.move (Operand.tmp 3), type := 3, pos := "l10_model.go:39", after := _, guard := some (7, false) }) (v := ?_) rfl (by kernel_rfl) (by kernel_rfl) (by kernel_rfl) (fun _ _ _ h => h) (Or.inl ⟨by rfl, ?_⟩) (by assumption) ?_
          rotate_left
          · (intro w hSw; (try dsimp only at hSw); go_simp; (try with_reducible rfl))
          simp only [Act.put, List.setIfInBounds_toArray, List.set_cons_zero, List.set_cons_succ]
          refine wpAnyH_take (i := 17) (oi := { dst := some 28, op := Op.binOp BinOp.add 3 (Operand.tmp 26) (Operand.tmp 27) 3, type := 3, pos := "l10_model.go:39", after := _, guard := some (7, false) }) (v := ?_) rfl (by kernel_rfl) (by kernel_rfl) (by kernel_rfl) (fun _ _ _ h => h) (Or.inl ⟨by rfl, ?_⟩) (by assumption) ?_
          rotate_left
          · (intro w hSw; (try dsimp only at hSw); go_simp; (try with_reducible rfl))
          simp only [Act.put, List.setIfInBounds_toArray, List.set_cons_zero, List.set_cons_succ]
          refine wpAnyH_take (i := 18) (oi := { dst := some 29, op := Op.binOp BinOp.add 3 (Operand.tmp 28) (Operand.const (Value.int IntKind.i64 1)) 3, type := 3, pos := "l10_model.go:39", after := _, guard := some (7, false) }) (v := ?_) rfl (by kernel_rfl) (by kernel_rfl) (by kernel_rfl) (fun _ _ _ h => h) (Or.inl ⟨by rfl, ?_⟩) (by assumption) ?_
          rotate_left
          · (intro w hSw; (try dsimp only at hSw); go_simp; (try with_reducible rfl))
          simp only [Act.put, List.setIfInBounds_toArray, List.set_cons_zero, List.set_cons_succ]
          refine wpAnyH_take (i := 19) (oi := { dst := some 30, op := Op.binOp BinOp.neq 3 (Operand.tmp 24) (Operand.tmp 29) 3, type := 4, pos := "l10_model.go:39", after := _, guard := some (7, false) }) (v := ?_) rfl (by kernel_rfl) (by kernel_rfl) (by kernel_rfl) (fun _ _ _ h => h) (Or.inl ⟨by rfl, ?_⟩) (by assumption) ?_
          rotate_left
          · (intro w hSw; (try dsimp only at hSw); go_simp; (try with_reducible rfl))
          simp only [Act.put, List.setIfInBounds_toArray, List.set_cons_zero, List.set_cons_succ]
          refine wpAnyH_take (i := 20) (oi := { dst := some 31, op := Op.pick (Operand.tmp 18) (Operand.const (Value.bool true)) (Operand.tmp 30), type := 4, pos := "l10_model.go:39", after := _, guard := none }) (v := ?_) rfl (by kernel_rfl) (by kernel_rfl) (by kernel_rfl) (fun _ _ _ h => h) (Or.inl ⟨by rfl, ?_⟩) (by assumption) ?_
          rotate_left
          · (intro w hSw; (try dsimp only at hSw); go_simp; (try with_reducible rfl))
          simp only [Act.put, List.setIfInBounds_toArray, List.set_cons_zero, List.set_cons_succ]
          refine wpAnyH_done (by kernel_rfl) ?_ _
          go_wp2
          go_roundw
          case rel => exact ⟨k + 1, by omega, by go_num, HN.out, B3⟩
          case measure => simp [intOf]; omega
        · have HF := Lib.hid (pasts_no (rev := rev) (flo := flo) hlt (by rw [pastAt_eq hlt, hq, decide_eq_false he]; rfl))
          have n1 : (P[k].1 != flo + (k : Int) + 1) = true := by simpa using he
          have n2 : (P[k].1 == flo + (k : Int) + 1) = false := by simpa using he
          clear hq
          go_wp2_with fail
          refine wp_region_held_drew (S := fun W => W.cell? ⟨w.heap.size, 6, none⟩ = some (.slice (some ⟨bb, ob, none⟩) P.length c) ∧ W.cell? ⟨w.heap.size, 2, none⟩ = some (.int .i64 flo) ∧ W.cell? ⟨bb, ob + k * 4, none⟩ = some (.int .i64 P[k].1) ∧ W.cell? ⟨bb, ob + k * 4 + 1, none⟩ = some (.string P[k].2.1) ∧ W.cell? ⟨bb, ob + k * 4 + 2, none⟩ = some (.string P[k].2.2.1) ∧ W.cell? ⟨bb, ob + k * 4 + 3, none⟩ = some (.string P[k].2.2.2) ∧ Below w2.heap.size w2 W) (by kernel_rfl) (KS.out _ HB.out.drew) (fun hHeld => ?_)
          refine wpAnyH_take (i := 0) (oi := { dst := some 11, op := Op.fieldAddr 35 (Operand.tmp 1) 6, type := 0, pos := "l10_model.go:39", after := _, guard := none }) (v := ?_) rfl (by kernel_rfl) (by kernel_rfl) (by kernel_rfl) (fun _ _ _ h => h) (Or.inl ⟨by rfl, ?_⟩) (by assumption) ?_
          rotate_left
          · (intro w hSw; (try dsimp only at hSw); go_simp; (try with_reducible rfl))
          simp only [Act.put, List.setIfInBounds_toArray, List.set_cons_zero, List.set_cons_succ]
          refine wpAnyH_take (i := 1) (oi := { dst := some 12, op := Op.load 33 (Operand.tmp 11), type := 33, pos := "l10_model.go:39", after := _, guard := none }) (v := ?_) rfl (by kernel_rfl) (by kernel_rfl) (by kernel_rfl) (fun _ _ _ h => h) (Or.inl ⟨by rfl, ?_⟩) (by assumption) ?_
          rotate_left
          · (intro w hSw; (try dsimp only at hSw); go_simp; (try with_reducible rfl))
          simp only [Act.put, List.setIfInBounds_toArray, List.set_cons_zero, List.set_cons_succ]
          refine wpAnyH_take (i := 2) (oi := { dst := some 13, op := Op.move (Operand.tmp 3), type := 3, pos := "l10_model.go:39", after := _, guard := none }) (v := ?_) rfl (by kernel_rfl) (by kernel_rfl) (by kernel_rfl) (fun _ _ _ h => h) (Or.inl ⟨by rfl, ?_⟩) (by assumption) ?_
          rotate_left
          · (intro w hSw; (try dsimp only at hSw); go_simp; (try with_reducible rfl))
          simp only [Act.put, List.setIfInBounds_toArray, List.set_cons_zero, List.set_cons_succ]
          refine wpAnyH_take (i := 3) (oi := { dst := some 14, op := Op.indexAddr 33 (Operand.tmp 12) (Operand.tmp 13), type := 0, pos := "l10_model.go:39", after := _, guard := none }) (v := ?_) rfl (by kernel_rfl) (by kernel_rfl) (by kernel_rfl) (fun _ _ _ h => h) (Or.inl ⟨by rfl, ?_⟩) (by assumption) ?_
          rotate_left
          · (intro w hSw; (try dsimp only at hSw); go_simp; (try with_reducible rfl))
          simp only [Act.put, List.setIfInBounds_toArray, List.set_cons_zero, List.set_cons_succ]
          refine wpAnyH_take (i := 4) (oi := { dst := some 15, op := Op.load 80 (Operand.tmp 14), type := 80, pos := "l10_model.go:39", after := _, guard := none }) (v := ?_) rfl (by kernel_rfl) (by kernel_rfl) (by kernel_rfl) (fun _ _ _ h => h) (Or.inl ⟨by rfl, ?_⟩) (by assumption) ?_
          rotate_left
          · (intro w hSw; (try dsimp only at hSw); go_simp; (try with_reducible rfl))
          simp only [Act.put, List.setIfInBounds_toArray, List.set_cons_zero, List.set_cons_succ]
          refine wpAnyH_ready (rs := [5]) (by kernel_rfl) (by simp) ?_
          refine AllReadyH.cons (o := { dst := some 16, op := Op.call { callee := Callee.value (Operand.func 91), args := #[Operand.tmp 15], argTypes := #[80] }, type := 4, pos := "l10_model.go:39", after := _, guard := none }) rfl (fun K hK => ?_) AllReadyH.nil
          go_simp
          go_at_call 91
          refine (past_isP HQ.out HOK.out _).mono ?_
          rintro e w3 ⟨rfl, b3⟩
          have B3 : Below w2.heap.size w2 w3 := hHeld.2.2.2.2.2.2.trans (b3.mono hHeld.2.2.2.2.2.2.size)
          refine hK.out _ _ ?_ (fun hHeld => ?_)
          · exact KS.out _ B3
          clear hK K
          (try simp only [Act.put, List.setIfInBounds_toArray, List.set_cons_zero, List.set_cons_succ])
          refine wpAnyH_take (i := 6) (oi := { dst := some 17, op := Op.unOp UnOp.not 4 (Operand.tmp 16), type := 4, pos := "l10_model.go:39", after := _, guard := none }) (v := ?_) rfl (by kernel_rfl) (by kernel_rfl) (by kernel_rfl) (fun _ _ _ h => h) (Or.inl ⟨by rfl, ?_⟩) (by assumption) ?_
          rotate_left
          · (intro w hSw; (try dsimp only at hSw); go_simp; (try with_reducible rfl))
          simp only [Act.put, List.setIfInBounds_toArray, List.set_cons_zero, List.set_cons_succ]
          refine wpAnyH_take (i := 7) (oi := { dst := some 18, op := Op.move (Operand.tmp 17), type := 4, pos := "l10_model.go:39", after := _, guard := none }) (v := ?_) rfl (by kernel_rfl) (by kernel_rfl) (by kernel_rfl) (fun _ _ _ h => h) (Or.inl ⟨by rfl, ?_⟩) (by assumption) ?_
          rotate_left
          · (intro w hSw; (try dsimp only at hSw); go_simp; (try with_reducible rfl))
          simp only [Act.put, List.setIfInBounds_toArray, List.set_cons_zero, List.set_cons_succ]
          refine wpAnyH_take (i := 8) (oi := { dst := some 19, op := Op.fieldAddr 35 (Operand.tmp 1) 6, type := 0, pos := "l10_model.go:39", after := _, guard := some (7, false) }) (v := ?_) rfl (by kernel_rfl) (by kernel_rfl) (by kernel_rfl) (fun _ _ _ h => h) (Or.inl ⟨by rfl, ?_⟩) (by assumption) ?_
          rotate_left
          · (intro w hSw; (try dsimp only at hSw); go_simp; (try with_reducible rfl))
          simp only [Act.put, List.setIfInBounds_toArray, List.set_cons_zero, List.set_cons_succ]
          refine wpAnyH_take (i := 9) (oi := { dst := some 20, op := Op.load 33 (Operand.tmp 19), type := 33, pos := "l10_model.go:39", after := _, guard := some (7, false) }) (v := ?_) rfl (by kernel_rfl) (by kernel_rfl) (by kernel_rfl) (fun _ _ _ h => h) (Or.inl ⟨by rfl, ?_⟩) (by assumption) ?_
          rotate_left
          · (intro w hSw; (try dsimp only at hSw); go_simp; (try with_reducible rfl))
          simp only [Act.put, List.setIfInBounds_toArray, List.set_cons_zero, List.set_cons_succ]
          refine wpAnyH_take (i := 10) (oi := { dst := some 21, op := Op.move (Operand.tmp 3), type := 3, pos := "l10_model.go:39", after := _, guard := some (7, false) }) (v := ?_) rfl (by kernel_rfl) (by kernel_rfl) (by kernel_rfl) (fun _ _ _ h => h) (Or.inl ⟨by rfl, ?_⟩) (by assumption) ?_
          rotate_left
          · (intro w hSw; (try dsimp only at hSw); go_simp; (try with_reducible rfl))
          simp only [Act.put, List.setIfInBounds_toArray, List.set_cons_zero, List.set_cons_succ]
          refine wpAnyH_take (i := 11) (oi := { dst := some 22, op := Op.indexAddr 33 (Operand.tmp 20) (Operand.tmp 21), type := 0, pos := "l10_model.go:39", after := _, guard := some (7, false) }) (v := ?_) rfl (by kernel_rfl) (by kernel_rfl) (by kernel_rfl) (fun _ _ _ h => h) (Or.inl ⟨by rfl, ?_⟩) (by assumption) ?_
          rotate_left
          · (intro w hSw; (try dsimp only at hSw); go_simp; (try with_reducible rfl))
          simp only [Act.put, List.setIfInBounds_toArray, List.set_cons_zero, List.set_cons_succ]
          refine wpAnyH_take (i := 12) (oi := { dst := some 23, op := Op.fieldAddr 80 (Operand.tmp 22) 0, type := 0, pos := "l10_model.go:39", after := _, guard := some (7, false) }) (v := ?_) rfl (by kernel_rfl) (by kernel_rfl) (by kernel_rfl) (fun _ _ _ h => h) (Or.inl ⟨by rfl, ?_⟩) (by assumption) ?_
          rotate_left
          · (intro w hSw; (try dsimp only at hSw); go_simp; (try with_reducible rfl))
          simp only [Act.put, List.setIfInBounds_toArray, List.set_cons_zero, List.set_cons_succ]
          refine wpAnyH_take (i := 13) (oi := { dst := some 24, op := Op.load 3 (Operand.tmp 23), type := 3, pos := "l10_model.go:39", after := _, guard := some (7, false) }) (v := ?_) rfl (by kernel_rfl) (by kernel_rfl) (by kernel_rfl) (fun _ _ _ h => h) (Or.inl ⟨by rfl, ?_⟩) (by assumption) ?_
          rotate_left
          · (intro w hSw; (try dsimp only at hSw); go_simp; (try with_reducible rfl))
          simp only [Act.put, List.setIfInBounds_toArray, List.set_cons_zero, List.set_cons_succ]
          refine wpAnyH_take (i := 14) (oi := { dst := some 25, op := Op.fieldAddr 35 (Operand.tmp 1) 2, type := 0, pos := "l10_model.go:39", after := _, guard := some (7, false) }) (v := ?_) rfl (by kernel_rfl) (by kernel_rfl) (by kernel_rfl) (fun _ _ _ h => h) (Or.inl ⟨by rfl, ?_⟩) (by assumption) ?_
          rotate_left
          · (intro w hSw; (try dsimp only at hSw); go_simp; (try with_reducible rfl))
          simp only [Act.put, List.setIfInBounds_toArray, List.set_cons_zero, List.set_cons_succ]
          refine wpAnyH_take (i := 15) (oi := { dst := some 26, op := Op.load 3 (Operand.tmp 25), type := 3, pos := "l10_model.go:39", after := _, guard := some (7, false) }) (v := ?_) rfl (by kernel_rfl) (by kernel_rfl) (by kernel_rfl) (fun _ _ _ h => h) (Or.inl ⟨by rfl, ?_⟩) (by assumption) ?_
          rotate_left
          · (intro w hSw; (try dsimp only at hSw); go_simp; (try with_reducible rfl))
          simp only [Act.put, List.setIfInBounds_toArray, List.set_cons_zero, List.set_cons_succ]
          refine wpAnyH_take (i := 16) (oi := { dst := some 27, op := Op.move (Operand.tmp 3), type := 3, pos := "l10_model.go:39", after := _, guard := some (7, false) }) (v := ?_) rfl (by kernel_rfl) (by kernel_rfl) (by kernel_rfl) (fun _ _ _ h => h) (Or.inl ⟨by rfl, ?_⟩) (by assumption) ?_
          rotate_left
          · (intro w hSw; (try dsimp only at hSw); go_simp; (try with_reducible rfl))
          simp only [Act.put, List.setIfInBounds_toArray, List.set_cons_zero, List.set_cons_succ]
          refine wpAnyH_take (i := 17) (oi := { dst := some 28, op := Op.binOp BinOp.add 3 (Operand.tmp 26) (Operand.tmp 27) 3, type := 3, pos := "l10_model.go:39", after := _, guard := some (7, false) }) (v := ?_) rfl (by kernel_rfl) (by kernel_rfl) (by kernel_rfl) (fun _ _ _ h => h) (Or.inl ⟨by rfl, ?_⟩) (by assumption) ?_
          rotate_left
          · (intro w hSw; (try dsimp only at hSw); go_simp; (try with_reducible rfl))
          simp only [Act.put, List.setIfInBounds_toArray, List.set_cons_zero, List.set_cons_succ]
          refine wpAnyH_take (i := 18) (oi := { dst := some 29, op := Op.binOp BinOp.add 3 (Operand.tmp 28) (Operand.const (Value.int IntKind.i64 1)) 3, type := 3, pos := "l10_model.go:39", after := _, guard := some (7, false) }) (v := ?_) rfl (by kernel_rfl) (by kernel_rfl) (by kernel_rfl) (fun _ _ _ h => h) (Or.inl ⟨by rfl, ?_⟩) (by assumption) ?_
          rotate_left
          · (intro w hSw; (try dsimp only at hSw); go_simp; (try with_reducible rfl))
          simp only [Act.put, List.setIfInBounds_toArray, List.set_cons_zero, List.set_cons_succ]
          refine wpAnyH_take (i := 19) (oi := { dst := some 30, op := Op.binOp BinOp.neq 3 (Operand.tmp 24) (Operand.tmp 29) 3, type := 4, pos := "l10_model.go:39", after := _, guard := some (7, false) }) (v := ?_) rfl (by kernel_rfl) (by kernel_rfl) (by kernel_rfl) (fun _ _ _ h => h) (Or.inl ⟨by rfl, ?_⟩) (by assumption) ?_
          rotate_left
          · (intro w hSw; (try dsimp only at hSw); go_simp; (try with_reducible rfl))
          simp only [Act.put, List.setIfInBounds_toArray, List.set_cons_zero, List.set_cons_succ]
          refine wpAnyH_take (i := 20) (oi := { dst := some 31, op := Op.pick (Operand.tmp 18) (Operand.const (Value.bool true)) (Operand.tmp 30), type := 4, pos := "l10_model.go:39", after := _, guard := none }) (v := ?_) rfl (by kernel_rfl) (by kernel_rfl) (by kernel_rfl) (fun _ _ _ h => h) (Or.inl ⟨by rfl, ?_⟩) (by assumption) ?_
          rotate_left
          · (intro w hSw; (try dsimp only at hSw); go_simp; (try with_reducible rfl))
          simp only [Act.put, List.setIfInBounds_toArray, List.set_cons_zero, List.set_cons_succ]
          refine wpAnyH_done (by kernel_rfl) ?_ _
          go_wp2
          go_ret
          exact ⟨ret_bool (by rw [HF.out]), B2.out.trans (B3.mono (by omega))⟩
    · have HF := Lib.hid (pasts_all (rev := rev) (flo := flo) (k := k) (by omega) HT.out)
      clear hbel
      by_cases h1 : flo + (P.length : Int) = rev
      · go_wp2
        go_ret
        exact ⟨ret_bool (by rw [HF.out, decide_eq_true h1]; simp; omega), B2.out.trans (HB.out.mono (by omega))⟩
      · go_wp2
        go_ret
        exact ⟨ret_bool (by rw [HF.out, decide_eq_false h1]; simp), B2.out.trans (HB.out.mono (by omega))⟩
end Go.Proofs.YtbioljpjpflboaaGreatDoor
