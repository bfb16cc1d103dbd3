import Derived.Test.YtlaehhdbagiciaaDrawKey
import Derived.WalkLawsBesides
import Derived.BigQuiet
/- The walk of FnThingKey. -/
namespace Go.Proofs.Ytlaehhdbagiciaa
open Go Go.RowKit

theorem split_at {α : Type} {m : α} : ∀ {a c : List α} {b d : List α}, m ∉ a → m ∉ c → a ++ m :: b = c ++ m :: d → a = c ∧ b = d
  | [], [], _, _, _, _, h => ⟨rfl, by simpa using h⟩
  | [], y :: c, _, _, _, hc, h => by simp at h; exact absurd (by rw [h.1]; exact List.mem_cons_self) hc
  | x :: a, [], _, _, ha, _, h => by simp at h; exact absurd (by rw [← h.1]; exact List.mem_cons_self) ha
  | x :: a, y :: c, b, d, ha, hc, h => by
    simp only [List.cons_append, List.cons.injEq] at h
    obtain ⟨rfl, h⟩ := h
    obtain ⟨rfl, h2⟩ := split_at (fun e => ha (List.mem_cons_of_mem _ e)) (fun e => hc (List.mem_cons_of_mem _ e)) h
    exact ⟨rfl, h2⟩
theorem name_dot {a : ByteArray} (h : nameB a.data.toList = true) : (46 : UInt8) ∉ a.data.toList := by
  intro hm
  unfold nameB at h
  rw [Bool.and_eq_true] at h
  have := List.all_eq_true.1 h.1 46 hm
  revert this
  decide
theorem keyB_ne {a b : ByteArray} (h : nameB a.data.toList = true) (k : nameB b.data.toList = true) : keyB a b ≠ ⟨#[]⟩ := by
  rw [keyB_yes h k]
  intro e
  have := congrArg ByteArray.size e
  simp [ByteArray.size_append] at this
  have h2 : (⟨#[116, 46]⟩ : ByteArray).size = 2 := rfl
  have h3 : (⟨#[]⟩ : ByteArray).size = 0 := rfl
  omega
theorem keyB_inj {a b c d : ByteArray} (h : keyB a b = keyB c d) (hn : keyB a b ≠ ⟨#[]⟩) : a = c ∧ b = d := by
  cases ha : nameB a.data.toList with
  | false => exact absurd (keyB_no1 ha) hn
  | true =>
    cases hb : nameB b.data.toList with
    | false => exact absurd (keyB_no2 hb) hn
    | true =>
      cases hc : nameB c.data.toList with
      | false => exact absurd (h.trans (keyB_no1 hc)) hn
      | true =>
        cases hd : nameB d.data.toList with
        | false => exact absurd (h.trans (keyB_no2 hd)) hn
        | true =>
          rw [keyB_yes ha hb, keyB_yes hc hd] at h
          have h1 := congrArg (fun x : ByteArray => x.data.toList) h
          simp at h1
          obtain ⟨e1, e2⟩ := split_at (m := (46 : UInt8)) (name_dot ha) (name_dot hc) (by simpa using h1)
          exact ⟨by cases a; cases c; simpa [Array.toList_inj] using e1, by cases b; cases d; simpa [Array.toList_inj] using e2⟩
theorem implKey_is {a b : ByteArray} (ha : a.size ≤ 24) (hb : b.size ≤ 24) {X : ByteArray} (h : keyB a b = X) (w : World) : Calls Try.prog 20 #[.string a, .string b] w fun e w' => e = .returned (.string X) ∧ w = w' := by
  subst h
  exact implThingKey_any a b (by unfold maxLen; omega) (by unfold maxLen; omega) w
theorem specKey_is {a b : ByteArray} (ha : a.size ≤ 24) (hb : b.size ≤ 24) {X : ByteArray} (h : keyB a b = X) (w : World) : Calls Try.prog 19 #[.string a, .string b] w fun e w' => e = .returned (.string X) ∧ w = w' := by
  subst h
  exact specThingKey_any a b (by unfold maxLen; omega) (by unfold maxLen; omega) w
theorem implNm_is {a : ByteArray} (ha : a.size ≤ 24) {q : Bool} (h : nameB a.data.toList = q) (w : World) : Calls Try.prog 24 #[.string a] w fun e w' => e = .returned (.bool q) ∧ w = w' := by
  subst h
  exact impl_name a w (by unfold maxLen; omega)
theorem key_no {x y : ByteArray} (h : x ≠ y) : (x.toList == y.toList) = false := by
  rw [beq_eq_false_iff_ne]
  intro e
  rw [ByteArray.toList_eq, ByteArray.toList_eq] at e
  exact h (by cases x; cases y; simpa [Array.toList_inj] using e)
theorem key_em {x : ByteArray} (h : x ≠ ⟨#[]⟩) : x.toList.isEmpty = false := by
  rw [List.isEmpty_eq_false_iff]
  intro e
  rw [ByteArray.toList_eq] at e
  exact h (by cases x; simpa using e)

set_option maxRecDepth 100000 in
set_option maxHeartbeats 2000000 in
theorem fnThingKeyWalk (a : Option Addr) (c : Nat) (l : List UInt8) {w : World} (hl : l.length ≤ c) (hc : c ≤ maxLen) (h : BytesS w a l) (a' : Option Addr) (c' : Nat) (l' : List UInt8) (hl' : l'.length ≤ c') (hc' : c' ≤ maxLen) (h' : BytesS w a' l') :
    Calls Try.prog 7 #[.slice a l.length c, .slice a' l'.length c'] w fun e w' => e = .returned (.bool true) ∧ Below w.heap.size w w' := by
  have hcl := hc
  have hcl' := hc'
  unfold maxLen at hcl hcl'
  by_cases hb : (1048576 : Int) < (l.length : Int)
  · go_enter Try.func7, Try.ntmps7
    go_wp2
    go_ret
    exact ⟨rfl, Below.refl _ _⟩
  have hb1 : (l.length : Int) ≤ 1048576 := by omega
  clear hb
  by_cases hb : (1048576 : Int) < (l'.length : Int)
  · go_enter Try.func7, Try.ntmps7
    go_wp2
    go_ret
    exact ⟨rfl, Below.refl _ _⟩
  have hb2 : (l'.length : Int) ≤ 1048576 := by omega
  clear hb
  have HY := Lib.hid h'
  clear h'
  go_enter Try.func7, Try.ntmps7
  go_wp2_with fail
  refine (drawThingKey_any a c l _ hl hc h).mono ?_
  rintro e w1 ⟨x, y, hx, hy, rfl, b1⟩
  go_wp2_with fail
  refine (drawThingKey_any a' c' l' _ hl' hc' (bytes_below b1 HY.out)).mono ?_
  rintro e w2 ⟨z, u, hz, hu, rfl, b2⟩
  have B2 := Lib.hid (b1.trans (b2.mono b1.size))
  clear b1 b2
  obtain ⟨X, hX⟩ : ∃ X, keyB x y = X := ⟨_, rfl⟩
  obtain ⟨Y, hY⟩ : ∃ Y, keyB z u = Y := ⟨_, rfl⟩
  have HX := Lib.hid hX
  have HYK := Lib.hid hY
  obtain ⟨p, hp⟩ : ∃ p, nameB x.data.toList = p := ⟨_, rfl⟩
  obtain ⟨q, hq⟩ : ∃ q, nameB y.data.toList = q := ⟨_, rfl⟩
  have HP := Lib.hid hp
  have HQ := Lib.hid hq
  have HIN := Lib.hid (show X = Y → X ≠ ⟨#[]⟩ → x = z ∧ y = u from fun e hn => keyB_inj (hX.trans (e.trans hY.symm)) (by rw [hX]; exact hn))
  have HN1 := Lib.hid (show p = false → X = ⟨#[]⟩ from fun e => by rw [← hX]; exact keyB_no1 (hp.trans e))
  have HN2 := Lib.hid (show q = false → X = ⟨#[]⟩ from fun e => by rw [← hX]; exact keyB_no2 (hq.trans e))
  have HN3 := Lib.hid (show p = true → q = true → X ≠ ⟨#[]⟩ from fun e k => by rw [← hX]; exact keyB_ne (hp.trans e) (hq.trans k))
  clear hX hY hp hq
  go_wp2_with fail
  refine (implKey_is hx hy HX.out _).mono ?_
  rintro e w3 ⟨rfl, rfl⟩
  go_wp2_with fail
  refine (implKey_is hz hu HYK.out _).mono ?_
  rintro e w3 ⟨rfl, rfl⟩
  go_wp2_with fail
  refine (specKey_is hx hy HX.out _).mono ?_
  rintro e w3 ⟨rfl, rfl⟩
  cases p with
  | false =>
    obtain rfl := HN1.out rfl
    go_wp2_with fail
    refine (implNm_is hx HP.out _).mono ?_
    rintro e w3 ⟨rfl, rfl⟩
    by_cases hY : Y = ⟨#[]⟩
    · subst hY
      go_wp2_with fail
      go_ret
      exact ⟨rfl, B2.out⟩
    · have y1 := key_em hY
      have y2 := key_no hY
      have y3 := key_no (fun e => hY e.symm)
      have y4 : ¬ Y.toList = [] := List.isEmpty_eq_false_iff.1 y1
      go_wp2_with fail
      go_ret
      exact ⟨rfl, B2.out⟩
  | true =>
    cases q with
    | false =>
      obtain rfl := HN2.out rfl
      go_wp2_with fail
      refine (implNm_is hx HP.out _).mono ?_
      rintro e w3 ⟨rfl, rfl⟩
      go_wp2_with fail
      refine (implNm_is hy HQ.out _).mono ?_
      rintro e w3 ⟨rfl, rfl⟩
      by_cases hY : Y = ⟨#[]⟩
      · subst hY
        go_wp2_with fail
        go_ret
        exact ⟨rfl, B2.out⟩
      · have y1 := key_em hY
        have y2 := key_no hY
        have y3 := key_no (fun e => hY e.symm)
        have y4 : ¬ Y.toList = [] := List.isEmpty_eq_false_iff.1 y1
        go_wp2_with fail
        go_ret
        exact ⟨rfl, B2.out⟩
    | true =>
      have hXn := HN3.out rfl rfl
      have x1 := key_em hXn
      have x4 : ¬ X.toList = [] := List.isEmpty_eq_false_iff.1 x1
      go_wp2_with fail
      refine (implNm_is hx HP.out _).mono ?_
      rintro e w3 ⟨rfl, rfl⟩
      go_wp2_with fail
      refine (implNm_is hy HQ.out _).mono ?_
      rintro e w3 ⟨rfl, rfl⟩
      by_cases hXY : X = Y
      · obtain ⟨rfl, rfl⟩ := HIN.out hXY hXn
        subst hXY
        go_wp2_with fail
        go_ret
        exact ⟨rfl, B2.out⟩
      · have y2 := key_no hXY
        have y3 := key_no (fun e => hXY e.symm)
        go_wp2_with fail
        go_ret
        exact ⟨rfl, B2.out⟩
end Go.Proofs.Ytlaehhdbagiciaa
