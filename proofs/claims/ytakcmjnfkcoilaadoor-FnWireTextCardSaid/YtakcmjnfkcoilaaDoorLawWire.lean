import Derived.Test.YtakcmjnfkcoilaaDoorDrawWire
import Derived.Test.YtakcmjnfkcoilaaDoorWireP
import Derived.Test.YtakcmjnfkcoilaaDoorWire
import Derived.Test.YtakcmjnfkcoilaaDoorWirePutI
import Derived.Test.YtakcmjnfkcoilaaDoorWmW
import Derived.WalkLawsBesides
/- The walk of FnWireText. -/
namespace Go.Proofs.YtakcmjnfkcoilaaDoor
open Go Go.RowKit

theorem words_len : ∀ (l : List ByteArray), sumSize l + l.length ≤ (l.flatMap wordL).length
  | [] => by simp [sumSize]
  | x :: l => by
    have ih := words_len l
    have e : sumSize (x :: l) = x.size + sumSize l := by simp [sumSize]
    have e2 : (wordL x).length = (decL x.size).length + 1 + x.size + 1 := by
      unfold wordL
      simp only [List.length_append, List.length_cons, List.length_nil]
      show _ + (x.size + 1 + 1) = _
      omega
    rw [e, List.flatMap_cons, List.length_append, List.length_cons, e2]
    omega
theorem size_le_sum {x : ByteArray} : ∀ {l : List ByteArray}, x ∈ l → x.size ≤ sumSize l
  | y :: l, h => by
    have e : sumSize (y :: l) = y.size + sumSize l := by simp [sumSize]
    rcases List.mem_cons.1 h with rfl | h
    · omega
    · have := size_le_sum h
      omega
theorem wire_bound (s : ByteArray) : (wireGet s).1.length ≤ 2000 ∧ sumSize (wireGet s).1 ≤ 2000 ∧ ∀ x ∈ (wireGet s).1, x.size ≤ maxLen := by
  unfold wireGet
  by_cases hz : s.size ≤ 2000
  · rw [if_pos hz]
    cases hw : wires s with
    | none => exact ⟨by simp [wireOf], by simp [wireOf, sumSize], by simp [wireOf]⟩
    | some l =>
      have h1 := wires_back s.size s l (Nat.le_refl _) hw
      have h2 := words_len l
      rw [h1] at h2
      have h3 : s.data.toList.length = s.size := rfl
      show l.length ≤ 2000 ∧ sumSize l ≤ 2000 ∧ ∀ x ∈ l, x.size ≤ maxLen
      exact ⟨by omega, by omega, fun x hx => by have := size_le_sum hx; unfold maxLen; omega⟩
  · rw [if_neg hz]
    exact ⟨by simp, by simp [sumSize], by simp⟩
theorem putN_small (D : List ByteArray) : (putB D).size ≤ 2000 := by
  unfold putB
  split
  · assumption
  · exact (by decide : (0 : Nat) ≤ 2000)
theorem implPut_is {b : Option Addr} {cb m : Nat} {l : List ByteArray} {t : ByteArray} (ht : putB l = t) (hm : l.length = m) (hl : m ≤ 1048576) (hs : sumSize l ≤ 1048576) (w : World) (h : StrS w b l) (hT : Lib.TabIs Tryd.prog w "internal/strconv.uint64pow10" .u64 Lib.pow10Tab) :
    Calls Tryd.prog 17 #[.slice b m cb] w fun e w' => e = .returned (.string t) ∧ Below w.heap.size w w' := by
  subst ht hm
  exact implWirePut_any b cb l w hl hs h hT
theorem specPut_is {b : Option Addr} {cb m : Nat} {l : List ByteArray} {t : ByteArray} (ht : putB l = t) (hm : l.length = m) (hl : m ≤ 1048576) (hs : sumSize l ≤ 1048576) (w : World) (h : StrS w b l) :
    Calls Tryd.prog 19 #[.slice b m cb] w fun e w' => e = .returned (.string t) ∧ Below w.heap.size w w' := by
  subst ht hm
  exact specWirePut_any b cb l w hl hs h
theorem em_of {x : ByteArray} (h : x ≠ ⟨#[]⟩) : x.toList.isEmpty = false ∧ ¬ x.toList = [] := by
  have h1 : ¬ x.toList = [] := fun e => by
    rw [ByteArray.toList_eq] at e
    exact h (by cases x; simpa using e)
  exact ⟨List.isEmpty_eq_false_iff.2 h1, h1⟩
theorem get_empty : wireGet ⟨#[]⟩ = ([], true) := by
  unfold wireGet
  rw [if_pos (by decide), wires_nil rfl]
  rfl
theorem implGetW {s : ByteArray} {l : List ByteArray} {b : Bool} (h : wireGet s = (l, b)) (w : World) (hs : s.size ≤ maxLen) : Calls Tryd.prog 15 #[.string s] w (WirePost w l b) := by
  have := implWire_any s w hs
  rwa [h] at this
theorem specGetW {s : ByteArray} {l : List ByteArray} {b : Bool} (h : wireGet s = (l, b)) (w : World) (hs : s.size ≤ maxLen) : Calls Tryd.prog 16 #[.string s] w (WirePost w l b) := by
  have := specWire_any s w hs
  rwa [h] at this
set_option maxRecDepth 100000 in
set_option maxHeartbeats 4000000 in
theorem fnWireTextWalk (a : Option Addr) (c : Nat) (l : List UInt8) (hl : l.length ≤ c) (hc : c ≤ maxLen) {w : World} (h : BytesS w a l) (a' : Option Addr) (c' : Nat) (l' : List UInt8) (hl' : l'.length ≤ c') (hc' : c' ≤ maxLen) (h' : BytesS w a' l') (hTab : Lib.TabIs Tryd.prog w "internal/strconv.uint64pow10" .u64 Lib.pow10Tab) :
    Calls Tryd.prog 5 #[.slice a l.length c, .slice a' l'.length c'] w fun e w' => e = .returned (.bool true) ∧ Below w.heap.size w w' := by
  have hcl := hc
  have hcl' := hc'
  unfold maxLen at hcl hcl'
  have HT := Lib.hid hTab
  clear hTab
  by_cases hb : (1048576 : Int) < (l.length : Int)
  · go_enter Tryd.func5, Tryd.ntmps5
    go_wp2
    go_ret
    exact ⟨rfl, Below.refl _ _⟩
  have hb1 : (l.length : Int) ≤ 1048576 := by omega
  clear hb
  by_cases hb : (1048576 : Int) < (l'.length : Int)
  · go_enter Tryd.func5, Tryd.ntmps5
    go_wp2
    go_ret
    exact ⟨rfl, Below.refl _ _⟩
  have hb2 : (l'.length : Int) ≤ 1048576 := by omega
  clear hb
  have HY := Lib.hid h'
  clear h'
  go_enter Tryd.func5, Tryd.ntmps5
  go_wp2_with fail
  refine (drawWireGet_any a c l _ hl hc h).mono ?_
  rintro e w1 ⟨s, rfl, hs, b1⟩
  have z1 := b1.size
  have B1 := Lib.hid b1
  clear b1
  have hsm : s.size ≤ maxLen := by unfold maxLen; omega
  obtain ⟨hn1, hn2, hn3⟩ := wire_bound s
  obtain ⟨L, hL⟩ : ∃ L, (wireGet s).1 = L := ⟨_, rfl⟩
  obtain ⟨q, hq⟩ : ∃ q, (wireGet s).2 = q := ⟨_, rfl⟩
  have HG := Lib.hid (show wireGet s = (L, q) from Prod.ext hL hq)
  have HP := Lib.hid (show q = true → putB L = s from fun e => by rw [← hL]; exact get_put (hq.trans e))
  rw [hL] at hn1 hn2 hn3
  have HOK := Lib.hid hn3
  clear hL hq hn3
  go_wp2_with fail
  refine (implGetW HG.out _ hsm).mono ?_
  rintro e w2 ⟨v2, rfl, o2, b2⟩
  obtain ⟨a2, c2, rfl⟩ := own_shape o2
  have z2 := b2.size
  have S2 := Lib.hid (own_str (by unfold maxLen; omega) HOK.out o2)
  have B2 := Lib.hid (B1.out.trans (b2.mono z1))
  clear o2 b2 B1
  go_wp2_with fail
  refine (specGetW HG.out _ hsm).mono ?_
  rintro e w3 ⟨v3, rfl, o3, b3⟩
  obtain ⟨a3, c3, rfl⟩ := own_shape o3
  have z3 := b3.size
  have S3 := Lib.hid (own_str (by unfold maxLen; omega) HOK.out o3)
  have T3 := Lib.hid (S2.out.below b3)
  have B3 := Lib.hid (B2.out.trans (b3.mono (by omega)))
  clear o3 b3 S2 B2
  have hqq : (q == q) = true := by simp
  go_wp2_with fail
  refine (wmWords_w _ _ _ _ L _ T3.out S3.out).mono ?_
  rintro e w4 ⟨rfl, b4⟩
  have z4 := b4.size
  have T4 := Lib.hid (T3.out.below b4)
  have B4 := Lib.hid (B3.out.trans (b4.mono (by omega)))
  clear b4 S3 T3 B3 hqq
  cases q with
  | true =>
    go_wp2_with fail
    refine (implPut_is (show putB L = s from by first | exact HP.out rfl | exact HP.out trivial) rfl (by omega) (by omega) _ T4.out (tab_below HT.out B4.out)).mono ?_
    rintro e w5 ⟨rfl, b5⟩
    have z5 := b5.size
    have B5 := Lib.hid (B4.out.trans (b5.mono (by omega)))
    have hss : (s.toList == s.toList) = true := by simp
    clear b5 T4 B4
    go_wp2_with fail
    refine (drawWirePut_any a' c' l' _ hl' hc' (bytes_below B5.out HY.out)).mono ?_
    rintro e w6 ⟨v6, D, rfl, o6, hD, hDn, b6⟩
    obtain ⟨a6, c6, rfl⟩ := own_shape o6
    have z6 := b6.size
    have hDok : ∀ x ∈ D, x.size ≤ maxLen := fun x hx => by have := hD x hx; unfold maxLen; omega
    have HDOK := Lib.hid hDok
    have hsum := sumSize_maxW D hD
    have h12 : D.length * 2000 ≤ 12000 := by omega
    have S6 := Lib.hid (own_str (by unfold maxLen; omega) hDok o6)
    have B6 := Lib.hid (B5.out.trans (b6.mono (by omega)))
    obtain ⟨t, ht⟩ : ∃ t, putB D = t := ⟨_, rfl⟩
    have HPD := Lib.hid ht
    have HPG := Lib.hid (show (t = ⟨#[]⟩ ∧ 0 < D.length) ∨ wireGet t = (D, true) by rw [← ht]; exact put_get (fun x hx => by have := hD x hx; omega))
    have ht2 : t.size ≤ 2000 := by rw [← ht]; exact putN_small D
    have htm : t.size ≤ maxLen := by unfold maxLen; omega
    clear o6 b6 hD hDok ht
    go_wp2_with fail
    refine (implPut_is HPD.out rfl (by omega) (by omega) _ S6.out (tab_below HT.out B6.out)).mono ?_
    rintro e w7 ⟨rfl, b7⟩
    have z7 := b7.size
    have S7 := Lib.hid (S6.out.below b7)
    have B7 := Lib.hid (B6.out.trans (b7.mono (by omega)))
    clear b7 S6
    have hbt := wire_bound t
    obtain ⟨R, hR⟩ : ∃ R, (wireGet t).1 = R := ⟨_, rfl⟩
    obtain ⟨f, hf⟩ : ∃ f, (wireGet t).2 = f := ⟨_, rfl⟩
    have HGT := Lib.hid (show wireGet t = (R, f) from Prod.ext hR hf)
    rw [hR] at hbt
    obtain ⟨r1, r2, r3⟩ := hbt
    have HR3 := Lib.hid r3
    clear hR hf r3
    go_wp2_with fail
    refine (implGetW HGT.out _ htm).mono ?_
    rintro e w8 ⟨v8, rfl, o8, b8⟩
    obtain ⟨a8, c8, rfl⟩ := own_shape o8
    have z8 := b8.size
    have R8 := Lib.hid (own_str (by unfold maxLen; omega) HR3.out o8)
    have S8 := Lib.hid (S7.out.below b8)
    have B8 := Lib.hid (B7.out.trans (b8.mono (by omega)))
    clear o8 b8 S7
    go_wp2_with fail
    refine (specPut_is HPD.out rfl (by omega) (by omega) _ S8.out).mono ?_
    rintro e w9 ⟨rfl, b9⟩
    have z9 := b9.size
    have R9 := Lib.hid (R8.out.below b9)
    have S9 := Lib.hid (S8.out.below b9)
    have B9 := Lib.hid (B8.out.trans (b9.mono (by omega)))
    clear b9 R8 S8
    have htt : (t.toList == t.toList) = true := by simp
    by_cases he : t = ⟨#[]⟩
    · subst he
      have hg := get_empty.symm.trans HGT.out
      obtain ⟨rfl, rfl⟩ : [] = R ∧ true = f := by simpa using hg
      by_cases hd : 0 < D.length
      · have hdi : (0 : Int) < (D.length : Int) := by omega
        have hdb : decide ((0 : Int) < (D.length : Int)) = true := decide_eq_true hdi
        go_wp2
        all_goals (go_ret; exact ⟨rfl, B9.out⟩)
      · have hd0 : D.length = 0 := by omega
        obtain rfl := List.eq_nil_of_length_eq_zero hd0
        go_wp2_with fail
        refine (wmWords_w _ _ _ _ [] _ R9.out S9.out).mono ?_
        rintro e w10 ⟨rfl, b10⟩
        go_wp2
        go_ret
        exact ⟨rfl, B9.out.trans (b10.mono (by omega))⟩
    · have hg : wireGet t = (D, true) := HPG.out.resolve_left (fun q => he q.1)
      have hg2 := hg.symm.trans HGT.out
      obtain ⟨rfl, rfl⟩ : D = R ∧ true = f := by simpa using hg2
      obtain ⟨m1, m2⟩ := em_of he
      clear hg hg2 he
      go_wp2_with fail
      refine (wmWords_w _ _ _ _ D _ R9.out S9.out).mono ?_
      rintro e w10 ⟨rfl, b10⟩
      go_wp2
      go_ret
      exact ⟨rfl, B9.out.trans (b10.mono (by omega))⟩
  | false =>
    have z5 := z4
    have B5 := B4
    clear T4 B4
    go_wp2_with fail
    refine (drawWirePut_any a' c' l' _ hl' hc' (bytes_below B5.out HY.out)).mono ?_
    rintro e w6 ⟨v6, D, rfl, o6, hD, hDn, b6⟩
    obtain ⟨a6, c6, rfl⟩ := own_shape o6
    have z6 := b6.size
    have hDok : ∀ x ∈ D, x.size ≤ maxLen := fun x hx => by have := hD x hx; unfold maxLen; omega
    have HDOK := Lib.hid hDok
    have hsum := sumSize_maxW D hD
    have h12 : D.length * 2000 ≤ 12000 := by omega
    have S6 := Lib.hid (own_str (by unfold maxLen; omega) hDok o6)
    have B6 := Lib.hid (B5.out.trans (b6.mono (by omega)))
    obtain ⟨t, ht⟩ : ∃ t, putB D = t := ⟨_, rfl⟩
    have HPD := Lib.hid ht
    have HPG := Lib.hid (show (t = ⟨#[]⟩ ∧ 0 < D.length) ∨ wireGet t = (D, true) by rw [← ht]; exact put_get (fun x hx => by have := hD x hx; omega))
    have ht2 : t.size ≤ 2000 := by rw [← ht]; exact putN_small D
    have htm : t.size ≤ maxLen := by unfold maxLen; omega
    clear o6 b6 hD hDok ht
    go_wp2_with fail
    refine (implPut_is HPD.out rfl (by omega) (by omega) _ S6.out (tab_below HT.out B6.out)).mono ?_
    rintro e w7 ⟨rfl, b7⟩
    have z7 := b7.size
    have S7 := Lib.hid (S6.out.below b7)
    have B7 := Lib.hid (B6.out.trans (b7.mono (by omega)))
    clear b7 S6
    have hbt := wire_bound t
    obtain ⟨R, hR⟩ : ∃ R, (wireGet t).1 = R := ⟨_, rfl⟩
    obtain ⟨f, hf⟩ : ∃ f, (wireGet t).2 = f := ⟨_, rfl⟩
    have HGT := Lib.hid (show wireGet t = (R, f) from Prod.ext hR hf)
    rw [hR] at hbt
    obtain ⟨r1, r2, r3⟩ := hbt
    have HR3 := Lib.hid r3
    clear hR hf r3
    go_wp2_with fail
    refine (implGetW HGT.out _ htm).mono ?_
    rintro e w8 ⟨v8, rfl, o8, b8⟩
    obtain ⟨a8, c8, rfl⟩ := own_shape o8
    have z8 := b8.size
    have R8 := Lib.hid (own_str (by unfold maxLen; omega) HR3.out o8)
    have S8 := Lib.hid (S7.out.below b8)
    have B8 := Lib.hid (B7.out.trans (b8.mono (by omega)))
    clear o8 b8 S7
    go_wp2_with fail
    refine (specPut_is HPD.out rfl (by omega) (by omega) _ S8.out).mono ?_
    rintro e w9 ⟨rfl, b9⟩
    have z9 := b9.size
    have R9 := Lib.hid (R8.out.below b9)
    have S9 := Lib.hid (S8.out.below b9)
    have B9 := Lib.hid (B8.out.trans (b9.mono (by omega)))
    clear b9 R8 S8
    have htt : (t.toList == t.toList) = true := by simp
    by_cases he : t = ⟨#[]⟩
    · subst he
      have hg := get_empty.symm.trans HGT.out
      obtain ⟨rfl, rfl⟩ : [] = R ∧ true = f := by simpa using hg
      by_cases hd : 0 < D.length
      · have hdi : (0 : Int) < (D.length : Int) := by omega
        have hdb : decide ((0 : Int) < (D.length : Int)) = true := decide_eq_true hdi
        go_wp2
        all_goals (go_ret; exact ⟨rfl, B9.out⟩)
      · have hd0 : D.length = 0 := by omega
        obtain rfl := List.eq_nil_of_length_eq_zero hd0
        go_wp2_with fail
        refine (wmWords_w _ _ _ _ [] _ R9.out S9.out).mono ?_
        rintro e w10 ⟨rfl, b10⟩
        go_wp2
        go_ret
        exact ⟨rfl, B9.out.trans (b10.mono (by omega))⟩
    · have hg : wireGet t = (D, true) := HPG.out.resolve_left (fun q => he q.1)
      have hg2 := hg.symm.trans HGT.out
      obtain ⟨rfl, rfl⟩ : D = R ∧ true = f := by simpa using hg2
      obtain ⟨m1, m2⟩ := em_of he
      clear hg hg2 he
      go_wp2_with fail
      refine (wmWords_w _ _ _ _ D _ R9.out S9.out).mono ?_
      rintro e w10 ⟨rfl, b10⟩
      go_wp2
      go_ret
      exact ⟨rfl, B9.out.trans (b10.mono (by omega))⟩
end Go.Proofs.YtakcmjnfkcoilaaDoor
