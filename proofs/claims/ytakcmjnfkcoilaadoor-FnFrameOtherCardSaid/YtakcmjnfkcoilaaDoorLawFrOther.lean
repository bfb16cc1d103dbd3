import Derived.Test.YtakcmjnfkcoilaaDoorFrameGet
import Derived.Test.YtakcmjnfkcoilaaDoorShape
import Derived.Test.YtakcmjnfkcoilaaDoorFramePI
import Derived.Test.YtakcmjnfkcoilaaDoorDrawFrGet
import Derived.Test.YtakcmjnfkcoilaaDoorWmW
import Derived.Test.YtakcmjnfkcoilaaDoorFrT
import Derived.Deep.RegionHeld3
import Derived.WalkLawsBesides
/- The walk of FnFrameOther. -/
namespace Go.Proofs.YtakcmjnfkcoilaaDoor
open Go Go.RowKit

theorem getI_in {t n : Int} (ht : 0 ≤ t ∧ t ≤ 99999999) (hn : 0 ≤ n ∧ n ≤ 99999999) (l : List ByteArray) : getI t n l = getB t.toNat n.toNat l := by
  unfold getI inB
  rw [decide_eq_true ht, decide_eq_true hn]
  rfl
theorem getB_none {t n : Nat} {l : List ByteArray} (h : ∀ x, ¬ FrameIs t n x (lists l)) : getB t n l = (⟨#[]⟩, 0) := by
  unfold getB
  rw [frameGet_no h]
  rfl
/-- what is read was written so, and in no other way -/
theorem get_parts {t n : Int} (ht : 0 ≤ t ∧ t ≤ 10) (hn : 0 ≤ n ∧ n ≤ 10) {L : List ByteArray} {x : ByteArray} {k : Nat} (h : getI t n L = (x, k)) :
    (k = 0 → x = ⟨#[]⟩) ∧ (k ≠ 0 → k ≤ L.length ∧ x.size ≤ 2000 ∧ getI (t + 1) n L = (⟨#[]⟩, 0) ∧ getI t (n + 1) L = (⟨#[]⟩, 0) ∧ getI t n (L.take (k - 1)) = (⟨#[]⟩, 0) ∧ putI t n x = L.take k) := by
  rw [getI_in (by omega) (by omega)] at h
  by_cases he : ∃ y, FrameIs t.toNat n.toNat y (lists L)
  · obtain ⟨y, hy⟩ := he
    have e1 : getB t.toNat n.toNat L = (mkB y, partsN y.length) := by
      unfold getB
      rw [frameGet_yes hy]
    rw [e1] at h
    obtain ⟨rfl, rfl⟩ : mkB y = x ∧ partsN y.length = k := by simpa using h
    have hp := parts_pos y.length
    have hl := hy.len
    rw [lists_len] at hl
    have hyd : (mkB y).data.toList = y := mkB_list y
    have hys : (mkB y).size = y.length := mkB_size y
    refine ⟨fun e => by omega, fun _ => ⟨hl, by rw [hys]; exact hy.1, ?_, ?_, ?_, ?_⟩⟩
    · rw [getI_in (by omega) (by omega)]
      refine getB_none fun z hz => ?_
      have := (frame_other hy hz).1
      omega
    · rw [getI_in (by omega) (by omega)]
      refine getB_none fun z hz => ?_
      have := (frame_other hy hz).2.1
      omega
    · rw [getI_in (by omega) (by omega)]
      refine getB_none fun z hz => ?_
      have hz2 : FrameIs t.toNat n.toNat z (lists L) := by
        refine ⟨hz.1, ?_⟩
        have hzl := hz.len
        rw [lists_len, List.length_take] at hzl
        have h2 := hz.2
        rw [← lists_take, List.take_take, Nat.min_eq_left (by omega)] at h2
        exact h2
      have e := (frame_other hy hz2).2.2
      have hzl := hz.len
      rw [lists_len, List.length_take, ← e] at hzl
      omega
    · have hok : frameOkB t n (mkB y) = true := by
        have hy1 := hy.1
        unfold frameOkB inB
        simp only [Bool.and_eq_true, decide_eq_true_eq]
        omega
      rw [putI_yes hok]
      apply lists_inj
      rw [lists_putB, hyd, ← hy.2, lists_take]
  · have hno : ∀ y, ¬ FrameIs t.toNat n.toNat y (lists L) := fun y hy => he ⟨y, hy⟩
    rw [getB_none hno] at h
    obtain ⟨rfl, rfl⟩ : (⟨#[]⟩ : ByteArray) = x ∧ 0 = k := by simpa using h
    exact ⟨fun _ => rfl, fun h => absurd rfl h⟩
theorem own_capO {w : World} {base : Nat} {e : TypeId} {size : Nat} {a : Option Addr} {n c : Nat} {xs : List Value} (h : w.ownsRow base e size (.slice a n c) n xs) : n ≤ c := by
  rcases h.2 with ⟨hv, h0⟩ | ⟨g, cap, cur, hv, hb, hg, h1, h2, _⟩
  · omega
  · simp only [Value.slice.injEq] at hv
    omega
theorem str_isO {w : World} {base m : Nat} {e : TypeId} {a : Option Addr} {c : Nat} {l : List ByteArray} (hm : l.length = m) (hl : m ≤ maxLen) (hs : ∀ s ∈ l, s.size ≤ maxLen) (h : w.ownsRow base e 1 (.slice a m c) m (l.map .string)) : StrS w a l := by
  subst hm
  exact own_str hl hs h
theorem implGet_isO (l : List ByteArray) {m : Nat} (hm : l.length = m) {x : ByteArray} {k : Nat} {t n : Int} (hg : getI t n l = (x, k)) (ht : -9223372036854775808 ≤ t ∧ t ≤ 9223372036854775807) (hn : -9223372036854775808 ≤ n ∧ n ≤ 9223372036854775807) (a : Option Addr) (c : Nat) (w : World) (hl : StrS w a l) (hca : m ≤ c) (hlen : m ≤ 1048576) (hz : sumSize l ≤ 1048576) (hTab : FrT w) :
    Calls Tryd.prog 11 #[.int .i64 t, .int .i64 n, .slice a m c] w fun e w' => e = .returned (.tuple #[.string x, .int .i64 (k : Int)]) ∧ Below w.heap.size w w' := by
  subst hm
  have h := implFrameGet_any t n ht hn a c l w hl hca hlen hz hTab
  unfold GetOutI at h
  rw [hg] at h
  exact h
theorem sum_smallO {l : List ByteArray} {c : Nat} : (∀ s ∈ l, s.size ≤ c) → sumSize l ≤ l.length * c := by
  induction l with
  | nil => intro _; simp [sumSize]
  | cons x l ih =>
    intro h
    have h1 := ih (fun y hy => h y (List.mem_cons_of_mem _ hy))
    have h2 := h x List.mem_cons_self
    have e : sumSize (x :: l) = x.size + sumSize l := by simp [sumSize]
    rw [e, List.length_cons, Nat.add_mul]
    omega
theorem specGet_isO (l : List ByteArray) {m : Nat} (hm : l.length = m) {x : ByteArray} {k : Nat} {t n : Int} (hg : getI t n l = (x, k)) (a : Option Addr) (c : Nat) (w : World) (hl : StrS w a l) (hlen : m ≤ 1048576) (hz : sumSize l ≤ 1048576) :
    Calls Tryd.prog 13 #[.int .i64 t, .int .i64 n, .slice a m c] w fun e w' => e = .returned (.tuple #[.string x, .int .i64 (k : Int)]) ∧ Below w.heap.size w w' := by
  subst hm
  have h := specFrameGet_any t n a c l w hl hz hlen
  unfold GetOutI at h
  rw [hg] at h
  exact h
theorem implPut_isO {t n : Int} {x : ByteArray} {L : List ByteArray} (h : putI t n x = L) (hx : x.size ≤ maxLen) (w : World) (hTab : FrT w) : Calls Tryd.prog 8 #[.int .i64 t, .int .i64 n, .string x] w (OutS w L) := by
  subst h
  exact implFramePut_any t n x hx w hTab
theorem wmW_isO {a b : Option Addr} {ca cb m : Nat} {l : List ByteArray} (hm : l.length = m) (w : World) (hl : StrS w a l) (hm2 : StrS w b l) :
    Calls Tryd.prog 9 #[.slice a m ca, .slice b m cb] w fun e w' => e = .returned (.bool true) ∧ Below w.heap.size w w' := by
  subst hm
  exact wmWords_w a b ca cb l w hl hm2
theorem strs_take {w : World} {a : Option Addr} {l : List ByteArray} (h : StrS w a l) (k : Nat) : StrS w a (l.take k) :=
  ⟨by have := h.1; rw [List.length_take]; omega, fun s hs => h.2.1 s (List.mem_of_mem_take hs), h.2.2.elim (fun e => .inl (by rw [e]; simp)) (fun ⟨b, o, e, hc⟩ => .inr ⟨b, o, e, fun j hj => by
    rw [List.length_take] at hj
    rw [hc j (by omega), List.getElem_take]⟩)⟩
theorem em_ofO {x : ByteArray} (h : x = ⟨#[]⟩) : (x.toList == ([] : List UInt8)) = true ∧ x.toList = [] := by subst h; exact ⟨by simp, by simp⟩
set_option maxRecDepth 100000 in
set_option maxHeartbeats 2000000 in
theorem fnFrameOtherWalk0 (a : Option Addr) (c : Nat) (l : List UInt8) {w : World} (hl : l.length ≤ c) (hc : c ≤ maxLen) (h : BytesS w a l) (hTab : FrT w) :
    Calls Tryd.prog 4 #[.slice a l.length c] w fun e w' => e = .returned (.bool true) ∧ Below w.heap.size w w' := by
  have hcl := hc
  unfold maxLen at hcl
  have HTab := Lib.hid hTab
  clear hTab
  by_cases hb : (1048576 : Int) < (l.length : Int)
  · go_enter Tryd.func4, Tryd.ntmps4
    go_wp2
    go_ret
    exact ⟨rfl, Below.refl _ _⟩
  have hb1 : (l.length : Int) ≤ 1048576 := by omega
  clear hb
  go_enter Tryd.func4, Tryd.ntmps4
  go_wp2_with fail
  refine (drawFrameGet_any a c l _ hl hc h).mono ?_
  rintro e w1 ⟨t, n, v1, L, rfl, o1, hLs, hLn, ht, hn, b1⟩
  obtain ⟨a1, c1, rfl⟩ := own_shape o1
  have z1 := b1.size
  have hcap := own_capO o1
  have hLok : ∀ s ∈ L, s.size ≤ maxLen := fun s hs => by have := hLs s hs; unfold maxLen; omega
  have S1 := Lib.hid (own_str (by unfold maxLen; omega) hLok o1)
  have B1 := Lib.hid b1
  have hsum := sum_smallO hLs
  have h24 : L.length * 400 ≤ 2400 := by omega
  have HLS := Lib.hid hLs
  clear o1 b1 hLok hLs
  obtain ⟨x, hx⟩ : ∃ x, (getI t n L).1 = x := ⟨_, rfl⟩
  obtain ⟨k, hk⟩ : ∃ k, (getI t n L).2 = k := ⟨_, rfl⟩
  have HG := Lib.hid (show getI t n L = (x, k) from Prod.ext hx hk)
  obtain ⟨g0, g1⟩ := get_parts ht hn HG.out
  have HG0 := Lib.hid g0
  have HG1 := Lib.hid g1
  clear hx hk g0 g1
  go_wp2_with fail
  refine (implGet_isO L rfl HG.out (by omega) (by omega) _ _ _ S1.out hcap (by omega) (by omega) (HTab.out.below B1.out)).mono ?_
  rintro e w2 ⟨rfl, b2⟩
  have z2 := b2.size
  have S2 := Lib.hid (S1.out.below b2)
  have B2 := Lib.hid (B1.out.trans (b2.mono z1))
  clear b2 S1 B1
  go_wp2_with fail
  refine (specGet_isO L rfl HG.out _ _ _ S2.out (by omega) (by omega)).mono ?_
  rintro e w3 ⟨rfl, b3⟩
  have z3 := b3.size
  have S3 := Lib.hid (S2.out.below b3)
  have B3 := Lib.hid (B2.out.trans (b3.mono (by omega)))
  clear b3 S2 B2
  have hxx : (x.toList == x.toList) = true := by simp
  by_cases hk0 : k = 0
  · subst hk0
    obtain rfl := HG0.out rfl
    go_wp2
    go_ret
    exact ⟨rfl, B3.out⟩
  · obtain ⟨hkl, hx2, q1, q2, q3, q4⟩ := HG1.out hk0
    have Q1 := Lib.hid q1
    have Q2 := Lib.hid q2
    have Q3 := Lib.hid q3
    have Q4 := Lib.hid q4
    clear q1 q2 q3 q4
    have a1' : ¬ (k : Int) = 0 := by omega
    have a2' : ((k : Int) == 0) = false := by rw [beq_eq_false_iff_ne]; omega
    have a3' : (k == 0) = false := by rw [beq_eq_false_iff_ne]; omega
    obtain ⟨m, hm⟩ : ∃ m, k = m + 1 := ⟨k - 1, by omega⟩
    have HM := Lib.hid hm
    clear hm
    obtain ⟨bb, ob, rfl, -⟩ := S3.out.2.2.resolve_left (by intro e; rw [e] at hkl; simp at hkl; omega)
    go_wp2_with fail
    refine (implGet_isO L rfl Q1.out (by omega) (by omega) _ _ _ S3.out hcap (by omega) (by omega) (HTab.out.below B3.out)).mono ?_
    rintro e w4 ⟨rfl, b4⟩
    have z4 := b4.size
    have S4 := Lib.hid (S3.out.below b4)
    have B4 := Lib.hid (B3.out.trans (b4.mono (by omega)))
    clear b4 S3 B3
    go_wp2_with fail
    refine (implGet_isO L rfl Q2.out (by omega) (by omega) _ _ _ S4.out hcap (by omega) (by omega) (HTab.out.below B4.out)).mono ?_
    rintro e w5 ⟨rfl, b5⟩
    have z5 := b5.size
    have S5 := Lib.hid (S4.out.below b5)
    have B5 := Lib.hid (B4.out.trans (b5.mono (by omega)))
    clear b5 S4 B4
    have hm := HM.out
    have e1 : (k : Int) - 1 = (m : Int) := by omega
    have e2 : (m : Int) ≤ (c1 : Int) := by omega
    have e3 : (0 : Int) ≤ (m : Int) := by omega
    have e4 : m ≤ c1 := by omega
    have hlm : (L.take m).length = m := by rw [List.length_take]; omega
    have HQ3 := Lib.hid (show getI t n (L.take m) = (⟨#[]⟩, 0) by have := Q3.out; rwa [hm] at this)
    have hsm : sumSize (L.take m) ≤ 2400 := by
      have h1 := sum_smallO (c := 400) (l := L.take m) (fun s hs => HLS.out s (List.mem_of_mem_take hs))
      have h2 : (L.take m).length * 400 ≤ 2400 := by rw [hlm]; omega
      omega
    have HLM := Lib.hid hlm
    have hml : m ≤ 6 := by omega
    clear hm hlm
    go_wp2_with fail
    refine (implGet_isO (L.take m) HLM.out HQ3.out (by omega) (by omega) _ _ _ (strs_take S5.out m) (by omega) (by omega) (by omega) (HTab.out.below B5.out)).mono ?_
    rintro e w6 ⟨rfl, b6⟩
    have z6 := b6.size
    have S6 := Lib.hid (S5.out.below b6)
    have B6 := Lib.hid (B5.out.trans (b6.mono (by omega)))
    clear b6 S5 B5
    have f2 : (k : Int) ≤ (c1 : Int) := by omega
    have f3 : (0 : Int) ≤ (k : Int) := by omega
    have f4 : k ≤ c1 := by omega
    have HLK := Lib.hid (show (L.take k).length = k by rw [List.length_take]; omega)
    have HOK := Lib.hid (show ∀ s ∈ L.take k, s.size ≤ maxLen from fun s hs => by have := HLS.out s (List.mem_of_mem_take hs); unfold maxLen; omega)
    go_wp2_with fail
    go_region_held3 (fun W => Below w6.heap.size w6 W) (first | exact (Below.refl _ _).drew | exact C7 | exact C8)
      (first
        | (go_at_call 8; refine (implPut_isO Q4.out (by unfold maxLen; omega) _ (HTab.out.below (B6.out.trans ((Below.refl _ _).drew.mono (by omega))))).mono ?_; rintro e w7 ⟨v7, rfl, o7, b7⟩; rw [HLK.out] at o7; obtain ⟨a7, c7, rfl⟩ := own_shape o7; have C7 : Below w6.heap.size w6 w7 := (Below.refl _ _).drew.trans b7; have R7 := Lib.hid (str_isO HLK.out (by unfold maxLen; omega) HOK.out o7))
        | (go_at_call 9; refine (wmW_isO HLK.out _ R7.out (strs_take (S6.out.below C7) k)).mono ?_; rintro e w8 ⟨rfl, b8⟩; have C8 : Below w6.heap.size w6 w8 := C7.trans (b8.mono C7.size)))
    go_wp2
    go_ret
    exact ⟨rfl, B6.out.trans (C8.mono (by omega))⟩
theorem fnFrameOtherWalk (a : Option Addr) (c : Nat) (l : List UInt8) (hl : l.length ≤ c) (hc : c ≤ maxLen) {w : World} (h : BytesS w a l) (h1 : HashT w) (h2 : Lib.TabIs Tryd.prog w "internal/strconv.uint64pow10" .u64 Lib.pow10Tab) :
    Calls Tryd.prog 4 #[.slice a l.length c] w fun e w' => e = .returned (.bool true) ∧ Below w.heap.size w w' :=
  fnFrameOtherWalk0 a c l hl hc h ⟨h1, h2⟩
end Go.Proofs.YtakcmjnfkcoilaaDoor
