import Derived.Test.YtlaehhdbagiciaaSpaceI
import Derived.Test.YtlaehhdbagiciaaSpaceG
/- The walks of the exact laws of spaces that answer yes or no. -/
namespace Go.Proofs.Ytlaehhdbagiciaa
open Go Go.RowKit

set_option maxRecDepth 100000 in
set_option maxHeartbeats 1000000 in
theorem fnExactSpacesOkWalk (a : Option Addr) (c : Nat) (l : List SpaceD) {w : World} (h : ElS 5 encSpace w a l) (hok : ∀ x ∈ l, OkSpace x) :
    Calls Try.prog 8 #[.slice a l.length c] w fun e w' => e = .returned (.bool true) ∧ Below w.heap.size w w' := by
  by_cases hb : (1048576 : Int) < (bulkSpaceS l : Int)
  · have HR := Lib.hid (szR_no hb)
    go_enter Try.func8, Try.ntmps8
    go_wp2_with fail
    refine (szSpaceS_any _ _ l _ _ (by omega) (by omega) h hok).mono ?_
    rintro e w1 ⟨rfl, b1⟩
    rw [HR.out]
    go_wp2
    go_ret
    exact ⟨rfl, b1⟩
  · have HR := Lib.hid (szR_yes (show (bulkSpaceS l : Int) ≤ 1048576 by omega))
    have hn : l.length ≤ 1048576 := by unfold bulkSpaceS at hb; omega
    have hq : 0 ≤ (1048576 : Int) - bulkSpaceS l := by omega
    clear hb
    obtain ⟨q, hqq⟩ : ∃ q, spsOk l = q := ⟨_, rfl⟩
    have HQ := Lib.hid hqq
    clear hqq
    go_enter Try.func8, Try.ntmps8
    go_wp2_with fail
    refine (szSpaceS_any _ _ l _ _ (by omega) (by omega) h hok).mono ?_
    rintro e w1 ⟨rfl, b1⟩
    rw [HR.out]
    go_wp2_with fail
    refine (toSpaceS_any _ _ l _ hn (h.below b1)).mono ?_
    rintro e w2 ⟨rfl, o2, b2⟩
    have S2 := Lib.hid (own_el encSpace_len h.1 o2)
    clear o2
    have B2 := b1.trans (b2.mono b1.size)
    go_wp2_with fail
    refine (specSpaces_any _ _ l _ S2.out hok hn).mono ?_
    rintro e w3 ⟨rfl, b3⟩
    rw [HQ.out]
    have B3 := B2.trans (b3.mono B2.size)
    go_wp2_with fail
    refine (toSpaceS_any _ _ l _ hn (h.below B3)).mono ?_
    rintro e w4 ⟨rfl, o4, b4⟩
    have S4 := Lib.hid (own_el encSpace_len h.1 o4)
    clear o4
    have B4 := B3.trans (b4.mono B3.size)
    go_wp2_with fail
    refine (implSpaces_any _ _ l _ S4.out hok).mono ?_
    rintro e w5 ⟨rfl, b5⟩
    rw [HQ.out]
    have B5 := B4.trans (b5.mono B4.size)
    have S5 := Lib.hid (S4.out.below b5)
    go_wp2_with fail
    refine (toSpaceS_any _ _ l _ hn (h.below B5)).mono ?_
    rintro e w6 ⟨rfl, o6, b6⟩
    have S6 := Lib.hid (own_el encSpace_len h.1 o6)
    clear o6
    have B6 := B5.trans (b6.mono B5.size)
    go_wp2_with fail
    refine (eqSpaceS_any _ _ _ _ l _ (S5.out.below b6) S6.out).mono ?_
    rintro e w7 ⟨rfl, b7⟩
    go_wp2
    go_ret
    exact ⟨rfl, B6.trans (b7.mono B6.size)⟩

set_option maxRecDepth 100000 in
set_option maxHeartbeats 1000000 in
theorem fnExactSpaceInWalk (a : Option Addr) (c : Nat) (l : List SpaceD) {w : World} (h : ElS 5 encSpace w a l) (hok : ∀ x ∈ l, OkSpace x) (name : ByteArray) (hzname : name.size ≤ maxLen) (over : ByteArray) (hzover : over.size ≤ maxLen) :
    Calls Try.prog 10 #[.slice a l.length c, .string name, .string over] w fun e w' => e = .returned (.bool true) ∧ Below w.heap.size w w' := by
  unfold maxLen at hzname
  unfold maxLen at hzover
  by_cases hsname : (1048576 : Int) < (name.size : Int)
  · go_enter Try.func10, Try.ntmps10
    go_wp2
    go_ret
    exact ⟨rfl, Below.refl _ _⟩
  have hsname2 : (name.size : Int) ≤ 1048576 := by omega
  clear hsname
  by_cases hsover : (1048576 : Int) < (over.size : Int)
  · go_enter Try.func10, Try.ntmps10
    go_wp2
    go_ret
    exact ⟨rfl, Below.refl _ _⟩
  have hsover2 : (over.size : Int) ≤ 1048576 := by omega
  clear hsover
  by_cases hb : (1048576 : Int) < (bulkSpaceS l : Int)
  · have HR := Lib.hid (szR_no hb)
    go_enter Try.func10, Try.ntmps10
    go_wp2_with fail
    refine (szSpaceS_any _ _ l _ _ (by omega) (by omega) h hok).mono ?_
    rintro e w1 ⟨rfl, b1⟩
    rw [HR.out]
    go_wp2
    go_ret
    exact ⟨rfl, b1⟩
  · have HR := Lib.hid (szR_yes (show (bulkSpaceS l : Int) ≤ 1048576 by omega))
    have hn : l.length ≤ 1048576 := by unfold bulkSpaceS at hb; omega
    have hq : 0 ≤ (1048576 : Int) - bulkSpaceS l := by omega
    clear hb
    obtain ⟨q, hqq⟩ : ∃ q, (spsOk l && inSp l name over) = q := ⟨_, rfl⟩
    have HQ := Lib.hid hqq
    clear hqq
    go_enter Try.func10, Try.ntmps10
    go_wp2_with fail
    refine (szSpaceS_any _ _ l _ _ (by omega) (by omega) h hok).mono ?_
    rintro e w1 ⟨rfl, b1⟩
    rw [HR.out]
    go_wp2_with fail
    refine (toSpaceS_any _ _ l _ hn (h.below b1)).mono ?_
    rintro e w2 ⟨rfl, o2, b2⟩
    have S2 := Lib.hid (own_el encSpace_len h.1 o2)
    clear o2
    have B2 := b1.trans (b2.mono b1.size)
    go_wp2_with fail
    refine (specSpaceIn_any _ _ l name over _ S2.out hok hn).mono ?_
    rintro e w3 ⟨rfl, b3⟩
    rw [HQ.out]
    have B3 := B2.trans (b3.mono B2.size)
    go_wp2_with fail
    refine (toSpaceS_any _ _ l _ hn (h.below B3)).mono ?_
    rintro e w4 ⟨rfl, o4, b4⟩
    have S4 := Lib.hid (own_el encSpace_len h.1 o4)
    clear o4
    have B4 := B3.trans (b4.mono B3.size)
    go_wp2_with fail
    refine (implSpaceIn_any _ _ l name over _ S4.out hok).mono ?_
    rintro e w5 ⟨rfl, b5⟩
    rw [HQ.out]
    have B5 := B4.trans (b5.mono B4.size)
    have S5 := Lib.hid (S4.out.below b5)
    go_wp2_with fail
    refine (toSpaceS_any _ _ l _ hn (h.below B5)).mono ?_
    rintro e w6 ⟨rfl, o6, b6⟩
    have S6 := Lib.hid (own_el encSpace_len h.1 o6)
    clear o6
    have B6 := B5.trans (b6.mono B5.size)
    go_wp2_with fail
    refine (eqSpaceS_any _ _ _ _ l _ (S5.out.below b6) S6.out).mono ?_
    rintro e w7 ⟨rfl, b7⟩
    go_wp2
    go_ret
    exact ⟨rfl, B6.trans (b7.mono B6.size)⟩

set_option maxRecDepth 100000 in
set_option maxHeartbeats 1000000 in
theorem fnExactSpaceGoingWalk (a : Option Addr) (c : Nat) (l : List SpaceD) {w : World} (h : ElS 5 encSpace w a l) (hok : ∀ x ∈ l, OkSpace x) (name : ByteArray) (hzname : name.size ≤ maxLen) :
    Calls Try.prog 11 #[.slice a l.length c, .string name] w fun e w' => e = .returned (.bool true) ∧ Below w.heap.size w w' := by
  unfold maxLen at hzname
  by_cases hsname : (1048576 : Int) < (name.size : Int)
  · go_enter Try.func11, Try.ntmps11
    go_wp2
    go_ret
    exact ⟨rfl, Below.refl _ _⟩
  have hsname2 : (name.size : Int) ≤ 1048576 := by omega
  clear hsname
  by_cases hb : (1048576 : Int) < (bulkSpaceS l : Int)
  · have HR := Lib.hid (szR_no hb)
    go_enter Try.func11, Try.ntmps11
    go_wp2_with fail
    refine (szSpaceS_any _ _ l _ _ (by omega) (by omega) h hok).mono ?_
    rintro e w1 ⟨rfl, b1⟩
    rw [HR.out]
    go_wp2
    go_ret
    exact ⟨rfl, b1⟩
  · have HR := Lib.hid (szR_yes (show (bulkSpaceS l : Int) ≤ 1048576 by omega))
    have hn : l.length ≤ 1048576 := by unfold bulkSpaceS at hb; omega
    have hq : 0 ≤ (1048576 : Int) - bulkSpaceS l := by omega
    clear hb
    obtain ⟨q, hqq⟩ : ∃ q, (spsOk l && goSp l name) = q := ⟨_, rfl⟩
    have HQ := Lib.hid hqq
    clear hqq
    go_enter Try.func11, Try.ntmps11
    go_wp2_with fail
    refine (szSpaceS_any _ _ l _ _ (by omega) (by omega) h hok).mono ?_
    rintro e w1 ⟨rfl, b1⟩
    rw [HR.out]
    go_wp2_with fail
    refine (toSpaceS_any _ _ l _ hn (h.below b1)).mono ?_
    rintro e w2 ⟨rfl, o2, b2⟩
    have S2 := Lib.hid (own_el encSpace_len h.1 o2)
    clear o2
    have B2 := b1.trans (b2.mono b1.size)
    go_wp2_with fail
    refine (specSpaceGoing_any _ _ l name _ S2.out hok hn).mono ?_
    rintro e w3 ⟨rfl, b3⟩
    rw [HQ.out]
    have B3 := B2.trans (b3.mono B2.size)
    go_wp2_with fail
    refine (toSpaceS_any _ _ l _ hn (h.below B3)).mono ?_
    rintro e w4 ⟨rfl, o4, b4⟩
    have S4 := Lib.hid (own_el encSpace_len h.1 o4)
    clear o4
    have B4 := B3.trans (b4.mono B3.size)
    go_wp2_with fail
    refine (implSpaceGoing_any _ _ l name _ S4.out hok).mono ?_
    rintro e w5 ⟨rfl, b5⟩
    rw [HQ.out]
    have B5 := B4.trans (b5.mono B4.size)
    have S5 := Lib.hid (S4.out.below b5)
    go_wp2_with fail
    refine (toSpaceS_any _ _ l _ hn (h.below B5)).mono ?_
    rintro e w6 ⟨rfl, o6, b6⟩
    have S6 := Lib.hid (own_el encSpace_len h.1 o6)
    clear o6
    have B6 := B5.trans (b6.mono B5.size)
    go_wp2_with fail
    refine (eqSpaceS_any _ _ _ _ l _ (S5.out.below b6) S6.out).mono ?_
    rintro e w7 ⟨rfl, b7⟩
    go_wp2
    go_ret
    exact ⟨rfl, B6.trans (b7.mono B6.size)⟩
end Go.Proofs.Ytlaehhdbagiciaa
