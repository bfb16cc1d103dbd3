import Derived.Test.YtckblicpfdijkaaDoorFrameGet
import Derived.Test.YtckblicpfdijkaaDoorStrEq
import Derived.Test.YtckblicpfdijkaaDoorStrTo
import Derived.Test.YtckblicpfdijkaaDoorStrSz
import Derived.Test.YtckblicpfdijkaaDoorFrT
import Derived.WalkSmall
/- The walk of FnExactFrameGet. -/
namespace Go.Proofs.YtckblicpfdijkaaDoor
open Go Go.RowKit

set_option maxRecDepth 100000 in
set_option maxHeartbeats 1000000 in
theorem fnExactFrameGetWalk0 (t n : Int) (ht : -9223372036854775808 ≤ t ∧ t ≤ 9223372036854775807) (hn : -9223372036854775808 ≤ n ∧ n ≤ 9223372036854775807) (a : Option Addr) (c : Nat) (l : List ByteArray) {w : World} (h : StrS w a l) (hTab : FrT w) :
    Calls Tryd.prog 4 #[.int .i64 t, .int .i64 n, .slice a l.length c] w fun e w' => e = .returned (.bool true) ∧ Below w.heap.size w w' := by
  by_cases hb : (1048576 : Int) < (bulkS l : Int)
  · have HR := Lib.hid (szR_no hb)
    go_enter Tryd.func4, Tryd.ntmps4
    go_wp2_with (go_at_call 14; refine (szStr_any _ _ _ _ _ (by omega) (by omega) h).mono ?_; rintro e w1 ⟨rfl, rfl⟩; rw [HR.out])
    go_ret
    exact ⟨rfl, Below.refl _ _⟩
  · have HR := Lib.hid (szR_yes (show (bulkS l : Int) ≤ 1048576 by omega))
    have hln : l.length ≤ 1048576 := by unfold bulkS at hb; omega
    have hs : sumSize l ≤ 1048576 := by unfold bulkS at hb; omega
    have hq : 0 ≤ (1048576 : Int) - bulkS l := by omega
    have hz := h.2.1
    have hlm := h.1
    have HTab := Lib.hid hTab
    have HE := Lib.hid (show eqStr l l = true by simp [eqStr])
    clear hb hTab
    go_enter Tryd.func4, Tryd.ntmps4
    go_wp2_with fail
    refine (szStr_any _ _ _ _ _ (by omega) (by omega) h).mono ?_
    rintro e w1 ⟨rfl, rfl⟩
    rw [HR.out]
    go_wp2_with fail
    refine (toStr_any _ _ _ _ hln h).mono ?_
    rintro e w2 ⟨rfl, o2, b2⟩
    have S2 := Lib.hid (own_str hlm hz o2)
    clear o2
    go_wp2_with fail
    refine (specFrameGet_any t n _ _ l _ S2.out hs hln).mono ?_
    rintro e w3 ⟨rfl, b3⟩
    have B3 := b2.trans (b3.mono b2.size)
    go_wp2_with fail
    refine (toStr_any _ _ _ _ hln (h.below B3)).mono ?_
    rintro e w4 ⟨rfl, o4, b4⟩
    have B4 := B3.trans (b4.mono B3.size)
    have S4 := Lib.hid (own_str hlm hz o4)
    clear o4
    go_wp2_with fail
    refine (implFrameGet_any t n ht hn _ _ l _ S4.out (Nat.le_refl _) hln hs (HTab.out.below B4)).mono ?_
    rintro e w5 ⟨rfl, b5⟩
    have B5 := B4.trans (b5.mono B4.size)
    have S5 := Lib.hid (S4.out.below b5)
    generalize getI t n l = R
    obtain ⟨rs, rk⟩ := R
    have q1 : (!rs.toList == rs.toList) = false := by simp
    have q2 : ((rk : Int) != (rk : Int)) = false := by simp
    go_wp2_with fail
    refine (toStr_any _ _ _ _ hln (h.below B5)).mono ?_
    rintro e w6 ⟨rfl, o6, b6⟩
    have B6 := B5.trans (b6.mono B5.size)
    have S6 := Lib.hid (own_str hlm hz o6)
    clear o6
    go_wp2_with fail
    refine (eqStr_any _ _ _ _ l l _ (S5.out.below b6) S6.out).mono ?_
    rintro e w7 ⟨rfl, n7, rfl⟩
    rw [HE.out]
    go_wp2
    go_ret
    exact ⟨rfl, below_drewN B6 n7⟩
theorem fnExactFrameGetWalk (t : Int) (ht : (Lit.int .i64 t).wf = true) (n : Int) (hn : (Lit.int .i64 n).wf = true) (a : Option Addr) (c : Nat) (l : List ByteArray) {w : World} (h : StrS w a l) (h1 : HashT w) (h2 : Lib.TabIs Tryd.prog w "internal/strconv.uint64pow10" .u64 Lib.pow10Tab) :
    Calls Tryd.prog 4 #[.int .i64 t, .int .i64 n, .slice a l.length c] w fun e w' => e = .returned (.bool true) ∧ Below w.heap.size w w' :=
  fnExactFrameGetWalk0 t n (i64_bounds ht) (i64_bounds hn) a c l h ⟨h1, h2⟩
end Go.Proofs.YtckblicpfdijkaaDoor
