import Derived.Test.YtfekpbkcidhbfaaDoorTabI
/- The walk of FnExactTableMake. -/
namespace Go.Proofs.YtfekpbkcidhbfaaDoor
open Go Go.RowKit

set_option maxRecDepth 100000 in
set_option maxHeartbeats 1000000 in
theorem fnExactTableMakeWalk (a : Option Addr) (c : Nat) (l : List EntryD) {w : World} (h : ElS 4 encEntry w a l) (hok : ∀ x ∈ l, OkEntry x) (ht : HashT w) (htab : Lib.TabIs Tryd.prog w "internal/strconv.uint64pow10" .u64 Lib.pow10Tab) :
    Calls Tryd.prog 3 #[.slice a l.length c] w fun e w' => e = .returned (.bool true) ∧ Below w.heap.size w w' := by
  by_cases hb : (1048576 : Int) < (bulkEntryS l : Int)
  · have HR := Lib.hid (szR_no hb)
    go_enter Tryd.func3, Tryd.ntmps3
    go_wp2_with fail
    refine (szEntryS_any _ _ l _ _ (by omega) (by omega) h hok).mono ?_
    rintro e w1 ⟨rfl, b1⟩
    rw [HR.out]
    go_wp2
    go_ret
    exact ⟨rfl, b1⟩
  · have HR := Lib.hid (szR_yes (show (bulkEntryS l : Int) ≤ 1048576 by omega))
    have hn : l.length ≤ 1048576 := by unfold bulkEntryS at hb; omega
    have hq : 0 ≤ (1048576 : Int) - bulkEntryS l := by omega
    clear hb
    obtain ⟨T, hT⟩ : ∃ T, tableV l = T := ⟨_, rfl⟩
    have HTV := Lib.hid hT
    have HT := Lib.hid ht
    have HP := Lib.hid htab
    clear hT ht htab
    go_enter Tryd.func3, Tryd.ntmps3
    go_wp2_with fail
    refine (szEntryS_any _ _ l _ _ (by omega) (by omega) h hok).mono ?_
    rintro e w1 ⟨rfl, b1⟩
    rw [HR.out]
    go_wp2_with fail
    refine (toEntryS_any _ _ l _ hn (h.below b1)).mono ?_
    rintro e w2 ⟨rfl, o2, b2⟩
    have S2 := Lib.hid (own_el encEntry_len h.1 o2)
    clear o2
    have B2 := b1.trans (b2.mono b1.size)
    go_wp2_with fail
    refine (specTable_any _ _ l _ S2.out hok).mono ?_
    rw [HTV.out]
    rintro e w3 ⟨rfl, b3⟩
    have B3 := B2.trans (b3.mono B2.size)
    go_wp2_with fail
    refine (toEntryS_any _ _ l _ hn (h.below B3)).mono ?_
    rintro e w4 ⟨rfl, o4, b4⟩
    have S4 := Lib.hid (own_el encEntry_len h.1 o4)
    clear o4
    have B4 := B3.trans (b4.mono B3.size)
    go_wp2_with fail
    refine (implTable_any _ _ l _ S4.out hok (HT.out.below B4) (tab_below HP.out B4)).mono ?_
    rw [HTV.out]
    rintro e w5 ⟨rfl, b5⟩
    have B5 := B4.trans (b5.mono B4.size)
    have S5 := Lib.hid (S4.out.below b5)
    go_wp2_with fail
    refine (toEntryS_any _ _ l _ hn (h.below B5)).mono ?_
    rintro e w6 ⟨rfl, o6, b6⟩
    have S6 := Lib.hid (own_el encEntry_len h.1 o6)
    clear o6
    have B6 := B5.trans (b6.mono B5.size)
    go_wp2_with fail
    refine (eqEntryS_any _ _ _ _ l _ (S5.out.below b6) S6.out).mono ?_
    rintro e w7 ⟨rfl, b7⟩
    go_wp2
    go_ret
    exact ⟨rfl, B6.trans (b7.mono B6.size)⟩
end Go.Proofs.YtfekpbkcidhbfaaDoor
