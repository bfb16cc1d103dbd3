import Derived.Test.YtgjfflfldddebaaDoorBloomM
import Derived.Test.YtgjfflfldddebaaDoorBloomS
import Derived.Test.YtgjfflfldddebaaDoorStrEq
import Derived.Test.YtgjfflfldddebaaDoorStrTo
import Derived.Test.YtgjfflfldddebaaDoorStrSz
import Derived.WalkSmall
/- The walk of FnExactBloomMake. -/
namespace Go.Proofs.YtgjfflfldddebaaDoor
open Go Go.RowKit

theorem sum_has : ∀ {l : List ByteArray} {s : ByteArray}, s ∈ l → s.size ≤ sumSize l
  | [], _, h => absurd h List.not_mem_nil
  | a :: r, s, h => by
    unfold sumSize
    rw [List.map_cons, List.sum_cons]
    rcases List.mem_cons.1 h with rfl | h
    · omega
    · have := sum_has h
      unfold sumSize at this
      omega
set_option maxRecDepth 100000 in
set_option maxHeartbeats 1000000 in
theorem fnExactBloomMakeWalk (a : Option Addr) (c : Nat) (l : List ByteArray) {w : World} (h : StrS w a l) (ht : HashT w) :
    Calls Tryd.prog 4 #[.slice a l.length c] w fun e w' => e = .returned (.bool true) ∧ Below w.heap.size w w' := by
  by_cases hb : (1048576 : Int) < (bulkS l : Int)
  · have HR := Lib.hid (szR_no hb)
    go_enter Tryd.func4, Tryd.ntmps4
    go_wp2_with (go_at_call 13; refine (szStr_any _ _ _ _ _ (by omega) (by omega) h).mono ?_; rintro e w1 ⟨rfl, rfl⟩; rw [HR.out])
    go_ret
    exact ⟨rfl, Below.refl _ _⟩
  · have HR := Lib.hid (szR_yes (show (bulkS l : Int) ≤ 1048576 by omega))
    have hn : l.length ≤ 1048576 := by unfold bulkS at hb; omega
    have hs : sumSize l ≤ 1048576 := by unfold bulkS at hb; omega
    have hsz : ∀ s ∈ l, s.size ≤ 549755813888 := fun s hs2 => by have := sum_has hs2; omega
    have hq : 0 ≤ (1048576 : Int) - bulkS l := by omega
    have hz := h.2.1
    have hlm := h.1
    clear hb
    go_enter Tryd.func4, Tryd.ntmps4
    go_wp2_with fail
    refine (szStr_any _ _ _ _ _ (by omega) (by omega) h).mono ?_
    rintro e w1 ⟨rfl, rfl⟩
    rw [HR.out]
    go_wp2_with fail
    refine (toStr_any _ _ _ _ hn h).mono ?_
    rintro e w2 ⟨rfl, o2, b2⟩
    have S2 := Lib.hid (own_str hlm hz o2)
    clear o2
    go_wp2_with fail
    refine (specBloomMake_any _ _ l _ S2.out hsz hn).mono ?_
    rintro e w3 ⟨rfl, b3⟩
    have B3 := b2.trans (b3.mono b2.size)
    go_wp2_with fail
    refine (toStr_any _ _ _ _ hn (h.below B3)).mono ?_
    rintro e w4 ⟨rfl, o4, b4⟩
    have B4 := B3.trans (b4.mono B3.size)
    have S4 := Lib.hid (own_str hlm hz o4)
    clear o4
    go_wp2_with fail
    refine (implBloomMake_any _ _ l _ S4.out hsz hn (ht.below B4)).mono ?_
    rintro e w5 ⟨rfl, b5⟩
    have B5 := B4.trans (b5.mono B4.size)
    have S5 := Lib.hid (S4.out.below b5)
    go_wp2_with fail
    refine (toStr_any _ _ _ _ hn (h.below B5)).mono ?_
    rintro e w6 ⟨rfl, o6, b6⟩
    have B6 := B5.trans (b6.mono B5.size)
    have S6 := Lib.hid (own_str hlm hz o6)
    clear o6
    have HE := Lib.hid (show eqStr l l = true by simp [eqStr])
    go_wp2_with fail
    refine (eqStr_any _ _ _ _ l l _ (S5.out.below b6) S6.out).mono ?_
    rintro e w7 ⟨rfl, n7, rfl⟩
    rw [HE.out]
    go_wp2
    go_ret
    exact ⟨rfl, below_drewN B6 n7⟩
end Go.Proofs.YtgjfflfldddebaaDoor
