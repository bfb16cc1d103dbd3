import Derived.Test.YtoknlnhbccllnaaDoorHashI
import Derived.Test.YtoknlnhbccllnaaDoorHashS
/- The walk of FnExactHashSum. -/
namespace Go.Proofs.YtoknlnhbccllnaaDoor
open Go Go.RowKit

set_option maxRecDepth 100000 in
set_option maxHeartbeats 800000 in
theorem fnExactHashSumWalk (s : ByteArray) (ws : s.size ≤ maxLen) {w : World} (ht : HashT w) :
    Calls Tryd.prog 4 #[.string s] w fun e w' => e = .returned (.bool true) ∧ Below w.heap.size w w' := by
  unfold maxLen at ws
  have HT := Lib.hid ht
  clear ht
  by_cases hbig : 1048576 < s.size
  · have hb : (1048576 : Int) < (s.size : Int) := by omega
    go_enter Tryd.func4, Tryd.ntmps4
    go_wp2
    go_ret
    exact ⟨rfl, Below.refl _ _⟩
  · have hb : (s.size : Int) ≤ 1048576 := by omega
    have hs : s.size ≤ 549755813888 := by omega
    clear hbig
    go_enter Tryd.func4, Tryd.ntmps4
    go_wp2_with fail
    refine (specHash_any s hs w).mono ?_
    rintro e w1 ⟨rfl, b1⟩
    have B1 := Lib.hid b1
    clear b1
    go_wp2_with fail
    refine (implHash_any s w1 hs (HT.out.below B1.out)).mono ?_
    rintro e w2 ⟨rfl, b2⟩
    have B2 := Lib.hid (B1.out.trans (b2.mono B1.out.size))
    clear b2
    go_wp2
    go_ret
    exact ⟨rfl, B2.out⟩
end Go.Proofs.YtoknlnhbccllnaaDoor
