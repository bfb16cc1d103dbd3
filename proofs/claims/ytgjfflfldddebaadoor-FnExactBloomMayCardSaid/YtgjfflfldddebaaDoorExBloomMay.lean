import Derived.Test.YtgjfflfldddebaaDoorBloomY
import Derived.Test.YtgjfflfldddebaaDoorBloomS
/- The walk of FnExactBloomMay. -/
namespace Go.Proofs.YtgjfflfldddebaaDoor
open Go Go.RowKit

theorem specMay_is {s x : ByteArray} {q : Bool} (h : mayB s x = q) (hx : x.size ≤ 549755813888) (w : World) :
    Calls Tryd.prog 18 #[.string s, .string x] w fun e w' => e = .returned (.bool q) ∧ Below w.heap.size w w' := by
  subst h
  exact specBloomMay_any s x hx w
theorem implMay_is {s x : ByteArray} {q : Bool} (h : mayB s x = q) (hx : x.size ≤ 549755813888) (w : World) (ht : HashT w) :
    Calls Tryd.prog 19 #[.string s, .string x] w fun e w' => e = .returned (.bool q) ∧ Below w.heap.size w w' := by
  subst h
  exact implBloomMay_any s x hx w ht
set_option maxRecDepth 100000 in
set_option maxHeartbeats 1000000 in
theorem fnExactBloomMayWalk (s : ByteArray) (_ws : s.size ≤ maxLen) (x : ByteArray) (wx : x.size ≤ maxLen) {w : World} (ht : HashT w) :
    Calls Tryd.prog 5 #[.string s, .string x] w fun e w' => e = .returned (.bool true) ∧ Below w.heap.size w w' := by
  unfold maxLen at wx
  have HT := Lib.hid ht
  clear ht
  by_cases h1 : (1048576 : Int) < (s.size : Int)
  · go_enter Tryd.func5, Tryd.ntmps5
    go_wp2
    go_ret
    exact ⟨rfl, Below.refl _ _⟩
  by_cases h2 : (1048576 : Int) < (x.size : Int)
  · go_enter Tryd.func5, Tryd.ntmps5
    go_wp2
    go_ret
    exact ⟨rfl, Below.refl _ _⟩
  have hx : x.size ≤ 549755813888 := by omega
  obtain ⟨q, hq⟩ : ∃ q, mayB s x = q := ⟨_, rfl⟩
  have HQ := Lib.hid hq
  clear hq
  go_enter Tryd.func5, Tryd.ntmps5
  go_wp2_with fail
  refine (specMay_is HQ.out hx w).mono ?_
  rintro e w1 ⟨rfl, b1⟩
  have B1 := Lib.hid b1
  clear b1
  go_wp2_with fail
  refine (implMay_is HQ.out hx w1 (HT.out.below B1.out)).mono ?_
  rintro e w2 ⟨rfl, b2⟩
  have B2 := Lib.hid (B1.out.trans (b2.mono B1.out.size))
  clear b2
  go_wp2
  go_ret
  exact ⟨rfl, B2.out⟩
end Go.Proofs.YtgjfflfldddebaaDoor
