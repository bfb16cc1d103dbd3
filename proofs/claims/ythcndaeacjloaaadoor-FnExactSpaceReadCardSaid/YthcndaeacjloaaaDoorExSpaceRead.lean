import Derived.Test.YthcndaeacjloaaaDoorSpace
import Derived.Test.YthcndaeacjloaaaDoorSpRdS
import Derived.Test.YthcndaeacjloaaaDoorSpRdI
/- The walk of FnExactSpaceRead. -/
namespace Go.Proofs.YthcndaeacjloaaaDoor
open Go Go.RowKit

set_option maxRecDepth 100000 in
set_option maxHeartbeats 4000000 in
theorem fnExactSpaceReadWalk (key : ByteArray) (hk0 : key.size ≤ maxLen) (text : ByteArray) (ht0 : text.size ≤ maxLen) {w : World} (htab : Lib.TabIs Tryd.prog w "internal/strconv.uint64pow10" .u64 Lib.pow10Tab) (hml : ∃ m, w.cell? ⟨2, 0, none⟩ = some (.int .i64 m)) :
    Calls Tryd.prog 4 #[.string key, .string text] w fun e w' => e = .returned (.bool true) ∧ Below w.heap.size w w' := by
  have HT := Lib.hid htab
  have HM := Lib.hid hml
  clear htab hml
  unfold maxLen at hk0 ht0
  by_cases hk : (1048576 : Int) < (key.size : Int)
  · go_enter Tryd.func4, Tryd.ntmps4
    go_wp2
    go_ret
    exact ⟨rfl, Below.refl _ _⟩
  have hk1 : (key.size : Int) ≤ 1048576 := by omega
  clear hk
  by_cases ht : (1048576 : Int) < (text.size : Int)
  · go_enter Tryd.func4, Tryd.ntmps4
    go_wp2
    go_ret
    exact ⟨rfl, Below.refl _ _⟩
  have ht1 : (text.size : Int) ≤ 1048576 := by omega
  clear ht
  obtain ⟨⟨⟨a0, a1, a2, a3, a4⟩, b⟩, hr⟩ : ∃ r, rdS key text = r := ⟨_, rfl⟩
  have HR := Lib.hid hr
  have hbb : (b != b) = false := by simp
  clear hr
  go_enter Tryd.func4, Tryd.ntmps4
  go_wp2_with fail
  refine (specSpRd_any key text _ (by omega) (by omega)).mono ?_
  rw [HR.out]
  rintro e w1 ⟨rfl, b1⟩
  have B1 := b1
  clear b1
  unfold spV
  dsimp only
  go_wp2_with fail
  refine (implSpRd_any key text _ (by omega) (by omega) (tab_below HT.out (B1.alloc B1.size _)) ?_).mono ?_
  · obtain ⟨m, hm⟩ := HM.out
    exact ⟨m, ((B1.alloc B1.size _).cell (by have := World.block_lt_of_cell? w _ hm; simpa using this)).trans hm⟩
  rw [HR.out]
  rintro e w2 ⟨rfl, b2⟩
  have BX := (Box.alloc w1 #[.string a0, .string a1, .int .i64 a2, .bool a3, .int .i64 a4] 26).below b2
  have B2 := Lib.hid ((B1.alloc B1.size (.cells #[.string a0, .string a1, .int .i64 a2, .bool a3, .int .i64 a4] 26)).trans (b2.mono (by have := B1.size; simp; omega)))
  replace BX := BX.below (below_alloc w2 (.cells #[.string a0, .string a1, .int .i64 a2, .bool a3, .int .i64 a4] 26))
  have x0 := (BX 0 _ rfl).1
  have x1 := (BX 1 _ rfl).1
  have x2 := (BX 2 _ rfl).1
  have x3 := (BX 3 _ rfl).1
  have x4 := (BX 4 _ rfl).1
  clear b2 BX B1
  unfold spVI
  dsimp only
  go_wp2_with fail
  refine (eqSpace_any a0 a1 a2 a3 a4 _).mono ?_
  rintro e w3 ⟨rfl, b3⟩
  have B3 := Lib.hid ((B2.out.alloc B2.out.size (.cells #[.string a0, .string a1, .int .i64 a2, .bool a3, .int .i64 a4] 26)).trans (b3.mono (by have := B2.out.size; simp; omega)))
  clear b3 x0 x1 x2 x3 x4
  go_wp2
  go_ret
  exact ⟨rfl, B3.out⟩
end Go.Proofs.YthcndaeacjloaaaDoor
