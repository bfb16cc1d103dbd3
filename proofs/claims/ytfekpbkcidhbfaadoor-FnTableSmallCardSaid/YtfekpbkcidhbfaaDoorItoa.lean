import Derived.Test.YtfekpbkcidhbfaaDoorShelf
import Derived.Test.YtfekpbkcidhbfaaDoorBase
import Derived.Lib.LaidTab
/- What stands about strconv.Itoa: its table, and the memory that it leaves. -/
namespace Go.Proofs.YtfekpbkcidhbfaaDoor
open Go Go.RowKit

theorem below_grow (w : World) (k : Nat) (os : Array Obj) : Below w.heap.size w (Go.Sort.grow (w.drewN k) os) := by
  refine ⟨rfl, rfl, rfl, by simp [Go.Sort.grow], fun j hj => ?_⟩
  show (w.heap ++ os)[j]? = w.heap[j]?
  rw [Array.getElem?_append_left hj]
theorem tab_below {w w' : World} (h : Lib.TabIs Tryd.prog w "internal/strconv.uint64pow10" .u64 Lib.pow10Tab) (hb : Below w.heap.size w w') : Lib.TabIs Tryd.prog w' "internal/strconv.uint64pow10" .u64 Lib.pow10Tab := by
  obtain ⟨g, hg⟩ : ∃ g, (Tryd.prog).globalNamed "internal/strconv.uint64pow10" = some g := ⟨1, by kernel_rfl⟩
  have hlt : g < w.heap.size := by
    have := Lib.TabIs.cell h hg 0 (by decide)
    have := World.block_lt_of_cell? w _ this
    simpa using this
  unfold Lib.TabIs at h ⊢
  unfold World.var? at h ⊢
  rw [hg] at h ⊢
  simp only [Option.bind_some] at h ⊢
  rw [hb.block g hlt]
  exact h
end Go.Proofs.YtfekpbkcidhbfaaDoor
