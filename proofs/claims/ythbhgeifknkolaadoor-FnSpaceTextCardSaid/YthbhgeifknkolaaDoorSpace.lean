import Derived.Test.YthbhgeifknkolaaDoorProg
import Derived.Test.YthbhgeifknkolaaDoorBase
import Derived.Test.YthbhgeifknkolaaDoorMark
import Derived.Deep.RegionHeld3
import Derived.Deep.QuietTactic
import Derived.BigQuiet
import Derived.Test.YthbhgeifknkolaaDoorOpen
/- Space: what the helpers of the exact laws do with values of this type and with lists of them. -/
namespace Go.Proofs.YthbhgeifknkolaaDoor
open Go Go.RowKit Go.ChangeShapes Go.WideShapes

abbrev SpaceD := ByteArray × ByteArray × Int × Bool × Int
def encSpace (x : SpaceD) : List Value := [.string x.1, .string x.2.1, .int .i64 x.2.2.1, .bool x.2.2.2.1, .int .i64 x.2.2.2.2]
theorem encSpace_len (x : SpaceD) : (encSpace x).length = 5 := rfl
def bulkSpace (x : SpaceD) : Nat := x.1.size + x.2.1.size
def OkSpace (x : SpaceD) : Prop := x.1.size ≤ maxLen ∧ x.2.1.size ≤ maxLen
def bulkSpaceS (l : List SpaceD) : Nat := l.length + sumTo bulkSpace l l.length

theorem cellsSpace {w wr : World} {b o : Nat} {l : List SpaceD} (hb : Below w.heap.size w wr) (hc : ∀ j, (h : j < l.length) → ∀ i v, (encSpace l[j])[i]? = some v → w.cell? ⟨b, o + j * 5 + i, none⟩ = some v) (k : Nat) (h : k < l.length) :
    wr.cell? ⟨b, o + k * 5, none⟩ = some (.string l[k].1) ∧ wr.cell? ⟨b, o + k * 5 + 1, none⟩ = some (.string l[k].2.1) ∧ wr.cell? ⟨b, o + k * 5 + 2, none⟩ = some (.int .i64 l[k].2.2.1) ∧ wr.cell? ⟨b, o + k * 5 + 3, none⟩ = some (.bool l[k].2.2.2.1) ∧ wr.cell? ⟨b, o + k * 5 + 4, none⟩ = some (.int .i64 l[k].2.2.2.2) := by
  have g : ∀ i v, (encSpace l[k])[i]? = some v → wr.cell? ⟨b, o + k * 5 + i, none⟩ = some v := fun i v hv => by
    have h0 := hc k h i v hv
    rw [hb.cell (by have := World.block_lt_of_cell? w _ h0; simpa using this)]
    exact h0
  exact ⟨g 0 _ rfl, g 1 _ rfl, g 2 _ rfl, g 3 _ rfl, g 4 _ rfl⟩










end Go.Proofs.YthbhgeifknkolaaDoor
