import Derived.Test.YthbhgeifknkolaaDoorStrOrd
import Derived.Test.YthbhgeifknkolaaDoorName
import Derived.Test.YthbhgeifknkolaaDoorApp
import Derived.Test.YthbhgeifknkolaaDoorShape
import Derived.RangeFuncBox
import Derived.WalkSpells
import Derived.WalkSmall
import Derived.Lib.SliceRun
import Derived.Deep.QuietTactic
import Derived.BigQuiet
/- A set of marks, in order; copies of lists of texts. -/
namespace Go.Proofs.YthbhgeifknkolaaDoor
open Go Go.RowKit

theorem infoStrO : (Tryd.prog.info? 9).map (fun i => (i.zero, i.size, i.bytes)) = some (some (.string ⟨#[]⟩), 1, 16) := by kernel_rfl
def ClonePost (w : World) (l : List ByteArray) (e : Ending) (w' : World) : Prop := ∃ v, e = .returned v ∧ w'.ownsRow w.heap.size 9 1 v l.length (l.map .string) ∧ Below w.heap.size w w'
attribute [local go_sem] run_geqS
/-- an ordered set of texts of one's own -/
def OrdPost (w : World) (l : List ByteArray) (e : Ending) (w' : World) : Prop :=
  (ascTo l l.length = false ∧ e = .returned (.tuple #[.agg #[.slice none 0 0], .bool false]) ∧ Below w.heap.size w w') ∨
  (ascTo l l.length = true ∧ ∃ v, e = .returned (.tuple #[.agg #[v], .bool true]) ∧ w'.ownsRow w.heap.size 9 1 v l.length (l.map .string) ∧ Below w.heap.size w w')
theorem ascTo_one (l : List ByteArray) : ascTo l (min 1 l.length) = true := by
  rcases Nat.eq_zero_or_pos l.length with h | h
  · rw [h]; rfl
  · rw [Nat.min_eq_left h]; rfl

end Go.Proofs.YthbhgeifknkolaaDoor
