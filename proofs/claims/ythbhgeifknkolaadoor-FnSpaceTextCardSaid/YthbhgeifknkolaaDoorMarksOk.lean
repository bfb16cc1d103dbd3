import Derived.Test.YthbhgeifknkolaaDoorOrdSet
import Derived.Test.YthbhgeifknkolaaDoorIn
/- Marks and bodies: what may be one. -/
namespace Go.Proofs.YthbhgeifknkolaaDoor
open Go Go.RowKit

def allNames (l : List ByteArray) (k : Nat) : Bool := (l.take k).all fun s => nameB s.data.toList
theorem allNames_succ {l : List ByteArray} {k : Nat} (h : k < l.length) : allNames l (k + 1) = (allNames l k && nameB l[k].data.toList) := by
  unfold allNames; rw [List.take_succ_eq_append_getElem h, List.all_append]; simp
theorem allNames_no {l : List ByteArray} {k : Nat} (h : k < l.length) (hn : nameB l[k].data.toList = false) : allNames l l.length = false := by
  unfold allNames
  rw [List.take_length, List.all_eq_false]
  exact ⟨_, List.getElem_mem h, by rw [hn]; simp⟩
def IdxPost (w : World) (l : List ByteArray) (e : Ending) (w' : World) : Prop := ∃ q : Int, e = .returned (.int .i64 q) ∧ -1 ≤ q ∧ q ≤ 1048576 ∧ (0 ≤ q ↔ allNames l l.length = false) ∧ w = w'

end Go.Proofs.YthbhgeifknkolaaDoor
