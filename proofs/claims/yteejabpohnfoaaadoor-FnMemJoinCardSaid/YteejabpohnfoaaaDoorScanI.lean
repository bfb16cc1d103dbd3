import Derived.Test.YteejabpohnfoaaaDoorScanS
import Derived.Test.YteejabpohnfoaaaDoorKept
import Derived.RangeFuncBox
import Derived.RangeFuncLeaves
import Derived.Shelf.Abstract
import Derived.OwnWalkIn
import Derived.TacticsInMore
import Derived.LoopNIn
import Derived.LoopIn
import Derived.Maps.AppendAt
/- What each key has, told one by one: the program's iterator. -/
namespace Go.Proofs.YteejabpohnfoaaaDoor
open Go Go.RowKit Go.Shelf

attribute [local go_sem] Oper.semAt_some

def encA (x : EntryD) : Array Value := #[.agg #[.string x.1, .int .i64 x.2.1, .bool x.2.2.1, .string x.2.2.2]]

theorem seen_step_no {seq : Int} {told : ByteArray} {l out : List EntryD} {k : Nat} (hk : k < l.length) (h : (decide (seq < l[k].2.1) || decide (l[k].1 = told)) = true)
    (he : out ++ seenR seq told (l.drop k) = seenR seq ⟨#[]⟩ l) : out ++ seenR seq told (l.drop (k + 1)) = seenR seq ⟨#[]⟩ l := by
  rw [List.drop_eq_getElem_cons hk, seen_no h] at he; exact he
theorem seen_step_dead {seq : Int} {told : ByteArray} {l out : List EntryD} {k : Nat} (hk : k < l.length) (h : (decide (seq < l[k].2.1) || decide (l[k].1 = told)) = false) (hd : l[k].2.2.1 = true)
    (he : out ++ seenR seq told (l.drop k) = seenR seq ⟨#[]⟩ l) : out ++ seenR seq l[k].1 (l.drop (k + 1)) = seenR seq ⟨#[]⟩ l := by
  rw [List.drop_eq_getElem_cons hk, seen_yes (by rw [h]; exact Bool.false_ne_true), if_pos hd] at he; exact he
theorem seen_step_live {seq : Int} {told : ByteArray} {l out : List EntryD} {k : Nat} (hk : k < l.length) (h : (decide (seq < l[k].2.1) || decide (l[k].1 = told)) = false) (hd : l[k].2.2.1 = false)
    (he : out ++ seenR seq told (l.drop k) = seenR seq ⟨#[]⟩ l) : (out ++ [l[k]]) ++ seenR seq l[k].1 (l.drop (k + 1)) = seenR seq ⟨#[]⟩ l := by
  rw [List.drop_eq_getElem_cons hk, seen_yes (by rw [h]; exact Bool.false_ne_true), if_neg (by rw [hd]; exact Bool.false_ne_true)] at he
  rw [List.append_assoc]; exact he

theorem cellsEntryK {T : Nat → Prop} {w wr : World} {b o : Nat} {l : List EntryD} (hb : KeptOut T w wr) (hT : ¬ T b) (hc : ∀ j, (h : j < l.length) → ∀ i v, (encEntry l[j])[i]? = some v → w.cell? ⟨b, o + j * 4 + i, none⟩ = some v) (k : Nat) (h : k < l.length) :
    wr.cell? ⟨b, o + k * 4, none⟩ = some (.string l[k].1) ∧ wr.cell? ⟨b, o + k * 4 + 1, none⟩ = some (.int .i64 l[k].2.1) ∧ wr.cell? ⟨b, o + k * 4 + 2, none⟩ = some (.bool l[k].2.2.1) ∧ wr.cell? ⟨b, o + k * 4 + 3, none⟩ = some (.string l[k].2.2.2) := by
  have g : ∀ i v, (encEntry l[k])[i]? = some v → wr.cell? ⟨b, o + k * 4 + i, none⟩ = some v := fun i v hv => by
    have h0 := hc k h i v hv
    rw [hb.cell (by have := World.block_lt_of_cell? w _ h0; simpa using this) hT]
    exact h0
  exact ⟨g 0 _ rfl, g 1 _ rfl, g 2 _ rfl, g 3 _ rfl⟩

end Go.Proofs.YteejabpohnfoaaaDoor
