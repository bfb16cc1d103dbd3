import Derived.Test.YteejabpohnfoaaaDoorScanP
import Derived.WalkSpells
/- MemScan of the specification; how a text begins. -/
namespace Go.Proofs.YteejabpohnfoaaaDoor
open Go Go.RowKit

theorem starts_cut {s pre : ByteArray} : ((s.extract 0 pre.size).toList == pre.toList) = startsB s pre := by
  rw [ByteArray.toList_eq, ByteArray.toList_eq, Lib.extract_data]
  by_cases h : s.data.toList.take pre.size = pre.data.toList <;> simp [startsB, h]
theorem starts_short {s pre : ByteArray} (h : ¬ pre.size ≤ s.size) : startsB s pre = false := by
  unfold startsB
  rw [decide_eq_false_iff_not]
  intro e
  have := congrArg List.length e
  simp at this
  omega

theorem flat_snoc {l : List EntryD} (e : EntryD) : (l ++ [e]).flatMap encEntry = l.flatMap encEntry ++ encEntry e := by rw [List.flatMap_append]; simp

/-- what is told ahead of the rest -/
theorem scan_step_no {pre : ByteArray} {seq : Int} {told : ByteArray} {l out : List EntryD} {k : Nat} (hk : k < l.length) (h : (decide (seq < l[k].2.1) || decide (l[k].1 = told) || !startsB l[k].1 pre) = true)
    (he : out ++ scanR pre seq told (l.drop k) = scanR pre seq ⟨#[]⟩ l) : out ++ scanR pre seq told (l.drop (k + 1)) = scanR pre seq ⟨#[]⟩ l := by
  rw [List.drop_eq_getElem_cons hk, scan_no h] at he; exact he
theorem scan_step_dead {pre : ByteArray} {seq : Int} {told : ByteArray} {l out : List EntryD} {k : Nat} (hk : k < l.length) (h : (decide (seq < l[k].2.1) || decide (l[k].1 = told) || !startsB l[k].1 pre) = false) (hd : l[k].2.2.1 = true)
    (he : out ++ scanR pre seq told (l.drop k) = scanR pre seq ⟨#[]⟩ l) : out ++ scanR pre seq l[k].1 (l.drop (k + 1)) = scanR pre seq ⟨#[]⟩ l := by
  rw [List.drop_eq_getElem_cons hk, scan_yes (by rw [h]; exact Bool.false_ne_true), if_pos hd] at he; exact he
theorem scan_step_live {pre : ByteArray} {seq : Int} {told : ByteArray} {l out : List EntryD} {k : Nat} (hk : k < l.length) (h : (decide (seq < l[k].2.1) || decide (l[k].1 = told) || !startsB l[k].1 pre) = false) (hd : l[k].2.2.1 = false)
    (he : out ++ scanR pre seq told (l.drop k) = scanR pre seq ⟨#[]⟩ l) : (out ++ [l[k]]) ++ scanR pre seq l[k].1 (l.drop (k + 1)) = scanR pre seq ⟨#[]⟩ l := by
  rw [List.drop_eq_getElem_cons hk, scan_yes (by rw [h]; exact Bool.false_ne_true), if_neg (by rw [hd]; exact Bool.false_ne_true)] at he
  rw [List.append_assoc]; exact he

end Go.Proofs.YteejabpohnfoaaaDoor
