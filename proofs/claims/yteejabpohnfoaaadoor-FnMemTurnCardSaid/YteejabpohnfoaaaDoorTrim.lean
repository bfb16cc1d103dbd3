import Derived.Test.YteejabpohnfoaaaDoorGetJ
import Derived.Test.YteejabpohnfoaaaDoorShape
import Derived.OwnWalk
import Derived.Laws.OwnMore
/- MemTrim of the specification. -/
namespace Go.Proofs.YteejabpohnfoaaaDoor
open Go Go.RowKit

theorem cellsNew (w : World) (cs : List Value) (e : TypeId) : ∀ j u, cs[j]? = some u → (w.alloc (.cells cs.toArray e)).cell? ((⟨w.heap.size, 0, none⟩ : Addr).add j) = some u := by
  intro j u h
  rw [addr_add, Nat.zero_add]
  exact (Box.alloc w cs.toArray e j u (by simpa using h)).1
theorem cellsNew2 (w : World) (o : Obj) (cs : List Value) (e : TypeId) : ∀ j u, cs[j]? = some u → ((w.alloc o).alloc (.cells cs.toArray e)).cell? ((⟨w.heap.size + 1, 0, none⟩ : Addr).add j) = some u := by
  have h := cellsNew (w.alloc o) cs e
  simpa using h
theorem lastOk_zero (l : List EntryD) (floor : Int) : lastOk l floor 0 ⟨#[]⟩ := by simp [lastOk]
theorem entB_key {e : EntryD} (h : entB e = true) : e.1 ≠ ⟨#[]⟩ := by
  intro q
  have : e = (e.1, e.2.1, e.2.2.1, e.2.2.2) := rfl
  rw [this, entB_eq, q] at h
  simp only [Bool.and_eq_true, keyB, inB, decide_eq_true_eq] at h
  have h1 := h.1.1.1.2.1
  exact absurd h1 (by decide)
theorem ents_ne {l : List EntryD} (h : entsB l = true) : ∀ j (hj : j < l.length), l[j].1 ≠ ⟨#[]⟩ := fun j hj => entB_key ((entsB_at h).2.1 j hj)
theorem trim_skip {l : List EntryD} {floor : Int} {bottom : Bool} {k : Nat} (h : k < l.length) (hk : keepB l floor bottom k = false) : trimTo l floor bottom (k + 1) = trimTo l floor bottom k := by
  rw [trimTo_succ l floor bottom k h, hk]; simp
theorem trim_take {l : List EntryD} {floor : Int} {bottom : Bool} {k : Nat} (h : k < l.length) (hk : keepB l floor bottom k = true) : trimTo l floor bottom (k + 1) = trimTo l floor bottom k ++ [l[k]] := by
  rw [trimTo_succ l floor bottom k h, hk]; simp
theorem keepB_eq {l : List EntryD} {floor : Int} {bottom : Bool} {k : Nat} (h : k < l.length) : keepB l floor bottom k = (!hidB l k floor && !(bottom && l[k].2.2.1 && decide (l[k].2.1 ≤ floor))) := by
  simp [keepB, List.getElem?_eq_getElem h]
theorem enc_len (l : List EntryD) : (l.flatMap encEntry).length = l.length * 4 := flat_len encEntry_len l

/-- what MemTrim answers, of entries that may be not ok -/
def trimV (l : List EntryD) (floor : Int) (bottom : Bool) : List EntryD := if entsB l = true then trimL l floor bottom else []
theorem trimV_no {l : List EntryD} {floor : Int} {bottom : Bool} (h : entsB l = false) : trimV l floor bottom = [] := by unfold trimV; rw [h]; rfl
theorem trimV_yes {l : List EntryD} {floor : Int} {bottom : Bool} (h : entsB l = true) : trimV l floor bottom = trimL l floor bottom := by unfold trimV; rw [if_pos h]

/-- A list of entries that a call hands back, in memory of its own. -/
def OwnE (w : World) (L : List EntryD) (e : Ending) (w' : World) : Prop := ∃ v, e = .returned v ∧ w'.ownsRow w.heap.size 31 4 v L.length (L.flatMap encEntry) ∧ Below w.heap.size w w'

end Go.Proofs.YteejabpohnfoaaaDoor
