import Derived.Test.YteejabpohnfoaaaDoorTrim
/- MemTrim of the program. -/
namespace Go.Proofs.YteejabpohnfoaaaDoor
open Go Go.RowKit

theorem hid_zero {l : List EntryD} {floor : Int} {k : Nat} (h : k = 0) : hidB l k floor = false := by subst h; simp [hidB]
theorem hid_succ {l : List EntryD} {floor : Int} {k m : Nat} (hk : k < l.length) (hm : k = m + 1) : hidB l k floor = (decide ((l[m]'(by omega)).1 = l[k].1) && decide ((l[m]'(by omega)).2.1 ≤ floor)) := by
  subst hm
  simp [hidB, List.getElem?_eq_getElem (show m < l.length by omega), List.getElem?_eq_getElem hk]

theorem own_drewN {w : World} {base : Nat} {e : TypeId} {m : Nat} {v : Value} {n : Nat} {xs : List Value} (h : w.ownsRow base e m v n xs) (q : Nat) : (w.drewN q).ownsRow base e m v n xs := own_below h (bel_drewN (Below.refl _ _) q)
theorem cellsNew3 (w : World) (o : Obj) (n : Nat) (cs : List Value) (e : TypeId) : ∀ j u, cs[j]? = some u → (((w.alloc o).drewN n).alloc (.cells cs.toArray e)).cell? ((⟨w.heap.size + 1, 0, none⟩ : Addr).add j) = some u := by
  have h := cellsNew ((w.alloc o).drewN n) cs e
  simpa using h

theorem trimV_len (l : List EntryD) (floor : Int) (bottom : Bool) : (trimV l floor bottom).length ≤ 240 := by
  unfold trimV
  split
  · next h =>
    have h1 := trimTo_len l floor bottom l.length (Nat.le_refl _)
    have h2 := (entsB_at h).1
    unfold trimL; omega
  · simp
theorem trimV_mem {l : List EntryD} {floor : Int} {bottom : Bool} {x : EntryD} (h : x ∈ trimV l floor bottom) : x ∈ l := by
  unfold trimV at h
  split at h
  · unfold trimL trimTo at h
    rw [List.mem_flatMap] at h
    obtain ⟨j, hj, hx⟩ := h
    split at hx
    · rw [Option.mem_toList] at hx
      exact List.mem_of_getElem? hx
    · simp at hx
  · simp at h
end Go.Proofs.YteejabpohnfoaaaDoor
