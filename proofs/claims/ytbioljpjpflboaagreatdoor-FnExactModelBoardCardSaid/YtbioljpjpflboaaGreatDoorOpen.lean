import Derived.Test.YtbioljpjpflboaaGreatDoorBase
import Derived.ProofKit
import Derived.OpenShut
import Derived.ShutString
import Derived.SliceStrings
import Derived.Deep.Slices
import Derived.Lib.SmallJoins
/- How arguments of the laws are opened: a list of strings, a list of flat structs. -/
namespace Go.Proofs.YtbioljpjpflboaaGreatDoor
open Go Go.RowKit Go.Deep Go.ChangeShapes Go.WideShapes
section
variable {H : Type} {enc : TypeId × Value → H} {P : Program} {w : World}

theorem add_spot {a : Addr} {v : Value} (h : w.cell? (a.add 0) = some v) : a.spot = none := by
  have hs := World.cell?_spot h
  simpa [Addr.add] using hs
theorem add_at {a : Addr} {j : Nat} {v : Value} (hsp : a.spot = none) (h : w.cell? (a.add j) = some v) : w.cell? ⟨a.block, a.off + j, none⟩ = some v := by
  obtain ⟨b, o, sp⟩ := a
  simp only at hsp
  subst hsp
  rwa [addr_add] at h

theorem open_strS {t e : TypeId} {fuel : Nat} {cs : List Value} {x : DataW H × List MemPlace} (ht : P.underlying t = some (.slice e)) (he : P.underlying e = some .string) (hc : P.cellsOf e = 1)
    (h : DataW.trod enc P w 0 (fun _ => true) true fuel t cs = some x) : ∃ a l c, cs = [.slice a (List.length l) c] ∧ StrS w a l := by
  rcases open_strings ht he hc h with ⟨hcs, _⟩ | ⟨a, len, cap, ss, hcs, _, hl, hm, hlen, _, hcell, hz⟩
  · exact ⟨none, [], 0, hcs, by simp [maxLen], by simp, .inl rfl⟩
  · simp only [if_true] at hlen
    have hln : (ss.take len).length = len := by rw [List.length_take]; omega
    refine ⟨some a, ss.take len, cap, by rw [hcs, hln], by rw [hln]; omega, fun s hs => hz s (List.mem_of_mem_take hs), ?_⟩
    by_cases h0 : len = 0
    · exact .inl (by rw [h0]; rfl)
    · have hsp := add_spot (hcell 0 (by omega))
      refine .inr ⟨a.block, a.off, ?_, fun j hj => ?_⟩
      · obtain ⟨b, o, sp⟩ := a
        simp only at hsp
        rw [hsp]
      · rw [hln] at hj
        have := add_at hsp (hcell j (by omega))
        rw [this]
        simp [List.getD, List.getElem?_eq_getElem (show j < ss.length by omega)]

theorem open_elS {α : Type} [Inhabited α] {m : Nat} {en : α → List Value} {Ok : α → Prop} (hm : ∀ x, (en x).length = m) (hm0 : 0 < m) {t e : TypeId} {fuel : Nat} {cs : List Value} {x : DataW H × List MemPlace} (ht : P.underlying t = some (.slice e)) (hc : P.cellsOf e = m)
    (hel : ∀ n cs y, DataW.trod enc P w 0 (fun _ => true) true n e cs = some y → ∃ x : α, cs = en x ∧ Ok x)
    (h : DataW.trod enc P w 0 (fun _ => true) true fuel t cs = some x) : ∃ a l c, cs = [.slice a (List.length l) c] ∧ ElS m en w a l ∧ ∀ x ∈ l, Ok x := by
  rcases open_slice ht h with ⟨hcs, _⟩ | ⟨a, len, cap, m', n, D, Pl, hcs, _, hl, hmx, hmm, _, hi⟩
  · exact ⟨none, [], 0, hcs, ⟨by simp [maxLen], .inl rfl⟩, by simp⟩
  · simp only [if_true] at hmm
    rw [hc] at hi
    obtain ⟨f, hf⟩ := choose_lt (α := α) (n := len) (p := fun i x => w.cells? 0 (a.add (i * m)) m = some (en x) ∧ Ok x) (fun i hil => by
      obtain ⟨cs', h1, h2⟩ := hi i (by omega)
      obtain ⟨x, rfl, hx⟩ := hel _ _ _ h2
      exact ⟨x, h1, hx⟩)
    have hln : ((List.range len).map f).length = len := by simp
    have hat : ∀ j, j < len → ∀ i v, (en (f j))[i]? = some v → w.cell? (a.add (j * m + i)) = some v := by
      intro j hj i v hv
      have hil : i < m := by rw [← hm (f j)]; exact (List.getElem?_eq_some_iff.1 hv).1
      have h1 := (World.cells?_some (hf j hj).1).2.2 i hil
      rw [hv, add_add] at h1
      exact h1
    refine ⟨some a, (List.range len).map f, cap, by rw [hcs, hln], ⟨by rw [hln]; omega, ?_⟩, ?_⟩
    · by_cases h0 : len = 0
      · exact .inl (by rw [h0]; rfl)
      · have hl0 : 0 < (en (f 0)).length := by rw [hm]; exact hm0
        have hsp := add_spot (by simpa using hat 0 (by omega) 0 _ (List.getElem?_eq_getElem hl0))
        refine .inr ⟨a.block, a.off, ?_, fun j hj i v hv => ?_⟩
        · obtain ⟨b, o, sp⟩ := a
          simp only at hsp
          rw [hsp]
        · rw [hln] at hj
          simp only [List.getElem_map, List.getElem_range] at hv
          rw [show a.off + j * m + i = a.off + (j * m + i) by omega]
          exact add_at hsp (hat j hj i v hv)
    · intro x hx
      simp only [List.mem_map, List.mem_range] at hx
      obtain ⟨j, hj, rfl⟩ := hx
      exact (hf j hj).2
end
end Go.Proofs.YtbioljpjpflboaaGreatDoor
