import Derived.Test.YtfekpbkcidhbfaaDoorHashI
import Derived.Lib.LaidTab
/- What the laid tables give. -/
namespace Go.Proofs.YtfekpbkcidhbfaaDoor
open Go Go.RowKit

theorem tab_range {P : Program} {W : World} {name : String} {k : IntKind} {zs : List Int} {g : Nat} (h : Lib.TabIs P W name k zs) (hg : P.globalNamed name = some g) : W.rangeAt g 0 (zs.map (Value.int k)) := fun j v hv => by
  have hj : j < zs.length := by simpa using (List.getElem?_eq_some_iff.1 hv).1
  rw [Nat.zero_add, h.cell hg j hj, ← hv]
  simp [List.getD, List.getElem?_eq_getElem hj]
def beginTab : List Int := [1779033703, 3144134277, 1013904242, 2773480762, 1359893119, 2600822924, 528734635, 1541459225]
def roundsTab : List Int := K64.map fun x => (x.toNat : Int)
theorem hashT_of {W : World} (h1 : Lib.TabIs Tryd.prog W "loop.example/muniment/impl.hashBegin" .u32 beginTab) (h2 : Lib.TabIs Tryd.prog W "loop.example/muniment/impl.hashRounds" .u32 roundsTab) : HashT W := by
  refine ⟨?_, ?_⟩
  · have := tab_range h1 (g := 0) (by kernel_rfl)
    exact this
  · have := tab_range h2 (g := 3) (by kernel_rfl)
    unfold roundsTab at this
    rw [List.map_map] at this
    exact this
end Go.Proofs.YtfekpbkcidhbfaaDoor
