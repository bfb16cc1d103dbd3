import Derived.Test.YtgjfflfldddebaaDoorProg
import Derived.Test.YtgjfflfldddebaaDoorOpen
/- How an argument that is a list of strings is opened. -/
namespace Go.Proofs.YtgjfflfldddebaaDoor
open Go Go.RowKit Go.ChangeShapes Go.WideShapes

set_option maxRecDepth 100000 in
theorem open_strsV {H : Type} {enc : TypeId × Value → H} {w : World} {r : Reach} {b0 : Nat} {v : Value} {d : DataW H} {p : List MemPlace} (hv : Value.okWide Tryd.prog w r b0 25 v) (h : DataW.Trod enc Tryd.prog w 0 (fun _ => true) true 25 v d p) :
    ∃ a l c, v = .slice a (List.length l) c ∧ StrS w a l := by
  obtain ⟨a0, len0, cap0, rfl⟩ := okWide_slice Tryd.underlying25 hv
  obtain ⟨fuel, hf⟩ := h
  obtain ⟨a, l, c, e, hs⟩ := open_strS Tryd.underlying25 Tryd.underlying9 (by kernel_rfl) hf
  simp [Value.cells] at e
  obtain ⟨rfl, rfl, rfl⟩ := e
  exact ⟨_, l, _, rfl, hs⟩
end Go.Proofs.YtgjfflfldddebaaDoor
