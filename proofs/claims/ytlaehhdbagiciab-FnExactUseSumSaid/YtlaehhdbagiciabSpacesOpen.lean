import Derived.Test.YtlaehhdbagiciabSpace
import Derived.Test.YtlaehhdbagiciabOpen
/- How an argument that is a list of spaces is opened. -/
namespace Go.Proofs.Ytlaehhdbagiciab
open Go Go.RowKit Go.ChangeShapes Go.WideShapes

set_option maxRecDepth 100000 in
theorem open_spacesV {H : Type} {enc : TypeId × Value → H} {w : World} {r : Reach} {b0 : Nat} {v : Value} {d : DataW H} {p : List MemPlace} (hv : Value.okWide Try.prog w r b0 22 v) (h : DataW.Trod enc Try.prog w 0 (fun _ => true) true 22 v d p) :
    ∃ a l c, v = .slice a (List.length l) c ∧ ElS 5 encSpace w a l ∧ ∀ x ∈ l, OkSpace x := by
  obtain ⟨a0, len0, cap0, rfl⟩ := okWide_slice Try.underlying22 hv
  obtain ⟨fuel, hf⟩ := h
  obtain ⟨a, l, c, e, hs, hok⟩ := open_elS encSpace_len (by decide) Try.underlying22 (by kernel_rfl) openSpace hf
  simp [Value.cells] at e
  obtain ⟨rfl, rfl, rfl⟩ := e
  exact ⟨_, l, _, rfl, hs, hok⟩
end Go.Proofs.Ytlaehhdbagiciab
