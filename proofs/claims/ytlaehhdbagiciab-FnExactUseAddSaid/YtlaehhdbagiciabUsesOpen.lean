import Derived.Test.YtlaehhdbagiciabUse
import Derived.Test.YtlaehhdbagiciabOpen
/- How an argument that is a list of uses is opened. -/
namespace Go.Proofs.Ytlaehhdbagiciab
open Go Go.RowKit Go.ChangeShapes Go.WideShapes

set_option maxRecDepth 100000 in
theorem open_usesV {H : Type} {enc : TypeId × Value → H} {w : World} {r : Reach} {b0 : Nat} {v : Value} {d : DataW H} {p : List MemPlace} (hv : Value.okWide Try.prog w r b0 34 v) (h : DataW.Trod enc Try.prog w 0 (fun _ => true) true 34 v d p) :
    ∃ a l c, v = .slice a (List.length l) c ∧ ElS 2 encUse w a l ∧ ∀ x ∈ l, OkUse x := by
  obtain ⟨a0, len0, cap0, rfl⟩ := okWide_slice Try.underlying34 hv
  obtain ⟨fuel, hf⟩ := h
  obtain ⟨a, l, c, e, hs, hok⟩ := open_elS encUse_len (by decide) Try.underlying34 (by kernel_rfl) openUse hf
  simp [Value.cells] at e
  obtain ⟨rfl, rfl, rfl⟩ := e
  exact ⟨_, l, _, rfl, hs, hok⟩
end Go.Proofs.Ytlaehhdbagiciab
