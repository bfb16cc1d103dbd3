import Derived.Test.YtfekpbkcidhbfaaDoorEntry
import Derived.Test.YtfekpbkcidhbfaaDoorOpen
/- How an argument that is a list of entries is opened. -/
namespace Go.Proofs.YtfekpbkcidhbfaaDoor
open Go Go.RowKit Go.ChangeShapes Go.WideShapes

set_option maxRecDepth 100000 in
theorem open_entsV {H : Type} {enc : TypeId × Value → H} {w : World} {r : Reach} {b0 : Nat} {v : Value} {d : DataW H} {p : List MemPlace} (hv : Value.okWide Tryd.prog w r b0 22 v) (h : DataW.Trod enc Tryd.prog w 0 (fun _ => true) true 22 v d p) :
    ∃ a l c, v = .slice a (List.length l) c ∧ ElS 4 encEntry w a l ∧ ∀ x ∈ l, OkEntry x := by
  obtain ⟨a0, len0, cap0, rfl⟩ := okWide_slice Tryd.underlying22 hv
  obtain ⟨fuel, hf⟩ := h
  obtain ⟨a, l, c, e, hs, hok⟩ := open_elS encEntry_len (by decide) Tryd.underlying22 (by kernel_rfl) openEntry hf
  simp [Value.cells] at e
  obtain ⟨rfl, rfl, rfl⟩ := e
  exact ⟨_, l, _, rfl, hs, hok⟩
end Go.Proofs.YtfekpbkcidhbfaaDoor
