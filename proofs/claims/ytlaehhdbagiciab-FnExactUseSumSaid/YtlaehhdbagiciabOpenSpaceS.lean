import Derived.Test.YtlaehhdbagiciabKitSpaceS
import Derived.Test.YtlaehhdbagiciabSpacesOpen
/- How an argument that is a list of spaces is seen. -/
namespace Go.Proofs.Ytlaehhdbagiciab
open Go Go.RowKit Go.ChangeShapes Go.WideShapes

set_option maxRecDepth 100000 in
theorem openSpaceS {H : Type} {enc : TypeId × Value → H} {w : World} {r : Reach} {b0 : Nat} {v : Value} {d : DataW H} {p : List MemPlace} (hv : Value.okWide Try.prog w r b0 22 v) (h : DataW.Trod enc Try.prog w 0 (fun _ => true) true 22 v d p) : ∃ l, VwSpaceS w v l := by
  obtain ⟨a, l, c, e, hl, hok⟩ := open_spacesV hv h
  exact ⟨l, a, c, e, hl, hok⟩
end Go.Proofs.Ytlaehhdbagiciab
