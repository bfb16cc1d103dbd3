import Derived.Test.YtlaehhdbagiciabThs
import Derived.Test.YtlaehhdbagiciabThingOpen
/- How an argument that is a list of things is seen. -/
namespace Go.Proofs.Ytlaehhdbagiciab
open Go Go.RowKit Go.ChangeShapes Go.WideShapes

set_option maxRecDepth 100000 in
theorem openThingS {H : Type} {enc : TypeId × Value → H} {w : World} {r : Reach} {b0 : Nat} {v : Value} {d : DataW H} {p : List MemPlace} (hv : Value.okWide Try.prog w r b0 23 v) (h : DataW.Trod enc Try.prog w 0 (fun _ => true) true 23 v d p) : ∃ l, VwThingS w v l := by
  obtain ⟨a0, len0, cap0, rfl⟩ := okWide_slice Try.underlying23 hv
  obtain ⟨fuel, hf⟩ := h
  obtain ⟨a, l, c, e, hs, hok⟩ := open_elS (Ok := OkX w) encT_len (by decide) Try.underlying23 (by kernel_rfl) (fun n cs y h => by
    obtain ⟨a, c, t, hc, h1, h2⟩ := openThingC n cs y h
    exact ⟨(a, c, t), hc, h1, h2⟩) hf
  simp [Value.cells] at e
  obtain ⟨rfl, rfl, rfl⟩ := e
  exact ⟨thsOf l, _, _, l, rfl, hs, rfl, hok⟩
end Go.Proofs.Ytlaehhdbagiciab
