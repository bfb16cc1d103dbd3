import Derived.Test.YtgjfflfldddebaaReqS
import Derived.Test.YtgjfflfldddebaaReqK
import Derived.Deep.Cut
import Derived.BigFrame
/- spec.ReqOk: what its walks share. -/
namespace Go.Proofs.Ytgjfflfldddebaa
open Go Go.RowKit
theorem nmRs_is {s : ByteArray} (hs : s.size ≤ maxLen) {q : Bool} (h : nameB s.data.toList = q) (w : World) : Calls Try.prog 38 #[.string s] w fun e w' => e = .returned (.bool q) ∧ w = w' := by
  subst h
  exact spec_name s w hs
theorem bodyRs_is {s : ByteArray} (hs : s.size ≤ maxLen) {q : Bool} (h : bodyB1 s = q) (w : World) : Calls Try.prog 39 #[.string s] w fun e w' => e = .returned (.bool q) ∧ w = w' := by
  subst h
  exact specBody_any s w hs
theorem bodyRs_no : bodyB1 ⟨#[]⟩ = true := by decide
theorem neRs {s : ByteArray} (h : s ≠ ⟨#[]⟩) : s.toList.isEmpty = false := by
  rw [List.isEmpty_eq_false_iff]
  intro e
  exact h (tl_inj.1 (e.trans (by rw [ByteArray.toList_eq])))
end Go.Proofs.Ytgjfflfldddebaa
