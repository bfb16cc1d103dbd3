import Derived.Test.YtgjfflfldddebaaReqOk0
import Derived.Test.YtgjfflfldddebaaReqOk1
import Derived.Test.YtgjfflfldddebaaReqOk2
import Derived.Test.YtgjfflfldddebaaReqOk3
import Derived.Test.YtgjfflfldddebaaReqOk4
import Derived.Test.YtgjfflfldddebaaReqOk5
import Derived.Test.YtgjfflfldddebaaReqOk6
import Derived.Test.YtgjfflfldddebaaReqOk7
import Derived.Test.YtgjfflfldddebaaReqOk8
import Derived.Test.YtgjfflfldddebaaReqOk9
import Derived.Test.YtgjfflfldddebaaReqOk10
import Derived.Test.YtgjfflfldddebaaReqOk11
import Derived.Test.YtgjfflfldddebaaReqOk12
/- ReqOk of the program, at every request. -/
namespace Go.Proofs.Ytgjfflfldddebaa
open Go Go.RowKit
/-- is a request ok -/
def reqB (k : Int) (sp nm : ByteArray) (n : Int) (tx : ByteArray) : Bool :=
  if k = 1 then (((nameB sp.data.toList && nameB nm.data.toList) && inB n (-1) 99999) && decide (tx = ⟨#[]⟩))
  else if k = 2 then ((nameB sp.data.toList && inB n (-1) 99999) && decide (nm = ⟨#[]⟩ ∧ tx = ⟨#[]⟩))
  else if k = 3 then ((nameB sp.data.toList) && decide (nm = ⟨#[]⟩ ∧ n = 0 ∧ tx = ⟨#[]⟩))
  else if k = 4 then (((nameB sp.data.toList && nameB nm.data.toList) && bodyB1 tx) && decide (n = 0))
  else if k = 5 then ((((nameB sp.data.toList && nameB nm.data.toList) && inB n (0) 99999) && bodyB1 tx) && decide (True))
  else if k = 6 then (((nameB sp.data.toList && nameB nm.data.toList) && nameB tx.data.toList) && decide (n = 0))
  else if k = 7 then (((nameB sp.data.toList && nameB nm.data.toList) && nameB tx.data.toList) && decide (n = 0))
  else if k = 8 then ((nameB sp.data.toList && nameB nm.data.toList) && decide (n = 0 ∧ tx = ⟨#[]⟩))
  else if k = 9 then ((nameB sp.data.toList && nameB nm.data.toList) && decide (n = 0 ∧ tx = ⟨#[]⟩))
  else if k = 10 then ((nameB sp.data.toList) && decide (nm = ⟨#[]⟩ ∧ n = 0 ∧ tx = ⟨#[]⟩))
  else if k = 11 then ((nameB sp.data.toList && inB n (0) 99999) && decide (nm = ⟨#[]⟩ ∧ tx = ⟨#[]⟩))
  else if k = 12 then decide (sp = ⟨#[]⟩ ∧ nm = ⟨#[]⟩ ∧ n = 0 ∧ tx = ⟨#[]⟩)
  else false
theorem reqB_out {k : Int} (hk : k < 1 ∨ 12 < k) (sp nm : ByteArray) (n : Int) (tx : ByteArray) : reqB k sp nm n tx = false := by
  unfold reqB
  rw [if_neg (show ¬ k = 1 by omega)]
  rw [if_neg (show ¬ k = 2 by omega)]
  rw [if_neg (show ¬ k = 3 by omega)]
  rw [if_neg (show ¬ k = 4 by omega)]
  rw [if_neg (show ¬ k = 5 by omega)]
  rw [if_neg (show ¬ k = 6 by omega)]
  rw [if_neg (show ¬ k = 7 by omega)]
  rw [if_neg (show ¬ k = 8 by omega)]
  rw [if_neg (show ¬ k = 9 by omega)]
  rw [if_neg (show ¬ k = 10 by omega)]
  rw [if_neg (show ¬ k = 11 by omega)]
  rw [if_neg (show ¬ k = 12 by omega)]

theorem implReqOk_any {k : Int} {sp nm tx : ByteArray} {n : Int} (hs : sp.size ≤ maxLen) (hn : nm.size ≤ maxLen) (ht : tx.size ≤ maxLen) (w : World) : Calls Try.prog 13 #[.agg #[.int .i64 k, .string sp, .string nm, .int .i64 n, .string tx]] w fun e w' => e = .returned (.bool (reqB k sp nm n tx)) ∧ Below w.heap.size w w' := by
  by_cases hk : k < 1 ∨ 12 < k
  · rw [reqB_out hk]
    exact okReq0 hk w
  have h : k = 1 ∨ k = 2 ∨ k = 3 ∨ k = 4 ∨ k = 5 ∨ k = 6 ∨ k = 7 ∨ k = 8 ∨ k = 9 ∨ k = 10 ∨ k = 11 ∨ k = 12 := by omega
  rcases h with rfl | rfl | rfl | rfl | rfl | rfl | rfl | rfl | rfl | rfl | rfl | rfl
  · exact okReq1 hs hn rfl rfl w
  · exact okReq2 hs rfl rfl w
  · exact okReq3 hs rfl rfl w
  · exact okReq4 hs hn ht rfl rfl w
  · exact okReq5 hs hn ht rfl rfl w
  · exact okReq6 hs hn ht rfl rfl w
  · exact okReq7 hs hn ht rfl rfl w
  · exact okReq8 hs hn rfl rfl w
  · exact okReq9 hs hn rfl rfl w
  · exact okReq10 hs rfl rfl w
  · exact okReq11 hs rfl rfl w
  · exact okReq12 rfl w
end Go.Proofs.Ytgjfflfldddebaa
