import Derived.Test.YtgjfflfldddebaaReqR1
import Derived.Test.YtgjfflfldddebaaReqR2
import Derived.Test.YtgjfflfldddebaaReqR3
import Derived.Test.YtgjfflfldddebaaReqR4
import Derived.Test.YtgjfflfldddebaaReqP1
import Derived.Test.YtgjfflfldddebaaReqP2
import Derived.Test.YtgjfflfldddebaaReqP3
import Derived.Test.YtgjfflfldddebaaReqP4
import Derived.Test.YtgjfflfldddebaaReqP5
import Derived.Test.YtgjfflfldddebaaReqP6
import Derived.Test.YtgjfflfldddebaaReqP7
import Derived.Test.YtgjfflfldddebaaReqP8
import Derived.Test.YtgjfflfldddebaaReqP9
import Derived.Test.YtgjfflfldddebaaReqP10
import Derived.Test.YtgjfflfldddebaaReqP11
import Derived.Test.YtgjfflfldddebaaReqN5
import Derived.Test.YtgjfflfldddebaaReqN11
import Derived.Test.YtgjfflfldddebaaReqOkI
/- spec.ReqOk = reqB. -/
namespace Go.Proofs.Ytgjfflfldddebaa
open Go Go.RowKit
theorem nameB_no : nameB (⟨#[]⟩ : ByteArray).data.toList = false := by rfl
theorem inB_0 {n : Int} (h : inB n (-1) 99999 = true) (h0 : 0 ≤ n) : inB n 0 99999 = true := by
  unfold inB at *
  have := of_decide_eq_true h
  exact decide_eq_true (by omega)
theorem inB_no0 {n : Int} (h0 : ¬ 0 ≤ n) : inB n 0 99999 = false := decide_eq_false (by omega)
theorem inB_no1 {n : Int} (h : inB n (-1) 99999 = false) : inB n 0 99999 = false := by
  unfold inB at *
  have := of_decide_eq_false h
  exact decide_eq_false (by omega)
theorem specReq1 {sp nm tx : ByteArray} {n : Int} (hs : sp.size ≤ maxLen) (hn : nm.size ≤ maxLen) (ht : tx.size ≤ maxLen) (w : World) : Calls Try.prog 11 #[.agg #[.int .i64 1, .string sp, .string nm, .int .i64 n, .string tx]] w fun e w' => e = .returned (.bool (reqB 1 sp nm n tx)) ∧ Below w.heap.size w w' := by
  have h1 : inB 1 1 12 = true := by rfl
  by_cases q0 : nameB sp.data.toList = true
  rotate_left
  · rw [show reqB 1 sp nm n tx = false by simp [reqB, q0]]
    exact reqR0 hs h1 (by decide) has1 (by simpa using q0) w
  by_cases e : nm = ⟨#[]⟩
  · subst e
    rw [show reqB 1 sp ⟨#[]⟩ n tx = false by simp [reqB, show nameB [] = false from nameB_no]]
    exact reqR1T hs h1 (by decide) has1 q0 w
  have hx := neRs e
  by_cases q2 : nameB nm.data.toList = true
  rotate_left
  · rw [show reqB 1 sp nm n tx = false by simp [reqB, q2]]
    exact reqR2 hs h1 (by decide) has1 q0 hx hn (by simpa using q2) w
  by_cases y : tx = ⟨#[]⟩
  rotate_left
  · rw [show reqB 1 sp nm n tx = false by simp [reqB, y]]
    exact reqR4TT hs h1 (by decide) has1 q0 hx hn q2 (neRs y) w
  subst y
  by_cases q3 : inB n (-1) 99999 = true
  rotate_left
  · rw [show reqB 1 sp nm n ⟨#[]⟩ = false by simp [reqB, q3]]
    exact reqR5TTF hs h1 (by decide) has1 q0 hx hn q2 (by simpa using q3) w
  rw [show reqB 1 sp nm n ⟨#[]⟩ = true by simp [reqB, q0, q2, q3]]
  exact reqP1 hs q0 hx hn q2 q3 w
theorem specReq2 {sp nm tx : ByteArray} {n : Int} (hs : sp.size ≤ maxLen) (hn : nm.size ≤ maxLen) (ht : tx.size ≤ maxLen) (w : World) : Calls Try.prog 11 #[.agg #[.int .i64 2, .string sp, .string nm, .int .i64 n, .string tx]] w fun e w' => e = .returned (.bool (reqB 2 sp nm n tx)) ∧ Below w.heap.size w w' := by
  have h1 : inB 2 1 12 = true := by rfl
  by_cases q0 : nameB sp.data.toList = true
  rotate_left
  · rw [show reqB 2 sp nm n tx = false by simp [reqB, q0]]
    exact reqR0 hs h1 (by decide) has2 (by simpa using q0) w
  by_cases e : nm = ⟨#[]⟩
  rotate_left
  · rw [show reqB 2 sp nm n tx = false by simp [reqB, e]]
    exact reqR1F hs h1 (by decide) has2 q0 (neRs e) w
  subst e
  by_cases y : tx = ⟨#[]⟩
  rotate_left
  · rw [show reqB 2 sp ⟨#[]⟩ n tx = false by simp [reqB, y]]
    exact reqR4FT hs h1 (by decide) has2 q0 (neRs y) w
  subst y
  by_cases q3 : inB n (-1) 99999 = true
  rotate_left
  · rw [show reqB 2 sp ⟨#[]⟩ n ⟨#[]⟩ = false by simp [reqB, q3]]
    exact reqR5FTF hs h1 (by decide) has2 q0 (by simpa using q3) w
  rw [show reqB 2 sp ⟨#[]⟩ n ⟨#[]⟩ = true by simp [reqB, q0, q3]]
  exact reqP2 hs q0 q3 w
theorem specReq3 {sp nm tx : ByteArray} {n : Int} (hs : sp.size ≤ maxLen) (hn : nm.size ≤ maxLen) (ht : tx.size ≤ maxLen) (w : World) : Calls Try.prog 11 #[.agg #[.int .i64 3, .string sp, .string nm, .int .i64 n, .string tx]] w fun e w' => e = .returned (.bool (reqB 3 sp nm n tx)) ∧ Below w.heap.size w w' := by
  have h1 : inB 3 1 12 = true := by rfl
  by_cases q0 : nameB sp.data.toList = true
  rotate_left
  · rw [show reqB 3 sp nm n tx = false by simp [reqB, q0]]
    exact reqR0 hs h1 (by decide) has3 (by simpa using q0) w
  by_cases e : nm = ⟨#[]⟩
  rotate_left
  · rw [show reqB 3 sp nm n tx = false by simp [reqB, e]]
    exact reqR1F hs h1 (by decide) has3 q0 (neRs e) w
  subst e
  by_cases z : n = 0
  rotate_left
  · rw [show reqB 3 sp ⟨#[]⟩ n tx = false by simp [reqB, z]]
    exact reqR3F hs h1 (by decide) has3 q0 (by simp [z]) w
  subst z
  by_cases y : tx = ⟨#[]⟩
  rotate_left
  · rw [show reqB 3 sp ⟨#[]⟩ 0 tx = false by simp [reqB, y]]
    exact reqR4FF hs h1 (by decide) has3 q0 (neRs y) w
  subst y
  rw [show reqB 3 sp ⟨#[]⟩ 0 ⟨#[]⟩ = true by simp [reqB, q0]]
  exact reqP3 hs q0 (by rfl) w
theorem specReq4 {sp nm tx : ByteArray} {n : Int} (hs : sp.size ≤ maxLen) (hn : nm.size ≤ maxLen) (ht : tx.size ≤ maxLen) (w : World) : Calls Try.prog 11 #[.agg #[.int .i64 4, .string sp, .string nm, .int .i64 n, .string tx]] w fun e w' => e = .returned (.bool (reqB 4 sp nm n tx)) ∧ Below w.heap.size w w' := by
  have h1 : inB 4 1 12 = true := by rfl
  by_cases q0 : nameB sp.data.toList = true
  rotate_left
  · rw [show reqB 4 sp nm n tx = false by simp [reqB, q0]]
    exact reqR0 hs h1 (by decide) has4 (by simpa using q0) w
  by_cases e : nm = ⟨#[]⟩
  · subst e
    rw [show reqB 4 sp ⟨#[]⟩ n tx = false by simp [reqB, show nameB [] = false from nameB_no]]
    exact reqR1T hs h1 (by decide) has4 q0 w
  have hx := neRs e
  by_cases q2 : nameB nm.data.toList = true
  rotate_left
  · rw [show reqB 4 sp nm n tx = false by simp [reqB, q2]]
    exact reqR2 hs h1 (by decide) has4 q0 hx hn (by simpa using q2) w
  by_cases z : n = 0
  rotate_left
  · rw [show reqB 4 sp nm n tx = false by simp [reqB, z]]
    exact reqR3T hs h1 (by decide) has4 q0 hx hn q2 (by simp [z]) w
  subst z
  rw [show reqB 4 sp nm 0 tx = bodyB1 tx by simp [reqB, q0, q2]]
  exact reqP4 hs q0 hx hn q2 (by rfl) ht rfl w
theorem specReq5 {sp nm tx : ByteArray} {n : Int} (hs : sp.size ≤ maxLen) (hn : nm.size ≤ maxLen) (ht : tx.size ≤ maxLen) (w : World) : Calls Try.prog 11 #[.agg #[.int .i64 5, .string sp, .string nm, .int .i64 n, .string tx]] w fun e w' => e = .returned (.bool (reqB 5 sp nm n tx)) ∧ Below w.heap.size w w' := by
  have h1 : inB 5 1 12 = true := by rfl
  by_cases q0 : nameB sp.data.toList = true
  rotate_left
  · rw [show reqB 5 sp nm n tx = false by simp [reqB, q0]]
    exact reqR0 hs h1 (by decide) has5 (by simpa using q0) w
  by_cases e : nm = ⟨#[]⟩
  · subst e
    rw [show reqB 5 sp ⟨#[]⟩ n tx = false by simp [reqB, show nameB [] = false from nameB_no]]
    exact reqR1T hs h1 (by decide) has5 q0 w
  have hx := neRs e
  by_cases q2 : nameB nm.data.toList = true
  rotate_left
  · rw [show reqB 5 sp nm n tx = false by simp [reqB, q2]]
    exact reqR2 hs h1 (by decide) has5 q0 hx hn (by simpa using q2) w
  by_cases q3 : inB n (-1) 99999 = true
  rotate_left
  · rw [show reqB 5 sp nm n tx = false by simp [reqB, inB_no1 (show inB n (-1) 99999 = false by simpa using q3)]]
    exact reqR5TTT hs h1 (by decide) has5 q0 hx hn q2 (by simpa using q3) w
  by_cases p : 0 ≤ n
  rotate_left
  · rw [show reqB 5 sp nm n tx = false by simp [reqB, inB_no0 p]]
    exact reqN5 hs q0 hx hn q2 q3 p w
  rw [show reqB 5 sp nm n tx = bodyB1 tx by simp [reqB, q0, q2, inB_0 q3 p]]
  exact reqP5 hs q0 hx hn q2 q3 ht rfl p w
theorem specReq6 {sp nm tx : ByteArray} {n : Int} (hs : sp.size ≤ maxLen) (hn : nm.size ≤ maxLen) (ht : tx.size ≤ maxLen) (w : World) : Calls Try.prog 11 #[.agg #[.int .i64 6, .string sp, .string nm, .int .i64 n, .string tx]] w fun e w' => e = .returned (.bool (reqB 6 sp nm n tx)) ∧ Below w.heap.size w w' := by
  have h1 : inB 6 1 12 = true := by rfl
  by_cases q0 : nameB sp.data.toList = true
  rotate_left
  · rw [show reqB 6 sp nm n tx = false by simp [reqB, q0]]
    exact reqR0 hs h1 (by decide) has6 (by simpa using q0) w
  by_cases e : nm = ⟨#[]⟩
  · subst e
    rw [show reqB 6 sp ⟨#[]⟩ n tx = false by simp [reqB, show nameB [] = false from nameB_no]]
    exact reqR1T hs h1 (by decide) has6 q0 w
  have hx := neRs e
  by_cases q2 : nameB nm.data.toList = true
  rotate_left
  · rw [show reqB 6 sp nm n tx = false by simp [reqB, q2]]
    exact reqR2 hs h1 (by decide) has6 q0 hx hn (by simpa using q2) w
  by_cases z : n = 0
  rotate_left
  · rw [show reqB 6 sp nm n tx = false by simp [reqB, z]]
    exact reqR3T hs h1 (by decide) has6 q0 hx hn q2 (by simp [z]) w
  subst z
  rw [show reqB 6 sp nm 0 tx = nameB tx.data.toList by simp [reqB, q0, q2]]
  exact reqP6 hs q0 hx hn q2 (by rfl) ht rfl w
theorem specReq7 {sp nm tx : ByteArray} {n : Int} (hs : sp.size ≤ maxLen) (hn : nm.size ≤ maxLen) (ht : tx.size ≤ maxLen) (w : World) : Calls Try.prog 11 #[.agg #[.int .i64 7, .string sp, .string nm, .int .i64 n, .string tx]] w fun e w' => e = .returned (.bool (reqB 7 sp nm n tx)) ∧ Below w.heap.size w w' := by
  have h1 : inB 7 1 12 = true := by rfl
  by_cases q0 : nameB sp.data.toList = true
  rotate_left
  · rw [show reqB 7 sp nm n tx = false by simp [reqB, q0]]
    exact reqR0 hs h1 (by decide) has7 (by simpa using q0) w
  by_cases e : nm = ⟨#[]⟩
  · subst e
    rw [show reqB 7 sp ⟨#[]⟩ n tx = false by simp [reqB, show nameB [] = false from nameB_no]]
    exact reqR1T hs h1 (by decide) has7 q0 w
  have hx := neRs e
  by_cases q2 : nameB nm.data.toList = true
  rotate_left
  · rw [show reqB 7 sp nm n tx = false by simp [reqB, q2]]
    exact reqR2 hs h1 (by decide) has7 q0 hx hn (by simpa using q2) w
  by_cases z : n = 0
  rotate_left
  · rw [show reqB 7 sp nm n tx = false by simp [reqB, z]]
    exact reqR3T hs h1 (by decide) has7 q0 hx hn q2 (by simp [z]) w
  subst z
  rw [show reqB 7 sp nm 0 tx = nameB tx.data.toList by simp [reqB, q0, q2]]
  exact reqP7 hs q0 hx hn q2 (by rfl) ht rfl w
theorem specReq8 {sp nm tx : ByteArray} {n : Int} (hs : sp.size ≤ maxLen) (hn : nm.size ≤ maxLen) (ht : tx.size ≤ maxLen) (w : World) : Calls Try.prog 11 #[.agg #[.int .i64 8, .string sp, .string nm, .int .i64 n, .string tx]] w fun e w' => e = .returned (.bool (reqB 8 sp nm n tx)) ∧ Below w.heap.size w w' := by
  have h1 : inB 8 1 12 = true := by rfl
  by_cases q0 : nameB sp.data.toList = true
  rotate_left
  · rw [show reqB 8 sp nm n tx = false by simp [reqB, q0]]
    exact reqR0 hs h1 (by decide) has8 (by simpa using q0) w
  by_cases e : nm = ⟨#[]⟩
  · subst e
    rw [show reqB 8 sp ⟨#[]⟩ n tx = false by simp [reqB, show nameB [] = false from nameB_no]]
    exact reqR1T hs h1 (by decide) has8 q0 w
  have hx := neRs e
  by_cases q2 : nameB nm.data.toList = true
  rotate_left
  · rw [show reqB 8 sp nm n tx = false by simp [reqB, q2]]
    exact reqR2 hs h1 (by decide) has8 q0 hx hn (by simpa using q2) w
  by_cases z : n = 0
  rotate_left
  · rw [show reqB 8 sp nm n tx = false by simp [reqB, z]]
    exact reqR3T hs h1 (by decide) has8 q0 hx hn q2 (by simp [z]) w
  subst z
  by_cases y : tx = ⟨#[]⟩
  rotate_left
  · rw [show reqB 8 sp nm 0 tx = false by simp [reqB, y]]
    exact reqR4TF hs h1 (by decide) has8 q0 hx hn q2 (neRs y) w
  subst y
  rw [show reqB 8 sp nm 0 ⟨#[]⟩ = true by simp [reqB, q0, q2]]
  exact reqP8 hs q0 hx hn q2 (by rfl) w
theorem specReq9 {sp nm tx : ByteArray} {n : Int} (hs : sp.size ≤ maxLen) (hn : nm.size ≤ maxLen) (ht : tx.size ≤ maxLen) (w : World) : Calls Try.prog 11 #[.agg #[.int .i64 9, .string sp, .string nm, .int .i64 n, .string tx]] w fun e w' => e = .returned (.bool (reqB 9 sp nm n tx)) ∧ Below w.heap.size w w' := by
  have h1 : inB 9 1 12 = true := by rfl
  by_cases q0 : nameB sp.data.toList = true
  rotate_left
  · rw [show reqB 9 sp nm n tx = false by simp [reqB, q0]]
    exact reqR0 hs h1 (by decide) has9 (by simpa using q0) w
  by_cases e : nm = ⟨#[]⟩
  · subst e
    rw [show reqB 9 sp ⟨#[]⟩ n tx = false by simp [reqB, show nameB [] = false from nameB_no]]
    exact reqR1T hs h1 (by decide) has9 q0 w
  have hx := neRs e
  by_cases q2 : nameB nm.data.toList = true
  rotate_left
  · rw [show reqB 9 sp nm n tx = false by simp [reqB, q2]]
    exact reqR2 hs h1 (by decide) has9 q0 hx hn (by simpa using q2) w
  by_cases z : n = 0
  rotate_left
  · rw [show reqB 9 sp nm n tx = false by simp [reqB, z]]
    exact reqR3T hs h1 (by decide) has9 q0 hx hn q2 (by simp [z]) w
  subst z
  by_cases y : tx = ⟨#[]⟩
  rotate_left
  · rw [show reqB 9 sp nm 0 tx = false by simp [reqB, y]]
    exact reqR4TF hs h1 (by decide) has9 q0 hx hn q2 (neRs y) w
  subst y
  rw [show reqB 9 sp nm 0 ⟨#[]⟩ = true by simp [reqB, q0, q2]]
  exact reqP9 hs q0 hx hn q2 (by rfl) w
theorem specReq10 {sp nm tx : ByteArray} {n : Int} (hs : sp.size ≤ maxLen) (hn : nm.size ≤ maxLen) (ht : tx.size ≤ maxLen) (w : World) : Calls Try.prog 11 #[.agg #[.int .i64 10, .string sp, .string nm, .int .i64 n, .string tx]] w fun e w' => e = .returned (.bool (reqB 10 sp nm n tx)) ∧ Below w.heap.size w w' := by
  have h1 : inB 10 1 12 = true := by rfl
  by_cases q0 : nameB sp.data.toList = true
  rotate_left
  · rw [show reqB 10 sp nm n tx = false by simp [reqB, q0]]
    exact reqR0 hs h1 (by decide) has10 (by simpa using q0) w
  by_cases e : nm = ⟨#[]⟩
  rotate_left
  · rw [show reqB 10 sp nm n tx = false by simp [reqB, e]]
    exact reqR1F hs h1 (by decide) has10 q0 (neRs e) w
  subst e
  by_cases z : n = 0
  rotate_left
  · rw [show reqB 10 sp ⟨#[]⟩ n tx = false by simp [reqB, z]]
    exact reqR3F hs h1 (by decide) has10 q0 (by simp [z]) w
  subst z
  by_cases y : tx = ⟨#[]⟩
  rotate_left
  · rw [show reqB 10 sp ⟨#[]⟩ 0 tx = false by simp [reqB, y]]
    exact reqR4FF hs h1 (by decide) has10 q0 (neRs y) w
  subst y
  rw [show reqB 10 sp ⟨#[]⟩ 0 ⟨#[]⟩ = true by simp [reqB, q0]]
  exact reqP10 hs q0 (by rfl) w
theorem specReq11 {sp nm tx : ByteArray} {n : Int} (hs : sp.size ≤ maxLen) (hn : nm.size ≤ maxLen) (ht : tx.size ≤ maxLen) (w : World) : Calls Try.prog 11 #[.agg #[.int .i64 11, .string sp, .string nm, .int .i64 n, .string tx]] w fun e w' => e = .returned (.bool (reqB 11 sp nm n tx)) ∧ Below w.heap.size w w' := by
  have h1 : inB 11 1 12 = true := by rfl
  by_cases q0 : nameB sp.data.toList = true
  rotate_left
  · rw [show reqB 11 sp nm n tx = false by simp [reqB, q0]]
    exact reqR0 hs h1 (by decide) has11 (by simpa using q0) w
  by_cases e : nm = ⟨#[]⟩
  rotate_left
  · rw [show reqB 11 sp nm n tx = false by simp [reqB, e]]
    exact reqR1F hs h1 (by decide) has11 q0 (neRs e) w
  subst e
  by_cases y : tx = ⟨#[]⟩
  rotate_left
  · rw [show reqB 11 sp ⟨#[]⟩ n tx = false by simp [reqB, y]]
    exact reqR4FT hs h1 (by decide) has11 q0 (neRs y) w
  subst y
  by_cases q3 : inB n (-1) 99999 = true
  rotate_left
  · rw [show reqB 11 sp ⟨#[]⟩ n ⟨#[]⟩ = false by simp [reqB, inB_no1 (show inB n (-1) 99999 = false by simpa using q3)]]
    exact reqR5FTF hs h1 (by decide) has11 q0 (by simpa using q3) w
  by_cases p : 0 ≤ n
  rotate_left
  · rw [show reqB 11 sp ⟨#[]⟩ n ⟨#[]⟩ = false by simp [reqB, inB_no0 p]]
    exact reqN11 hs q0 q3 p w
  rw [show reqB 11 sp ⟨#[]⟩ n ⟨#[]⟩ = true by simp [reqB, q0, inB_0 q3 p]]
  exact reqP11 hs q0 q3 p w
set_option maxRecDepth 100000 in
set_option maxHeartbeats 4000000 in
theorem reqT0 {sp : ByteArray} {nm : ByteArray} {n : Int} {tx : ByteArray} (h : sp.toList.isEmpty = false) (w : World) : Calls Try.prog 11 #[.agg #[.int .i64 12, .string sp, .string nm, .int .i64 n, .string tx]] w fun e w' => e = .returned (.bool false) ∧ Below w.heap.size w w' := by
  go_enter Try.func11, Try.ntmps11
  go_wp2_with (first
    | (go_at_call 37; refine (has12 _).mono ?_; rintro e w1 ⟨rfl, rfl⟩)
    | (go_at_call 18; refine (in_is (show inB 12 1 12 = true by rfl) _).mono ?_; rintro e w2 ⟨rfl, rfl⟩))
  go_ret
  exact ⟨rfl, (by repeat (first | exact Below.refl _ _ | (refine Below.alloc ?_ (by first | (simp; done) | (simp; omega)) _) | (refine Below.setCell ?_ (by first | (simp; done) | (simp; omega)) _) | (refine Below.drew ?_)))⟩
set_option maxRecDepth 100000 in
set_option maxHeartbeats 4000000 in
theorem reqT1 {nm : ByteArray} {n : Int} {tx : ByteArray} (h : nm.toList.isEmpty = false) (w : World) : Calls Try.prog 11 #[.agg #[.int .i64 12, .string ⟨#[]⟩, .string nm, .int .i64 n, .string tx]] w fun e w' => e = .returned (.bool false) ∧ Below w.heap.size w w' := by
  go_enter Try.func11, Try.ntmps11
  go_wp2_with (first
    | (go_at_call 37; refine (has12 _).mono ?_; rintro e w1 ⟨rfl, rfl⟩)
    | (go_at_call 18; refine (in_is (show inB 12 1 12 = true by rfl) _).mono ?_; rintro e w2 ⟨rfl, rfl⟩))
  go_ret
  exact ⟨rfl, (by repeat (first | exact Below.refl _ _ | (refine Below.alloc ?_ (by first | (simp; done) | (simp; omega)) _) | (refine Below.setCell ?_ (by first | (simp; done) | (simp; omega)) _) | (refine Below.drew ?_)))⟩
set_option maxRecDepth 100000 in
set_option maxHeartbeats 4000000 in
theorem reqT2 {n : Int} {tx : ByteArray} (h : (n == 0) = false) (w : World) : Calls Try.prog 11 #[.agg #[.int .i64 12, .string ⟨#[]⟩, .string ⟨#[]⟩, .int .i64 n, .string tx]] w fun e w' => e = .returned (.bool false) ∧ Below w.heap.size w w' := by
  go_enter Try.func11, Try.ntmps11
  go_wp2_with (first
    | (go_at_call 37; refine (has12 _).mono ?_; rintro e w1 ⟨rfl, rfl⟩)
    | (go_at_call 18; refine (in_is (show inB 12 1 12 = true by rfl) _).mono ?_; rintro e w2 ⟨rfl, rfl⟩))
  go_ret
  exact ⟨rfl, (by repeat (first | exact Below.refl _ _ | (refine Below.alloc ?_ (by first | (simp; done) | (simp; omega)) _) | (refine Below.setCell ?_ (by first | (simp; done) | (simp; omega)) _) | (refine Below.drew ?_)))⟩
set_option maxRecDepth 100000 in
set_option maxHeartbeats 4000000 in
theorem reqT3 {tx : ByteArray} (h : tx.toList.isEmpty = false) (w : World) : Calls Try.prog 11 #[.agg #[.int .i64 12, .string ⟨#[]⟩, .string ⟨#[]⟩, .int .i64 0, .string tx]] w fun e w' => e = .returned (.bool false) ∧ Below w.heap.size w w' := by
  go_enter Try.func11, Try.ntmps11
  go_wp2_with (first
    | (go_at_call 37; refine (has12 _).mono ?_; rintro e w1 ⟨rfl, rfl⟩)
    | (go_at_call 18; refine (in_is (show inB 12 1 12 = true by rfl) _).mono ?_; rintro e w2 ⟨rfl, rfl⟩))
  go_ret
  exact ⟨rfl, (by repeat (first | exact Below.refl _ _ | (refine Below.alloc ?_ (by first | (simp; done) | (simp; omega)) _) | (refine Below.setCell ?_ (by first | (simp; done) | (simp; omega)) _) | (refine Below.drew ?_)))⟩
set_option maxRecDepth 100000 in
set_option maxHeartbeats 4000000 in
theorem reqT4  (w : World) : Calls Try.prog 11 #[.agg #[.int .i64 12, .string ⟨#[]⟩, .string ⟨#[]⟩, .int .i64 0, .string ⟨#[]⟩]] w fun e w' => e = .returned (.bool true) ∧ Below w.heap.size w w' := by
  go_enter Try.func11, Try.ntmps11
  go_wp2_with (first
    | (go_at_call 37; refine (has12 _).mono ?_; rintro e w1 ⟨rfl, rfl⟩)
    | (go_at_call 18; refine (in_is (show inB 12 1 12 = true by rfl) _).mono ?_; rintro e w2 ⟨rfl, rfl⟩))
  go_ret
  exact ⟨rfl, (by repeat (first | exact Below.refl _ _ | (refine Below.alloc ?_ (by first | (simp; done) | (simp; omega)) _) | (refine Below.setCell ?_ (by first | (simp; done) | (simp; omega)) _) | (refine Below.drew ?_)))⟩
theorem specReq12 {sp nm tx : ByteArray} {n : Int} (w : World) : Calls Try.prog 11 #[.agg #[.int .i64 12, .string sp, .string nm, .int .i64 n, .string tx]] w fun e w' => e = .returned (.bool (reqB 12 sp nm n tx)) ∧ Below w.heap.size w w' := by
  by_cases e1 : sp = ⟨#[]⟩
  rotate_left
  · rw [show reqB 12 sp nm n tx = false by simp [reqB, e1]]
    exact reqT0 (neRs e1) w
  subst e1
  by_cases e2 : nm = ⟨#[]⟩
  rotate_left
  · rw [show reqB 12 ⟨#[]⟩ nm n tx = false by simp [reqB, e2]]
    exact reqT1 (neRs e2) w
  subst e2
  by_cases e3 : n = 0
  rotate_left
  · rw [show reqB 12 ⟨#[]⟩ ⟨#[]⟩ n tx = false by simp [reqB, e3]]
    exact reqT2 (by simp [e3]) w
  subst e3
  by_cases e4 : tx = ⟨#[]⟩
  rotate_left
  · rw [show reqB 12 ⟨#[]⟩ ⟨#[]⟩ 0 tx = false by simp [reqB, e4]]
    exact reqT3 (neRs e4) w
  subst e4
  rw [show reqB 12 ⟨#[]⟩ ⟨#[]⟩ 0 ⟨#[]⟩ = true by simp [reqB]]
  exact reqT4 w
set_option maxRecDepth 100000 in
set_option maxHeartbeats 4000000 in
theorem specReq0 {k : Int} {sp nm tx : ByteArray} {n : Int} (h1 : inB k 1 12 = false) (w : World) : Calls Try.prog 11 #[.agg #[.int .i64 k, .string sp, .string nm, .int .i64 n, .string tx]] w fun e w' => e = .returned (.bool false) ∧ Below w.heap.size w w' := by
  go_enter Try.func11, Try.ntmps11
  go_wp2_with (go_at_call 18; refine (in_is h1 _).mono ?_; rintro e w2 ⟨rfl, rfl⟩)
  go_ret
  exact ⟨rfl, (by repeat (first | exact Below.refl _ _ | (refine Below.alloc ?_ (by first | (simp; done) | (simp; omega)) _) | (refine Below.setCell ?_ (by first | (simp; done) | (simp; omega)) _) | (refine Below.drew ?_)))⟩
theorem specReqOk_any {k : Int} {sp nm tx : ByteArray} {n : Int} (hs : sp.size ≤ maxLen) (hn : nm.size ≤ maxLen) (ht : tx.size ≤ maxLen) (w : World) : Calls Try.prog 11 #[.agg #[.int .i64 k, .string sp, .string nm, .int .i64 n, .string tx]] w fun e w' => e = .returned (.bool (reqB k sp nm n tx)) ∧ Below w.heap.size w w' := by
  by_cases hk : k < 1 ∨ 12 < k
  · rw [reqB_out hk]
    exact specReq0 (decide_eq_false (by omega)) w
  have h : k = 1 ∨ k = 2 ∨ k = 3 ∨ k = 4 ∨ k = 5 ∨ k = 6 ∨ k = 7 ∨ k = 8 ∨ k = 9 ∨ k = 10 ∨ k = 11 ∨ k = 12 := by omega
  rcases h with rfl | rfl | rfl | rfl | rfl | rfl | rfl | rfl | rfl | rfl | rfl | rfl
  · exact specReq1 hs hn ht w
  · exact specReq2 hs hn ht w
  · exact specReq3 hs hn ht w
  · exact specReq4 hs hn ht w
  · exact specReq5 hs hn ht w
  · exact specReq6 hs hn ht w
  · exact specReq7 hs hn ht w
  · exact specReq8 hs hn ht w
  · exact specReq9 hs hn ht w
  · exact specReq10 hs hn ht w
  · exact specReq11 hs hn ht w
  · exact specReq12 w
end Go.Proofs.Ytgjfflfldddebaa
