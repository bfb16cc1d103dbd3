import Derived.Test.YtgjfflfldddebaaReqI
/- Requests, of the program: ok. -/
namespace Go.Proofs.Ytgjfflfldddebaa
open Go Go.RowKit

theorem nmR_is {s : ByteArray} (hs : s.size ≤ maxLen) {q : Bool} (h : nameB s.data.toList = q) (w : World) : Calls Try.prog 65 #[.string s] w fun e w' => e = .returned (.bool q) ∧ w = w' := by
  subst h
  exact impl_name s w hs
theorem bdR_is {s : ByteArray} (hs : s.size ≤ maxLen) {q : Bool} (h : bodyB1 s = q) (w : World) : Calls Try.prog 77 #[.string s] w fun e w' => e = .returned (.bool q) ∧ w = w' := by
  subst h
  exact implBody_any s w hs
theorem ctR_is {n lo : Int} {q : Bool} (h : inB n lo 99999 = q) (w : World) : Calls Try.prog 28 #[.int .i64 n, .int .i64 lo] w fun e w' => e = .returned (.bool q) ∧ w = w' := by
  subst h
  exact count_any n lo w
set_option maxHeartbeats 1000000 in
theorem pl_isQ {sp : ByteArray} (hs : sp.size ≤ maxLen) {q1 : Bool} (h1 : nameB sp.data.toList = q1) (w : World) : Calls Try.prog 119 #[.agg #[.string sp]] w fun e w' => e = .returned (.bool (q1)) ∧ w' = (w.alloc (.cells #[.string sp] 109)) := by
  go_enter Try.func119, Try.ntmps119
  go_wp2_with (first
    | (go_at_call 65; refine (nmR_is hs h1 _).mono ?_; rintro e w1 ⟨rfl, rfl⟩))
  go_ret
  exact ⟨rfl, rfl⟩
theorem pl_is {sp : ByteArray} (hs : sp.size ≤ maxLen) {q : Bool} (h : (nameB sp.data.toList) = q) (w : World) : Calls Try.prog 119 #[.agg #[.string sp]] w fun e w' => e = .returned (.bool q) ∧ w' = (w.alloc (.cells #[.string sp] 109)) := by
  subst h
  exact pl_isQ hs rfl w
set_option maxHeartbeats 1000000 in
theorem pr_isQ {sp nm : ByteArray} (hs : sp.size ≤ maxLen) (hn : nm.size ≤ maxLen) {q1 q2 : Bool} (h1 : nameB sp.data.toList = q1) (h2 : nameB nm.data.toList = q2) (w : World) : Calls Try.prog 121 #[.agg #[.string sp, .string nm]] w fun e w' => e = .returned (.bool (q1 && q2)) ∧ w' = ((w.alloc (.cells #[.string sp, .string nm] 111)).alloc (.cells #[.string sp] 109)) := by
  cases q1 <;> (
    go_enter Try.func121, Try.ntmps121
    go_wp2_with (first
      | (go_at_call 119; refine (pl_is hs h1 _).mono ?_; rintro e w1 ⟨rfl, rfl⟩)
      | (go_at_call 65; refine (nmR_is hn h2 _).mono ?_; rintro e w2 ⟨rfl, rfl⟩))
    go_ret
    exact ⟨rfl, rfl⟩)
theorem pr_is {sp nm : ByteArray} (hs : sp.size ≤ maxLen) (hn : nm.size ≤ maxLen) {q : Bool} (h : (nameB sp.data.toList && nameB nm.data.toList) = q) (w : World) : Calls Try.prog 121 #[.agg #[.string sp, .string nm]] w fun e w' => e = .returned (.bool q) ∧ w' = ((w.alloc (.cells #[.string sp, .string nm] 111)).alloc (.cells #[.string sp] 109)) := by
  subst h
  exact pr_isQ hs hn rfl rfl w
set_option maxHeartbeats 1000000 in
theorem mk_isQ {sp nm tx : ByteArray} (hs : sp.size ≤ maxLen) (hn : nm.size ≤ maxLen) (ht : tx.size ≤ maxLen) {q1 q2 : Bool} (h1 : (nameB sp.data.toList && nameB nm.data.toList) = q1) (h2 : nameB tx.data.toList = q2) (w : World) : Calls Try.prog 123 #[.agg #[.string sp, .string nm, .string tx]] w fun e w' => e = .returned (.bool (q1 && q2)) ∧ w' = (((w.alloc (.cells #[.string sp, .string nm, .string tx] 113)).alloc (.cells #[.string sp, .string nm] 111)).alloc (.cells #[.string sp] 109)) := by
  cases q1 <;> (
    go_enter Try.func123, Try.ntmps123
    go_wp2_with (first
      | (go_at_call 121; refine (pr_is hs hn h1 _).mono ?_; rintro e w1 ⟨rfl, rfl⟩)
      | (go_at_call 65; refine (nmR_is ht h2 _).mono ?_; rintro e w2 ⟨rfl, rfl⟩))
    go_ret
    exact ⟨rfl, rfl⟩)
theorem mk_is {sp nm tx : ByteArray} (hs : sp.size ≤ maxLen) (hn : nm.size ≤ maxLen) (ht : tx.size ≤ maxLen) {q : Bool} (h : ((nameB sp.data.toList && nameB nm.data.toList) && nameB tx.data.toList) = q) (w : World) : Calls Try.prog 123 #[.agg #[.string sp, .string nm, .string tx]] w fun e w' => e = .returned (.bool q) ∧ w' = (((w.alloc (.cells #[.string sp, .string nm, .string tx] 113)).alloc (.cells #[.string sp, .string nm] 111)).alloc (.cells #[.string sp] 109)) := by
  subst h
  exact mk_isQ hs hn ht rfl rfl w
set_option maxHeartbeats 1000000 in
theorem k1_isQ {sp nm : ByteArray} {n : Int} (hs : sp.size ≤ maxLen) (hn : nm.size ≤ maxLen) {q1 q2 : Bool} (h1 : (nameB sp.data.toList && nameB nm.data.toList) = q1) (h2 : inB n (-1) 99999 = q2) (w : World) : Calls Try.prog 125 #[.agg #[.string sp, .string nm, .int .i64 n]] w fun e w' => e = .returned (.bool (q1 && q2)) ∧ w' = (((w.alloc (.cells #[.string sp, .string nm, .int .i64 n] 115)).alloc (.cells #[.string sp, .string nm] 111)).alloc (.cells #[.string sp] 109)) := by
  cases q1 <;> (
    go_enter Try.func125, Try.ntmps125
    go_wp2_with (first
      | (go_at_call 121; refine (pr_is hs hn h1 _).mono ?_; rintro e w1 ⟨rfl, rfl⟩)
      | (go_at_call 28; refine (ctR_is h2 _).mono ?_; rintro e w2 ⟨rfl, rfl⟩))
    go_ret
    exact ⟨rfl, rfl⟩)
theorem k1_is {sp nm : ByteArray} {n : Int} (hs : sp.size ≤ maxLen) (hn : nm.size ≤ maxLen) {q : Bool} (h : ((nameB sp.data.toList && nameB nm.data.toList) && inB n (-1) 99999) = q) (w : World) : Calls Try.prog 125 #[.agg #[.string sp, .string nm, .int .i64 n]] w fun e w' => e = .returned (.bool q) ∧ w' = (((w.alloc (.cells #[.string sp, .string nm, .int .i64 n] 115)).alloc (.cells #[.string sp, .string nm] 111)).alloc (.cells #[.string sp] 109)) := by
  subst h
  exact k1_isQ hs hn rfl rfl w
set_option maxHeartbeats 1000000 in
theorem k2_isQ {sp : ByteArray} {n : Int} (hs : sp.size ≤ maxLen) {q1 q2 : Bool} (h1 : nameB sp.data.toList = q1) (h2 : inB n (-1) 99999 = q2) (w : World) : Calls Try.prog 127 #[.agg #[.string sp, .int .i64 n]] w fun e w' => e = .returned (.bool (q1 && q2)) ∧ w' = ((w.alloc (.cells #[.string sp, .int .i64 n] 117)).alloc (.cells #[.string sp] 109)) := by
  cases q1 <;> (
    go_enter Try.func127, Try.ntmps127
    go_wp2_with (first
      | (go_at_call 119; refine (pl_is hs h1 _).mono ?_; rintro e w1 ⟨rfl, rfl⟩)
      | (go_at_call 28; refine (ctR_is h2 _).mono ?_; rintro e w2 ⟨rfl, rfl⟩))
    go_ret
    exact ⟨rfl, rfl⟩)
theorem k2_is {sp : ByteArray} {n : Int} (hs : sp.size ≤ maxLen) {q : Bool} (h : (nameB sp.data.toList && inB n (-1) 99999) = q) (w : World) : Calls Try.prog 127 #[.agg #[.string sp, .int .i64 n]] w fun e w' => e = .returned (.bool q) ∧ w' = ((w.alloc (.cells #[.string sp, .int .i64 n] 117)).alloc (.cells #[.string sp] 109)) := by
  subst h
  exact k2_isQ hs rfl rfl w
set_option maxHeartbeats 1000000 in
theorem k4_isQ {sp nm tx : ByteArray} (hs : sp.size ≤ maxLen) (hn : nm.size ≤ maxLen) (ht : tx.size ≤ maxLen) {q1 q2 : Bool} (h1 : (nameB sp.data.toList && nameB nm.data.toList) = q1) (h2 : bodyB1 tx = q2) (w : World) : Calls Try.prog 129 #[.agg #[.string sp, .string nm, .string tx]] w fun e w' => e = .returned (.bool (q1 && q2)) ∧ w' = (((w.alloc (.cells #[.string sp, .string nm, .string tx] 121)).alloc (.cells #[.string sp, .string nm] 111)).alloc (.cells #[.string sp] 109)) := by
  cases q1 <;> (
    go_enter Try.func129, Try.ntmps129
    go_wp2_with (first
      | (go_at_call 121; refine (pr_is hs hn h1 _).mono ?_; rintro e w1 ⟨rfl, rfl⟩)
      | (go_at_call 77; refine (bdR_is ht h2 _).mono ?_; rintro e w2 ⟨rfl, rfl⟩))
    go_ret
    exact ⟨rfl, rfl⟩)
theorem k4_is {sp nm tx : ByteArray} (hs : sp.size ≤ maxLen) (hn : nm.size ≤ maxLen) (ht : tx.size ≤ maxLen) {q : Bool} (h : ((nameB sp.data.toList && nameB nm.data.toList) && bodyB1 tx) = q) (w : World) : Calls Try.prog 129 #[.agg #[.string sp, .string nm, .string tx]] w fun e w' => e = .returned (.bool q) ∧ w' = (((w.alloc (.cells #[.string sp, .string nm, .string tx] 121)).alloc (.cells #[.string sp, .string nm] 111)).alloc (.cells #[.string sp] 109)) := by
  subst h
  exact k4_isQ hs hn ht rfl rfl w
set_option maxHeartbeats 1000000 in
theorem k5_isQ {sp nm tx : ByteArray} {n : Int} (hs : sp.size ≤ maxLen) (hn : nm.size ≤ maxLen) (ht : tx.size ≤ maxLen) {q1 q2 q3 : Bool} (h1 : (nameB sp.data.toList && nameB nm.data.toList) = q1) (h2 : inB n (0) 99999 = q2) (h3 : bodyB1 tx = q3) (w : World) : Calls Try.prog 131 #[.agg #[.string sp, .string nm, .int .i64 n, .string tx]] w fun e w' => e = .returned (.bool ((q1 && q2) && q3)) ∧ w' = (((w.alloc (.cells #[.string sp, .string nm, .int .i64 n, .string tx] 123)).alloc (.cells #[.string sp, .string nm] 111)).alloc (.cells #[.string sp] 109)) := by
  cases q1 <;> cases q2 <;> (
    go_enter Try.func131, Try.ntmps131
    go_wp2_with (first
      | (go_at_call 121; refine (pr_is hs hn h1 _).mono ?_; rintro e w1 ⟨rfl, rfl⟩)
      | (go_at_call 28; refine (ctR_is h2 _).mono ?_; rintro e w2 ⟨rfl, rfl⟩)
      | (go_at_call 77; refine (bdR_is ht h3 _).mono ?_; rintro e w3 ⟨rfl, rfl⟩))
    go_ret
    exact ⟨rfl, rfl⟩)
theorem k5_is {sp nm tx : ByteArray} {n : Int} (hs : sp.size ≤ maxLen) (hn : nm.size ≤ maxLen) (ht : tx.size ≤ maxLen) {q : Bool} (h : (((nameB sp.data.toList && nameB nm.data.toList) && inB n (0) 99999) && bodyB1 tx) = q) (w : World) : Calls Try.prog 131 #[.agg #[.string sp, .string nm, .int .i64 n, .string tx]] w fun e w' => e = .returned (.bool q) ∧ w' = (((w.alloc (.cells #[.string sp, .string nm, .int .i64 n, .string tx] 123)).alloc (.cells #[.string sp, .string nm] 111)).alloc (.cells #[.string sp] 109)) := by
  subst h
  exact k5_isQ hs hn ht rfl rfl rfl w
set_option maxHeartbeats 1000000 in
theorem k11_isQ {sp : ByteArray} {n : Int} (hs : sp.size ≤ maxLen) {q1 q2 : Bool} (h1 : nameB sp.data.toList = q1) (h2 : inB n (0) 99999 = q2) (w : World) : Calls Try.prog 133 #[.agg #[.string sp, .int .i64 n]] w fun e w' => e = .returned (.bool (q1 && q2)) ∧ w' = ((w.alloc (.cells #[.string sp, .int .i64 n] 132)).alloc (.cells #[.string sp] 109)) := by
  cases q1 <;> (
    go_enter Try.func133, Try.ntmps133
    go_wp2_with (first
      | (go_at_call 119; refine (pl_is hs h1 _).mono ?_; rintro e w1 ⟨rfl, rfl⟩)
      | (go_at_call 28; refine (ctR_is h2 _).mono ?_; rintro e w2 ⟨rfl, rfl⟩))
    go_ret
    exact ⟨rfl, rfl⟩)
theorem k11_is {sp : ByteArray} {n : Int} (hs : sp.size ≤ maxLen) {q : Bool} (h : (nameB sp.data.toList && inB n (0) 99999) = q) (w : World) : Calls Try.prog 133 #[.agg #[.string sp, .int .i64 n]] w fun e w' => e = .returned (.bool q) ∧ w' = ((w.alloc (.cells #[.string sp, .int .i64 n] 132)).alloc (.cells #[.string sp] 109)) := by
  subst h
  exact k11_isQ hs rfl rfl w
theorem k12_is (w : World) : Calls Try.prog 135 #[.agg #[]] w fun e w' => e = .returned (.bool true) ∧ w' = w.alloc (.cells #[] 134) := by
  go_enter Try.func135, Try.ntmps135
  go_wp2
  go_ret
  exact ⟨rfl, rfl⟩
end Go.Proofs.Ytgjfflfldddebaa
