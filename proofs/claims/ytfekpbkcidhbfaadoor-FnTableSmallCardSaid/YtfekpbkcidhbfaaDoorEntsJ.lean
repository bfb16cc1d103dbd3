import Derived.Test.YtfekpbkcidhbfaaDoorEntsI
/- entryOk and EntriesOk of the program. -/
namespace Go.Proofs.YtfekpbkcidhbfaaDoor
open Go Go.RowKit

def bytesB (s : ByteArray) (lo : Int) : Bool := s.data.toList.all (valC lo)
theorem bytesB_no (s : ByteArray) (lo : Int) (k : Nat) (h : k < s.size) (h1 : valC lo s[k] = false) : bytesB s lo = false := all_not s k h h1
theorem bytesB_end (s : ByteArray) (lo : Int) (k : Nat) (h : ¬ k < s.size) (h0 : (s.data.toList.take k).all (valC lo) = true) : bytesB s lo = true := all_end s k h h0

set_option maxHeartbeats 400000 in
theorem bytesOk_any (s : ByteArray) (lo : Int) (w : World) (hs : s.size ≤ maxLen) :
    Calls Tryd.prog 44 #[.string s, .int .u8 lo] w fun e w' => e = .returned (.bool (bytesB s lo)) ∧ w = w' := by
  unfold maxLen at hs
  go_enter Tryd.func44, Tryd.ntmps44
  go_wp2
  go_loop [8] (fun i => ∃ k : Nat, k ≤ s.size ∧ i = .int .i64 k ∧ (s.data.toList.take k).all (valC lo) = true) (fun i => s.size - (intOf i).toNat)
  case atStart => exact ⟨0, Nat.zero_le _, rfl, rfl⟩
  case round =>
    obtain ⟨k, hk, rfl, hl⟩ := hrel
    have HL := Lib.hid hl
    clear hl
    by_cases hlt : k < s.size
    · cases hc : valC lo s[k] with
      | false =>
        have HN := Lib.hid (bytesB_no s lo k hlt hc)
        have hc' : (s[k].toNat : Int) < lo ∨ 126 < (s[k].toNat : Int) := by simp only [valC, decide_eq_false_iff_not] at hc; omega
        clear hc
        by_cases h1 : (s[k].toNat : Int) < lo
        · go_wp2
          go_ret
          exact ⟨ret_bool (by rw [HN.out]), rfl⟩
        · have h2 : 126 < (s[k].toNat : Int) := by omega
          go_wp2
          go_ret
          exact ⟨ret_bool (by rw [HN.out]), rfl⟩
      | true =>
        have HC := Lib.hid hc
        have hc' : ¬ (s[k].toNat : Int) < lo ∧ ¬ 126 < (s[k].toNat : Int) := by simp only [valC, decide_eq_true_eq] at hc; omega
        obtain ⟨h1, h2⟩ := hc'
        clear hc
        go_wp2
        go_round
        case rel => exact ⟨k + 1, by omega, by go_num, all_next s k hlt HL.out HC.out⟩
        case measure => simp [intOf]; omega
    · have HN := Lib.hid (bytesB_end s lo k hlt HL.out)
      go_wp2
      go_ret
      exact ⟨ret_bool (by rw [HN.out]), rfl⟩

/-- a colon stands in the text -/
def hasC (s : ByteArray) : Bool := decide (0 ≤ colonI s)
theorem colon_mem : ∀ l : List UInt8, colon l < l.length ↔ (58 : UInt8) ∈ l
  | [] => by simp
  | c :: l => by
    have ih := colon_mem l
    unfold colon
    by_cases hc : c = 58
    · simp [hc]
    · rw [if_neg hc, List.length_cons, List.mem_cons]
      constructor
      · intro h; exact .inr (ih.1 (by omega))
      · rintro (h | h)
        · exact absurd h.symm hc
        · have := ih.2 h; omega
theorem hasC_mem (s : ByteArray) : hasC s = decide ((58 : UInt8) ∈ s.data.toList) := by
  unfold hasC colonI
  rw [indexByte_colon]
  by_cases h : (58 : UInt8) ∈ s.data.toList
  · have := (colon_mem _).2 h
    rw [if_pos this]; simp [h]
  · have := fun q => h ((colon_mem _).1 q)
    rw [if_neg this]; simp [h]
theorem keyB_parts (s : ByteArray) : keyB s = (bytesB s 46 && !hasC s && inB s.size 1 24) := by
  unfold keyB bytesB
  congr 1
  rw [hasC_mem]
  rw [Bool.eq_iff_iff]
  simp only [List.all_eq_true, Bool.and_eq_true, Bool.not_eq_true', decide_eq_false_iff_not, keyC, valC, decide_eq_true_eq]
  constructor
  · intro h
    refine ⟨fun c hc => ⟨(h c hc).1, (h c hc).2.1⟩, fun hm => (h _ hm).2.2 rfl⟩
  · rintro ⟨h, hn⟩ c hc
    refine ⟨(h c hc).1, (h c hc).2, fun e => hn ?_⟩
    have : c = 58 := by
      apply UInt8.toNat_inj.1
      have h2 : c.toNat = 58 := by omega
      rw [h2]; rfl
    rw [← this]; exact hc

set_option maxRecDepth 100000 in
set_option maxHeartbeats 400000 in
theorem contains_any (s : ByteArray) (w : World) :
    Calls Tryd.prog 45 #[.string s, .string ⟨#[58]⟩] w fun e w' => e = .returned (.bool (hasC s)) ∧ w = w' := by
  go_enter Tryd.func45, Tryd.ntmps45
  go_wp2_with fail
  refine Calls.mono (R := fun e w' => e = .returned (.int .i64 (colonI s)) ∧ w = w') ?_ ?_
  · go_enter Tryd.func64, Tryd.ntmps64
    go_wp2_with (go_at_call 78; refine (idxColon_any _ _).mono ?_; rintro e w1 ⟨rfl, rfl⟩)
    go_ret
    exact ⟨rfl, rfl⟩
  · rintro e w1 ⟨rfl, rfl⟩
    go_wp2
    go_ret
    exact ⟨rfl, rfl⟩

theorem bytesOk_q (s : ByteArray) (lo : Int) {v : Bool} (h : bytesB s lo = v) (hs : s.size ≤ maxLen) (w : World) :
    Calls Tryd.prog 44 #[.string s, .int .u8 lo] w fun e w' => e = .returned (.bool v) ∧ w' = w := by
  subst h; exact (bytesOk_any s lo w hs).mono (fun _ _ ⟨a, b⟩ => ⟨a, b.symm⟩)
theorem contains_q (s : ByteArray) {v : Bool} (h : hasC s = v) (w : World) :
    Calls Tryd.prog 45 #[.string s, .string ⟨#[58]⟩] w fun e w' => e = .returned (.bool v) ∧ w' = w := by
  subst h; exact (contains_any s w).mono (fun _ _ ⟨a, b⟩ => ⟨a, b.symm⟩)

set_option maxRecDepth 100000 in
set_option maxHeartbeats 800000 in
theorem implOk_any (x0 : ByteArray) (x1 : Int) (x2 : Bool) (x3 : ByteArray) (w : World) (s0 : x0.size ≤ maxLen) (s3 : x3.size ≤ maxLen) :
    Calls Tryd.prog 30 #[.agg #[.string x0, .int .i64 x1, .bool x2, .string x3]] w fun e w' => e = .returned (.bool (entB (x0, x1, x2, x3))) ∧ Below w.heap.size w w' := by
  have HB := Lib.hid (entB_eq x0 x1 x2 x3)
  have HK := Lib.hid (keyB_parts x0)
  by_cases h0 : x0.size = 0
  · have g0 := toList_nil h0
    have HN := Lib.hid (show entB (x0, x1, x2, x3) = false by rw [HB.out, HK.out]; simp [inB, h0])
    clear h0
    have T1 : True := trivial
    go_enter Tryd.func30, Tryd.ntmps30
    go_wp2
    go_ret
    exact ⟨ret_bool (by rw [HN.out]), (by repeat (first | exact Below.refl _ _ | (refine Below.alloc ?_ (by first | (simp; done) | (simp; omega)) _) | (refine Below.setCell ?_ (by first | (simp; done) | (simp; omega)) _) | (refine Below.drew ?_)))⟩
  have g0 := toList_ne h0
  have g1 : (x0.toList == []) = false := by simpa using g0
  have g2 : x0.toList.isEmpty = false := by simpa using g0
  by_cases h1 : 24 < x0.size
  · have HN := Lib.hid (show entB (x0, x1, x2, x3) = false by rw [HB.out, HK.out]; simp [inB]; omega)
    have h1i : (24 : Int) < (x0.size : Int) := by omega
    clear h0
    have T1 : True := trivial
    go_enter Tryd.func30, Tryd.ntmps30
    go_wp2
    go_ret
    exact ⟨ret_bool (by rw [HN.out]), (by repeat (first | exact Below.refl _ _ | (refine Below.alloc ?_ (by first | (simp; done) | (simp; omega)) _) | (refine Below.setCell ?_ (by first | (simp; done) | (simp; omega)) _) | (refine Below.drew ?_)))⟩
  have h1i : ¬ (24 : Int) < (x0.size : Int) := by omega
  have h1d : decide (24 < x0.size) = false := decide_eq_false (by omega)
  have HI := Lib.hid (show inB x0.size 1 24 = true by simp [inB]; omega)
  clear h0 h1
  cases h2 : bytesB x0 46 with
  | false =>
    have HN := Lib.hid (show entB (x0, x1, x2, x3) = false by rw [HB.out, HK.out, h2]; rfl)
    have H2 := Lib.hid h2
    clear h2
    have T1 : True := trivial
    go_enter Tryd.func30, Tryd.ntmps30
    go_wp2_with (first | (go_at_call 44; clear T1; refine (bytesOk_any x0 46 _ s0).mono ?_; rintro e w' ⟨rfl, rfl⟩; rw [H2.out]))
    go_ret
    exact ⟨ret_bool (by rw [HN.out]), (by repeat (first | exact Below.refl _ _ | (refine Below.alloc ?_ (by first | (simp; done) | (simp; omega)) _) | (refine Below.setCell ?_ (by first | (simp; done) | (simp; omega)) _) | (refine Below.drew ?_)))⟩
  | true =>
    have H2 := Lib.hid h2
    cases h3 : hasC x0 with
    | true =>
      have HN := Lib.hid (show entB (x0, x1, x2, x3) = false by rw [HB.out, HK.out, h2, h3]; rfl)
      have H3 := Lib.hid h3
      clear h2 h3
      have T1 : True := trivial
      go_enter Tryd.func30, Tryd.ntmps30
      go_wp2_with (first | (go_at_call 44; clear T1; refine (bytesOk_any x0 46 _ s0).mono ?_; rintro e w' ⟨rfl, rfl⟩; rw [H2.out]) | (go_at_call 45; refine (contains_any x0 _).mono ?_; rintro e w' ⟨rfl, rfl⟩; rw [H3.out]))
      go_ret
      exact ⟨ret_bool (by rw [HN.out]), (by repeat (first | exact Below.refl _ _ | (refine Below.alloc ?_ (by first | (simp; done) | (simp; omega)) _) | (refine Below.setCell ?_ (by first | (simp; done) | (simp; omega)) _) | (refine Below.drew ?_)))⟩
    | false =>
      have H3 := Lib.hid h3
      have HE := Lib.hid (show entB (x0, x1, x2, x3) = (inB x1 1 99999999 && valB x3 && (!x2 || decide (x3.size = 0))) by rw [HB.out, HK.out, h2, h3, HI.out]; rfl)
      clear h2 h3
      by_cases h4 : x1 < 1
      · have HN := Lib.hid (show entB (x0, x1, x2, x3) = false by rw [HE.out]; simp [inB]; omega)
        have h4d : decide (x1 < 1) = true := decide_eq_true h4
        have T1 : True := trivial
        go_enter Tryd.func30, Tryd.ntmps30
        go_wp2_with (first | (go_at_call 44; clear T1; refine (bytesOk_any x0 46 _ s0).mono ?_; rintro e w' ⟨rfl, rfl⟩; rw [H2.out]) | (go_at_call 45; refine (contains_any x0 _).mono ?_; rintro e w' ⟨rfl, rfl⟩; rw [H3.out]))
        go_ret
        exact ⟨ret_bool (by rw [HN.out]), (by repeat (first | exact Below.refl _ _ | (refine Below.alloc ?_ (by first | (simp; done) | (simp; omega)) _) | (refine Below.setCell ?_ (by first | (simp; done) | (simp; omega)) _) | (refine Below.drew ?_)))⟩
      have h4d : decide (x1 < 1) = false := decide_eq_false h4
      by_cases h5 : 99999999 < x1
      · have HN := Lib.hid (show entB (x0, x1, x2, x3) = false by rw [HE.out]; simp [inB]; omega)
        have h5d : decide (99999999 < x1) = true := decide_eq_true h5
        have T1 : True := trivial
        go_enter Tryd.func30, Tryd.ntmps30
        go_wp2_with (first | (go_at_call 44; clear T1; refine (bytesOk_any x0 46 _ s0).mono ?_; rintro e w' ⟨rfl, rfl⟩; rw [H2.out]) | (go_at_call 45; refine (contains_any x0 _).mono ?_; rintro e w' ⟨rfl, rfl⟩; rw [H3.out]))
        go_ret
        exact ⟨ret_bool (by rw [HN.out]), (by repeat (first | exact Below.refl _ _ | (refine Below.alloc ?_ (by first | (simp; done) | (simp; omega)) _) | (refine Below.setCell ?_ (by first | (simp; done) | (simp; omega)) _) | (refine Below.drew ?_)))⟩
      have h5d : decide (99999999 < x1) = false := decide_eq_false h5
      have HS := Lib.hid (show inB x1 1 99999999 = true by simp [inB]; omega)
      have HV : valB x3 = (bytesB x3 32 && decide ((x3.size : Int) ≤ 80)) := by unfold valB bytesB inB; simp
      cases x2 with
      | true =>
        by_cases h6 : x3.size = 0
        · have g6 := toList_nil h6
          have HF := Lib.hid (show entB (x0, x1, true, x3) = bytesB x3 32 by rw [HE.out, HS.out, HV]; simp [h6])
          have h7i : (x3.size : Int) ≤ 80 := by omega
          have h7d : decide (x3.size ≤ 80) = true := decide_eq_true (by omega)
          clear HV h6
          have T1 : True := trivial
          go_enter Tryd.func30, Tryd.ntmps30
          go_wp2_with (first | (go_at_call 44; clear T1; refine (bytesOk_any x0 46 _ s0).mono ?_; rintro e w' ⟨rfl, rfl⟩; rw [H2.out]) | (go_at_call 45; refine (contains_any x0 _).mono ?_; rintro e w' ⟨rfl, rfl⟩; rw [H3.out]) | (go_at_call 44; refine (bytesOk_any x3 32 _ s3).mono ?_; rintro e w' ⟨rfl, rfl⟩))
          go_ret
          exact ⟨ret_bool (by rw [HF.out]), (by repeat (first | exact Below.refl _ _ | (refine Below.alloc ?_ (by first | (simp; done) | (simp; omega)) _) | (refine Below.setCell ?_ (by first | (simp; done) | (simp; omega)) _) | (refine Below.drew ?_)))⟩
        · have g6 := toList_ne h6
          have g7 : (x3.toList == []) = false := by simpa using g6
          have g8 : x3.toList.isEmpty = false := by simpa using g6
          have HN := Lib.hid (show entB (x0, x1, true, x3) = false by rw [HE.out]; simp [h6])
          clear HV h6
          have T1 : True := trivial
          go_enter Tryd.func30, Tryd.ntmps30
          go_wp2_with (first | (go_at_call 44; clear T1; refine (bytesOk_any x0 46 _ s0).mono ?_; rintro e w' ⟨rfl, rfl⟩; rw [H2.out]) | (go_at_call 45; refine (contains_any x0 _).mono ?_; rintro e w' ⟨rfl, rfl⟩; rw [H3.out]))
          go_ret
          exact ⟨ret_bool (by rw [HN.out]), (by repeat (first | exact Below.refl _ _ | (refine Below.alloc ?_ (by first | (simp; done) | (simp; omega)) _) | (refine Below.setCell ?_ (by first | (simp; done) | (simp; omega)) _) | (refine Below.drew ?_)))⟩
      | false =>
        by_cases h7 : 80 < x3.size
        · have HN := Lib.hid (show entB (x0, x1, false, x3) = false by rw [HE.out, HV]; simp; omega)
          have h7i : ¬ (x3.size : Int) ≤ 80 := by omega
          have h7d : decide (x3.size ≤ 80) = false := decide_eq_false (by omega)
          clear HV h7
          have T1 : True := trivial
          go_enter Tryd.func30, Tryd.ntmps30
          go_wp2_with (first | (go_at_call 44; clear T1; refine (bytesOk_any x0 46 _ s0).mono ?_; rintro e w' ⟨rfl, rfl⟩; rw [H2.out]) | (go_at_call 45; refine (contains_any x0 _).mono ?_; rintro e w' ⟨rfl, rfl⟩; rw [H3.out]))
          go_ret
          exact ⟨ret_bool (by rw [HN.out]), (by repeat (first | exact Below.refl _ _ | (refine Below.alloc ?_ (by first | (simp; done) | (simp; omega)) _) | (refine Below.setCell ?_ (by first | (simp; done) | (simp; omega)) _) | (refine Below.drew ?_)))⟩
        · have h7i : (x3.size : Int) ≤ 80 := by omega
          have h7d : decide (x3.size ≤ 80) = true := decide_eq_true (by omega)
          have HF := Lib.hid (show entB (x0, x1, false, x3) = bytesB x3 32 by rw [HE.out, HS.out, HV, decide_eq_true h7i]; simp)
          clear HV h7
          have T1 : True := trivial
          go_enter Tryd.func30, Tryd.ntmps30
          go_wp2_with (first | (go_at_call 44; clear T1; refine (bytesOk_any x0 46 _ s0).mono ?_; rintro e w' ⟨rfl, rfl⟩; rw [H2.out]) | (go_at_call 45; refine (contains_any x0 _).mono ?_; rintro e w' ⟨rfl, rfl⟩; rw [H3.out]) | (go_at_call 44; refine (bytesOk_any x3 32 _ s3).mono ?_; rintro e w' ⟨rfl, rfl⟩))
          go_ret
          exact ⟨ret_bool (by rw [HF.out]), (by repeat (first | exact Below.refl _ _ | (refine Below.alloc ?_ (by first | (simp; done) | (simp; omega)) _) | (refine Below.setCell ?_ (by first | (simp; done) | (simp; omega)) _) | (refine Below.drew ?_)))⟩
end Go.Proofs.YtfekpbkcidhbfaaDoor
