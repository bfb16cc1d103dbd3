import Derived.Test.YtbioljpjpflboaaGreatDoorMarksOk
/- Marks and bodies, as the model has them. -/
namespace Go.Proofs.YtbioljpjpflboaaGreatDoor
open Go Go.RowKit
attribute [local go_sem] run_geqS

theorem specName_is {s : ByteArray} (hs : s.size ≤ maxLen) {b : Bool} (h : nameB s.data.toList = b) (w : World) :
    Calls Tryz.prog 93 #[.string s] w fun e w' => e = .returned (.bool b) ∧ w' = w :=
  (spec_name s w hs).mono fun _ _ ⟨h1, k⟩ => ⟨by rw [h1, h], k.symm⟩

set_option maxRecDepth 100000 in
set_option maxHeartbeats 2000000 in
theorem specMarks_any (a : Option Addr) (c : Nat) (l : List ByteArray) (w : World) (hl : StrS w a l) (hlen : l.length ≤ 1048576) :
    Calls Tryz.prog 94 #[.slice a l.length c] w fun e w' => e = .returned (.bool (marksB l)) ∧ Below w.heap.size w w' := by
  obtain ⟨_, hz, hl⟩ := hl
  have HZ := Lib.hid hz
  clear hz
  go_enter Tryz.func94, Tryz.ntmps94
  go_wp2
  go_loopw [3] (fun i wr => ∃ k : Nat, k ≤ l.length ∧ i = .int .i64 k ∧ allNames l k = true ∧ ascTo l k = true ∧ Below w.heap.size w wr) (fun i _ => l.length - (intOf i).toNat)
  case atStart => exact ⟨0, Nat.zero_le _, rfl, rfl, rfl, Below.refl _ _⟩
  case round =>
    obtain ⟨k, hk, rfl, hal, has, hbel⟩ := hrel
    have HB := Lib.hid hbel
    clear hbel
    have HA := Lib.hid hal
    have HS := Lib.hid has
    clear hal has
    by_cases hlt : k < l.length
    · obtain ⟨b, o, rfl, hcell⟩ := hl.resolve_left (fun e => by subst e; simp at hlt)
      have hbl : b < w.heap.size := by have := World.block_lt_of_cell? w _ (hcell k hlt); simpa using this
      have c1 : wr.cell? ⟨b, o + k, none⟩ = some (.string l[k]) := (HB.out.cell (by simpa using hbl)).trans (hcell k hlt)
      have hz := HZ.out l[k] (List.getElem_mem hlt)
      have hki : (k : Int) < (l.length : Int) := by omega
      have hk0 : (0 : Int) ≤ (k : Int) := by omega
      cases hn : nameB l[k].data.toList with
      | false =>
        have HN := Lib.hid hn
        have HF := Lib.hid (show marksB l = false by unfold marksB; rw [allNames_no hlt hn]; simp)
        clear hn hcell
        go_wp2
        go_quiet ((go_at_call 93; exact Calls.quiet_of_same (specName_is hz HN.out _)))
        go_wp2
        go_ret
        exact ⟨ret_bool (by rw [HF.out]), below_drewN HB.out _⟩
      | true =>
        have HN := Lib.hid hn
        have HAS := Lib.hid (show allNames l (k + 1) = true by rw [allNames_succ hlt, HA.out, hn]; rfl)
        clear hn
        by_cases h0 : k = 0
        · have HSS := Lib.hid (show ascTo l (k + 1) = true by rw [h0]; rfl)
          have hkd : decide (0 < k) = false := decide_eq_false (by omega)
          have hkle : (k : Int) ≤ 0 := by omega
          clear hcell h0
          go_wp2
          go_quiet ((go_at_call 93; exact Calls.quiet_of_same (specName_is hz HN.out _)))
          go_wp2
          go_roundw
          case rel => exact ⟨k + 1, by omega, by go_num, HAS.out, HSS.out, below_drewN HB.out _⟩
          case measure => simp [intOf]; omega
        · obtain ⟨m, hm⟩ : ∃ m, m + 1 = k := ⟨k - 1, by omega⟩
          have hml : m < l.length := by omega
          have hkp : (0 : Int) < (k : Int) := by omega
          have hkd : decide (0 < k) = true := decide_eq_true (by omega)
          have c0 : wr.cell? ⟨b, o + m, none⟩ = some (.string l[m]) := (HB.out.cell (by simpa using hbl)).trans (hcell m hml)
          have hki2 := wrap_sub hm.symm (by omega)
          have hm0 : (m : Int) < (l.length : Int) := by omega
          have hm1 : (0 : Int) ≤ (m : Int) := by omega
          have hkm : (k : Int) - 1 = (m : Int) := by omega
          have hwm : IntKind.i64.wrap (m : Int) = (m : Int) := by have h := hki2; rw [hkm] at h; exact h
          have HKS := Lib.hid (show ascTo l (k + 1) = (decide (k = 0) || ltS l[m] l[k]) by
            rw [ascTo_succ, HS.out, getD_at hlt, show k - 1 = m by omega, getD_at hml]; rfl)
          have HKN := Lib.hid (show ltS l[m] l[k] = false → ascTo l l.length = false from fun h => ascTo_no hlt (by rw [getD_at hlt, show k - 1 = m by omega, getD_at hml, h]; simp; omega))
          have HM := Lib.hid hm
          clear hcell h0
          cases hlt2 : ltS l[m] l[k] with
          | true =>
            have q : Op.bytesLess l[m].toList l[k].toList = true := hlt2
            have HSS := Lib.hid (show ascTo l (k + 1) = true by rw [HKS.out, hlt2]; simp)
            clear hlt2
            go_wp2
            go_quiet ((go_at_call 93; exact Calls.quiet_of_same (specName_is hz HN.out _)))
            go_wp2
            go_roundw
            case rel => exact ⟨k + 1, by omega, by go_num, HAS.out, HSS.out, below_drewN HB.out _⟩
            case measure => simp [intOf]; omega
          | false =>
            have q : Op.bytesLess l[m].toList l[k].toList = false := hlt2
            have HF := Lib.hid (show marksB l = false by unfold marksB; rw [HKN.out hlt2]; simp)
            clear hlt2
            go_wp2
            go_quiet ((go_at_call 93; exact Calls.quiet_of_same (specName_is hz HN.out _)))
            go_wp2
            go_ret
            exact ⟨ret_bool (by rw [HF.out]), below_drewN HB.out _⟩
    · have HE := Lib.hid (show marksB l = decide (l.length ≤ 2) by
        have h1 := HA.out
        have h2 := HS.out
        have e : k = l.length := by omega
        rw [e] at h1 h2
        unfold marksB
        rw [h1, h2]; simp)
      go_wp2
      go_ret
      exact ⟨ret_bool (by rw [HE.out]; exact decide_eq_decide.2 (by omega)), HB.out⟩

def lowC (lo : Int) (c : UInt8) : Bool := decide (lo ≤ (c.toNat : Int) ∧ (c.toNat : Int) ≤ 126)
def bytesIn (lo : Int) (s : ByteArray) : Bool := s.data.toList.all (lowC lo)
theorem all_nextT {p : UInt8 → Bool} (s : ByteArray) (k : Nat) (h : k < s.size) (h0 : (s.data.toList.take k).all p = true) (h1 : p s[k] = true) :
    (s.data.toList.take (k + 1)).all p = true := by
  rw [List.take_succ_eq_append_getElem (by simpa using h), List.all_append, h0]
  have e : s.data.toList[k]'(by simpa using h) = s[k] := rfl
  simp [e, h1]
theorem all_notT {p : UInt8 → Bool} (s : ByteArray) (k : Nat) (h : k < s.size) (h1 : p s[k] = false) : s.data.toList.all p = false := by
  have hm : s[k] ∈ s.data.toList := by
    have : s.data.toList[k]'(by simpa using h) = s[k] := rfl
    rw [← this]; exact List.getElem_mem _
  rw [List.all_eq_false]
  exact ⟨_, hm, by simp [h1]⟩
theorem all_endT {p : UInt8 → Bool} (s : ByteArray) (k : Nat) (h : ¬ k < s.size) (h0 : (s.data.toList.take k).all p = true) : s.data.toList.all p = true := by
  rwa [List.take_of_length_le (by simp; omega)] at h0
/-- what can be the body of a thing -/
def bodyB1 (s : ByteArray) : Bool := decide (s.size ≤ 40) && bytesIn 32 s

set_option maxHeartbeats 400000 in
theorem specVal_any (s : ByteArray) (w : World) (hs : s.size ≤ maxLen) :
    Calls Tryz.prog 113 #[.string s] w fun e w' => e = .returned (.bool (bytesIn 32 s && decide (s.size ≤ 80))) ∧ w = w' := by
  unfold maxLen at hs
  go_enter Tryz.func113, Tryz.ntmps113
  go_wp2
  go_loop [3] (fun i => ∃ k : Nat, k ≤ s.size ∧ i = .int .i64 k ∧ (s.data.toList.take k).all (lowC 32) = true) (fun i => s.size - (intOf i).toNat)
  case atStart => exact ⟨0, Nat.zero_le _, rfl, rfl⟩
  case round =>
    obtain ⟨k, hk, rfl, hl⟩ := hrel
    have HL := Lib.hid hl
    clear hl
    by_cases hlt : k < s.size
    · cases hc : lowC 32 s[k] with
      | false =>
        have HN := Lib.hid (show (bytesIn 32 s && decide (s.size ≤ 80)) = false by unfold bytesIn; rw [all_notT s k hlt hc]; rfl)
        have hc' : (s[k].toNat : Int) < 32 ∨ 126 < (s[k].toNat : Int) := by simp only [lowC, decide_eq_false_iff_not] at hc; omega
        clear hc
        by_cases h1 : (s[k].toNat : Int) < 32
        · go_wp2
          go_ret
          exact ⟨ret_bool (by rw [HN.out]), rfl⟩
        · have h2 : 126 < (s[k].toNat : Int) := by omega
          go_wp2
          go_ret
          exact ⟨ret_bool (by rw [HN.out]), rfl⟩
      | true =>
        have HC := Lib.hid hc
        have hc' : ¬ (s[k].toNat : Int) < 32 ∧ ¬ 126 < (s[k].toNat : Int) := by simp only [lowC, decide_eq_true_eq] at hc; omega
        obtain ⟨h1, h2⟩ := hc'
        clear hc
        go_wp2
        go_round
        case rel => exact ⟨k + 1, by omega, by go_num, all_nextT s k hlt HL.out HC.out⟩
        case measure => simp [intOf]; omega
    · have HN := Lib.hid (show bytesIn 32 s = true from all_endT s k hlt HL.out)
      go_wp2
      go_ret
      exact ⟨ret_bool (by rw [HN.out, Bool.true_and]; exact decide_eq_decide.2 (by omega)), rfl⟩

set_option maxHeartbeats 400000 in
theorem specBody_any (s : ByteArray) (w : World) (hs : s.size ≤ maxLen) :
    Calls Tryz.prog 95 #[.string s] w fun e w' => e = .returned (.bool (bodyB1 s)) ∧ w = w' := by
  cases h : (bytesIn 32 s && decide (s.size ≤ 80)) with
  | false =>
    have H := Lib.hid h
    have HN := Lib.hid (show bodyB1 s = false by
      unfold bodyB1
      rw [Bool.and_eq_false_iff] at h ⊢
      rcases h with h | h
      · exact .inr h
      · exact .inl (decide_eq_false (by have := of_decide_eq_false h; omega)))
    clear h
    go_enter Tryz.func95, Tryz.ntmps95
    go_wp2_with fail
    refine (specVal_any s _ hs).mono ?_
    rintro e w1 ⟨rfl, rfl⟩
    rw [H.out]
    go_wp2
    go_ret
    exact ⟨ret_bool (by rw [HN.out]), rfl⟩
  | true =>
    have H := Lib.hid h
    have HN := Lib.hid (show bodyB1 s = decide (s.size ≤ 40) by
      unfold bodyB1
      rw [Bool.and_eq_true] at h
      rw [h.1]; simp)
    clear h
    go_enter Tryz.func95, Tryz.ntmps95
    go_wp2_with fail
    refine (specVal_any s _ hs).mono ?_
    rintro e w1 ⟨rfl, rfl⟩
    rw [H.out]
    go_wp2
    go_ret
    exact ⟨ret_bool (by rw [HN.out]; exact decide_eq_decide.2 (by omega)), rfl⟩

set_option maxHeartbeats 400000 in
theorem implBytes_any (s : ByteArray) (w : World) (hs : s.size ≤ maxLen) :
    Calls Tryz.prog 129 #[.string s, .int .u8 32] w fun e w' => e = .returned (.bool (bytesIn 32 s)) ∧ w = w' := by
  unfold maxLen at hs
  go_enter Tryz.func129, Tryz.ntmps129
  go_wp2
  go_loop [8] (fun i => ∃ k : Nat, k ≤ s.size ∧ i = .int .i64 k ∧ (s.data.toList.take k).all (lowC 32) = true) (fun i => s.size - (intOf i).toNat)
  case atStart => exact ⟨0, Nat.zero_le _, rfl, rfl⟩
  case round =>
    obtain ⟨k, hk, rfl, hl⟩ := hrel
    have HL := Lib.hid hl
    clear hl
    by_cases hlt : k < s.size
    · cases hc : lowC 32 s[k] with
      | false =>
        have HN := Lib.hid (show bytesIn 32 s = false from all_notT s k hlt hc)
        have hc' : (s[k].toNat : Int) < 32 ∨ 126 < (s[k].toNat : Int) := by simp only [lowC, decide_eq_false_iff_not] at hc; omega
        clear hc
        by_cases h1 : (s[k].toNat : Int) < 32
        · go_wp2
          go_ret
          exact ⟨ret_bool (by rw [HN.out]), rfl⟩
        · have h2 : 126 < (s[k].toNat : Int) := by omega
          go_wp2
          go_ret
          exact ⟨ret_bool (by rw [HN.out]), rfl⟩
      | true =>
        have HC := Lib.hid hc
        have hc' : ¬ (s[k].toNat : Int) < 32 ∧ ¬ 126 < (s[k].toNat : Int) := by simp only [lowC, decide_eq_true_eq] at hc; omega
        obtain ⟨h1, h2⟩ := hc'
        clear hc
        go_wp2
        go_round
        case rel => exact ⟨k + 1, by omega, by go_num, all_nextT s k hlt HL.out HC.out⟩
        case measure => simp [intOf]; omega
    · have HN := Lib.hid (show bytesIn 32 s = true from all_endT s k hlt HL.out)
      go_wp2
      go_ret
      exact ⟨ret_bool (by rw [HN.out]), rfl⟩

set_option maxHeartbeats 400000 in
theorem implBody_any (s : ByteArray) (w : World) (hs : s.size ≤ maxLen) :
    Calls Tryz.prog 107 #[.string s] w fun e w' => e = .returned (.bool (bodyB1 s)) ∧ w = w' := by
  have hs' := hs
  unfold maxLen at hs'
  by_cases h : s.size ≤ 40
  · have hi : (s.size : Int) ≤ 40 := by omega
    have HN := Lib.hid (show bodyB1 s = bytesIn 32 s by unfold bodyB1; rw [decide_eq_true h, Bool.true_and])
    clear h
    go_enter Tryz.func107, Tryz.ntmps107
    go_wp2_with fail
    refine (implBytes_any s _ hs).mono ?_
    rintro e w1 ⟨rfl, rfl⟩
    go_wp2
    go_ret
    exact ⟨ret_bool (by rw [HN.out]), rfl⟩
  · have hi : (40 : Int) < (s.size : Int) := by omega
    have HN := Lib.hid (show bodyB1 s = false by unfold bodyB1; rw [decide_eq_false h]; rfl)
    clear h
    go_enter Tryz.func107, Tryz.ntmps107
    go_wp2
    go_ret
    exact ⟨ret_bool (by rw [HN.out]), rfl⟩

set_option maxHeartbeats 400000 in
theorem count_any (n lo : Int) (w : World) :
    Calls Tryz.prog 67 #[.int .i64 n, .int .i64 lo] w fun e w' => e = .returned (.bool (inB n lo 99999)) ∧ w = w' := by
  by_cases h : lo ≤ n
  · have HN := Lib.hid (show inB n lo 99999 = decide (n ≤ 99999) by unfold inB; simp [h])
    go_enter Tryz.func67, Tryz.ntmps67
    go_wp2
    go_ret
    exact ⟨ret_bool (by rw [HN.out]), rfl⟩
  · have hi : n < lo := by omega
    have HN := Lib.hid (show inB n lo 99999 = false by unfold inB; simp [h])
    clear h
    go_enter Tryz.func67, Tryz.ntmps67
    go_wp2
    go_ret
    exact ⟨ret_bool (by rw [HN.out]), rfl⟩
end Go.Proofs.YtbioljpjpflboaaGreatDoor
