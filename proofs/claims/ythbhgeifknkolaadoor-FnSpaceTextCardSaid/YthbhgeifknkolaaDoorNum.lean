import Derived.Test.YthbhgeifknkolaaDoorProg
import Derived.Test.YthbhgeifknkolaaDoorBase
import Derived.Test.YthbhgeifknkolaaDoorIn
import Derived.Lib.Strings
/- Numbers that are read: l3Num of the model and wireNum of the program. -/
namespace Go.Proofs.YthbhgeifknkolaaDoor
open Go Go.RowKit

def digB (c : UInt8) : Bool := decide (48 ≤ (c.toNat : Int) ∧ (c.toNat : Int) ≤ 57)
def numV (l : List UInt8) : Nat := l.foldl (fun n c => n * 10 + (c.toNat - 48)) 0
def numOk (l : List UInt8) : Bool := decide (1 ≤ l.length ∧ l.length ≤ 8) && !(decide (1 < l.length ∧ l[0]? = some 48)) && l.all digB

theorem numV_snoc (l : List UInt8) (c : UInt8) : numV (l ++ [c]) = numV l * 10 + (c.toNat - 48) := by simp [numV, List.foldl_append]
theorem fold_bound : ∀ (l : List UInt8) (n : Nat), l.all digB = true → l.foldl (fun n c => n * 10 + (c.toNat - 48)) n < (n + 1) * 10 ^ l.length
  | [], n, _ => by simp
  | c :: l, n, h => by
    rw [List.all_cons, Bool.and_eq_true] at h
    have h2 : c.toNat ≤ 57 := by
      have := h.1
      simp [digB] at this
      omega
    rw [List.foldl_cons, List.length_cons, Nat.pow_succ]
    have h3 := fold_bound l (n * 10 + (c.toNat - 48)) h.2
    have h4 : (n * 10 + (c.toNat - 48) + 1) * 10 ^ l.length ≤ ((n + 1) * 10) * 10 ^ l.length := Nat.mul_le_mul_right _ (by omega)
    have h5 : (n + 1) * 10 * 10 ^ l.length = (n + 1) * (10 ^ l.length * 10) := by rw [Nat.mul_assoc, Nat.mul_comm 10]
    omega
theorem numV_bound (l : List UInt8) (h : l.all digB = true) : numV l < 10 ^ l.length := by
  have := fold_bound l 0 h
  simpa [numV] using this

theorem take_one_more (s : ByteArray) (k : Nat) (h : k < s.size) : s.data.toList.take (k + 1) = s.data.toList.take k ++ [s[k]] := by
  rw [List.take_succ_eq_append_getElem (by simpa using h)]
  rfl

theorem numV_take (s : ByteArray) (k : Nat) (h : k < s.size) : numV (s.data.toList.take (k + 1)) = numV (s.data.toList.take k) * 10 + (s[k].toNat - 48) := by
  rw [take_one_more s k h, numV_snoc]
theorem dig_take (s : ByteArray) (k : Nat) (h : k < s.size) (h0 : (s.data.toList.take k).all digB = true) (h1 : digB s[k] = true) : (s.data.toList.take (k + 1)).all digB = true := by
  rw [take_one_more s k h, List.all_append, h0]; simp [h1]
theorem dig_no (s : ByteArray) (k : Nat) (h : k < s.size) (h1 : digB s[k] = false) : numOk s.data.toList = false := by
  have hm : s[k] ∈ s.data.toList := by
    have : s.data.toList[k]'(by simpa using h) = s[k] := rfl
    rw [← this]; exact List.getElem_mem _
  have : s.data.toList.all digB = false := by rw [List.all_eq_false]; exact ⟨_, hm, by simp [h1]⟩
  simp [numOk, this]
theorem num_small (s : ByteArray) (k : Nat) (hk : k ≤ 8) (h0 : (s.data.toList.take k).all digB = true) : numV (s.data.toList.take k) < 100000000 := by
  have h1 := numV_bound _ h0
  have h2 : (s.data.toList.take k).length ≤ 8 := by rw [List.length_take]; omega
  exact Nat.lt_of_lt_of_le h1 (by have := Nat.pow_le_pow_right (n := 10) (by omega) h2; omega)

def numI (l : List UInt8) : Int := if numOk l then (numV l : Int) else -1
theorem numI_no {l : List UInt8} (h : numOk l = false) : numI l = -1 := by simp [numI, h]
theorem numI_yes {l : List UInt8} (h : numOk l = true) : numI l = numV l := by simp [numI, h]
theorem numI_le (l : List UInt8) : numI l ≤ 99999999 ∧ -1 ≤ numI l := by
  unfold numI
  split
  · next h =>
    simp [numOk] at h
    have h1 := numV_bound l (by simpa using h.2)
    have h2 := Nat.pow_le_pow_right (n := 10) (by omega) h.1.1.2
    omega
  · omega
theorem size0 (s : ByteArray) (h : 0 < s.size) : s.data.toList[0]? = some s[0] := by
  rw [List.getElem?_eq_getElem (by simpa using h)]
  rfl

set_option maxRecDepth 100000 in
set_option maxHeartbeats 1000000 in
theorem specNum_any (s : ByteArray) (w : World) (hs : s.size ≤ maxLen) :
    Calls Tryd.prog 20 #[.string s] w fun e w' => e = .returned (.int .i64 (numI s.data.toList)) ∧ w = w' := by
  unfold maxLen at hs
  have hlen : s.data.toList.length = s.size := by simp
  by_cases h1 : 1 ≤ s.size ∧ s.size ≤ 8
  · have HI := Lib.hid (show inB s.size 1 8 = true by simp [inB]; omega)
    have h8 : s.size ≤ 8 := h1.2
    have h0 : 0 < s.size := by omega
    have hz := size0 s h0
    by_cases h2 : 1 < s.size ∧ s[0] = 48
    · have HN := Lib.hid (show numI s.data.toList = -1 from numI_no (by unfold numOk; rw [hz, hlen]; simp [h2.1, h2.2]))
      have e1 : (1 : Int) < (s.size : Int) := by omega
      have e2 : ((s[0].toNat : Int) == 48) = true := by rw [h2.2]; rfl
      clear h1 h2 hz hlen
      go_enter Tryd.func20, Tryd.ntmps20
      go_wp2_with (go_at_call 33; refine (in_any _ _ _ _).mono ?_; rintro e w1 ⟨rfl, rfl⟩; rw [HI.out])
      go_ret
      exact ⟨ret_int (by rw [HN.out]), rfl⟩
    · have HF := Lib.hid (show numOk s.data.toList = s.data.toList.all digB by
        unfold numOk; rw [hz, hlen, decide_eq_true h1, decide_eq_false (by intro h; exact h2 ⟨h.1, by simpa using h.2⟩)]; simp)
      have hA : (((1 : Int) < (s.size : Int)) ∧ ((s[0].toNat : Int) == 48) = false) ∨ (s.size : Int) ≤ 1 := by
        by_cases e : 1 < s.size
        · left
          refine ⟨by omega, ?_⟩
          rw [beq_eq_false_iff_ne]
          intro e2
          exact h2 ⟨e, UInt8.toNat_inj.1 (by simpa using (by omega : s[0].toNat = 48))⟩
        · right; omega
      have HL := Lib.hid hlen
      clear h1 h2 hz hlen
      rcases hA with ⟨e1, e2⟩ | e1
      all_goals
        go_enter Tryd.func20, Tryd.ntmps20
        go_wp2_with (go_at_call 33; refine (in_any _ _ _ _).mono ?_; rintro e w1 ⟨rfl, rfl⟩; rw [HI.out])
        go_loop [3, 4] (fun n i => ∃ k : Nat, k ≤ s.size ∧ i = .int .i64 k ∧ n = .int .i64 (numV (s.data.toList.take k)) ∧ (s.data.toList.take k).all digB = true) (fun _ i => s.size - (intOf i).toNat)
        case atStart => exact ⟨0, Nat.zero_le _, rfl, rfl, rfl⟩
        case round =>
          obtain ⟨k, hk, rfl, rfl, hd⟩ := hrel
          have hsm := num_small s k (by omega) hd
          have HD := Lib.hid hd
          clear hd
          by_cases hlt : k < s.size
          · have HV := Lib.hid (numV_take s k hlt)
            by_cases h3 : (s[k].toNat : Int) < 48
            · have HN := Lib.hid (numI_no (dig_no s k hlt (by simp [digB]; omega)))
              go_wp2
              go_ret
              exact ⟨ret_int (by rw [HN.out]), rfl⟩
            · by_cases h4 : 57 < (s[k].toNat : Int)
              · have HN := Lib.hid (numI_no (dig_no s k hlt (by simp [digB]; omega)))
                go_wp2
                go_ret
                exact ⟨ret_int (by rw [HN.out]), rfl⟩
              · have h3' : 48 ≤ (s[k].toNat : Int) := by omega
                have h4' : (s[k].toNat : Int) ≤ 57 := by omega
                go_wp2
                go_round
                case rel => exact ⟨k + 1, by omega, by go_num, by rw [HV.out]; go_num, dig_take s k hlt HD.out (by simp [digB]; omega)⟩
                case measure => simp [intOf]; omega
          · have ht : s.data.toList.take k = s.data.toList := List.take_of_length_le (by rw [HL.out]; omega)
            have HN := Lib.hid (show numI s.data.toList = numV (s.data.toList.take k) by rw [numI_yes (by rw [HF.out, ← ht]; exact HD.out), ht])
            clear ht
            go_wp2
            go_ret
            exact ⟨ret_int (by rw [HN.out]), rfl⟩
  · have HI := Lib.hid (show inB s.size 1 8 = false by simp [inB]; omega)
    have HN := Lib.hid (show numI s.data.toList = -1 from numI_no (by unfold numOk; rw [hlen, decide_eq_false h1]; simp))
    clear h1 hlen
    go_enter Tryd.func20, Tryd.ntmps20
    go_wp2_with (go_at_call 33; refine (in_any _ _ _ _).mono ?_; rintro e w1 ⟨rfl, rfl⟩; rw [HI.out])
    go_ret
    exact ⟨ret_int (by rw [HN.out]), rfl⟩

/-- what wireNum answers -/
def numP (l : List UInt8) : Int := if numOk l then (numV l : Int) else 0
theorem numP_no {l : List UInt8} (h : numOk l = false) : numP l = 0 := by simp [numP, h]
theorem numP_yes {l : List UInt8} (h : numOk l = true) : numP l = numV l := by simp [numP, h]
theorem ret_two {a b : Int} {c d : Bool} (h : a = b) (k : c = d) : Ending.returned (.tuple #[.int .i64 a, .bool c]) = .returned (.tuple #[.int .i64 b, .bool d]) := by rw [h, k]

set_option maxRecDepth 100000 in
set_option maxHeartbeats 1000000 in
theorem implNum_any (s : ByteArray) (w : World) (hs : s.size ≤ maxLen) :
    Calls Tryd.prog 15 #[.string s] w fun e w' => e = .returned (.tuple #[.int .i64 (numP s.data.toList), .bool (numOk s.data.toList)]) ∧ w = w' := by
  unfold maxLen at hs
  have hlen : s.data.toList.length = s.size := by simp
  have hd : s.toList = s.data.toList := ByteArray.toList_eq s
  by_cases h0 : s.size = 0
  · have hz : s.data.toList = [] := List.eq_nil_of_length_eq_zero (by omega)
    have e1 : s.toList = [] := by rw [hd, hz]
    have HO := Lib.hid (show numOk s.data.toList = false by rw [hz]; rfl)
    clear hz hd hlen h0
    go_enter Tryd.func15, Tryd.ntmps15
    go_wp2
    go_ret2
    exact ⟨ret_two (by rw [numP_no HO.out]) (by rw [HO.out]), rfl⟩
  · have hp : 0 < s.size := by omega
    have hne : s.data.toList ≠ [] := fun h => by simp [h] at hlen; omega
    have e1 : ¬ s.toList = [] := by rw [hd]; exact hne
    have e2 : s.toList.isEmpty = false := by simpa using e1
    clear hd hne h0
    by_cases h8 : 8 < (s.size : Int)
    · have HO := Lib.hid (show numOk s.data.toList = false by unfold numOk; rw [hlen, decide_eq_false (by omega)]; simp)
      clear hlen
      go_enter Tryd.func15, Tryd.ntmps15
      go_wp2
      go_ret2
      exact ⟨ret_two (by rw [numP_no HO.out]) (by rw [HO.out]), rfl⟩
    · have h8' : (s.size : Int) ≤ 8 := by omega
      have hz := size0 s hp
      by_cases h2 : 1 < s.size ∧ s[0] = 48
      · have HO := Lib.hid (show numOk s.data.toList = false by unfold numOk; rw [hz, hlen]; simp [h2.1, h2.2])
        have e3 : (1 : Int) < (s.size : Int) := by omega
        have e4 : ((s[0].toNat : Int) == 48) = true := by rw [h2.2]; rfl
        clear h2 hz hlen
        go_enter Tryd.func15, Tryd.ntmps15
        go_wp2
        go_ret2
        exact ⟨ret_two (by rw [numP_no HO.out]) (by rw [HO.out]), rfl⟩
      · have HF := Lib.hid (show numOk s.data.toList = s.data.toList.all digB by
          unfold numOk; rw [hz, hlen, decide_eq_true (by omega), decide_eq_false (by intro h; exact h2 ⟨h.1, by simpa using h.2⟩)]; simp)
        have hA : (((1 : Int) < (s.size : Int)) ∧ ((s[0].toNat : Int) == 48) = false) ∨ (s.size : Int) ≤ 1 := by
          by_cases e : 1 < s.size
          · left
            refine ⟨by omega, ?_⟩
            rw [beq_eq_false_iff_ne]
            intro e2
            exact h2 ⟨e, UInt8.toNat_inj.1 (by simpa using (by omega : s[0].toNat = 48))⟩
          · right; omega
        have HL := Lib.hid hlen
        clear h2 hz hlen
        rcases hA with ⟨e3, e4⟩ | e3
        all_goals
          go_enter Tryd.func15, Tryd.ntmps15
          go_wp2
          go_loop [4, 25] (fun n i => ∃ k : Nat, k ≤ s.size ∧ i = .int .i64 k ∧ n = .int .i64 (numV (s.data.toList.take k)) ∧ (s.data.toList.take k).all digB = true) (fun _ i => s.size - (intOf i).toNat)
          case atStart => exact ⟨0, Nat.zero_le _, rfl, rfl, rfl⟩
          case round =>
            obtain ⟨k, hk, rfl, rfl, hd⟩ := hrel
            have hsm := num_small s k (by omega) hd
            have HD := Lib.hid hd
            clear hd
            by_cases hlt : k < s.size
            · have HV := Lib.hid (numV_take s k hlt)
              by_cases h3 : (s[k].toNat : Int) < 48
              · have HO := Lib.hid (dig_no s k hlt (by simp [digB]; omega))
                go_wp2
                go_ret2
                exact ⟨ret_two (by rw [numP_no HO.out]) (by rw [HO.out]), rfl⟩
              · by_cases h4 : 57 < (s[k].toNat : Int)
                · have HO := Lib.hid (dig_no s k hlt (by simp [digB]; omega))
                  go_wp2
                  go_ret2
                  exact ⟨ret_two (by rw [numP_no HO.out]) (by rw [HO.out]), rfl⟩
                · have h3' : 48 ≤ (s[k].toNat : Int) := by omega
                  have h4' : (s[k].toNat : Int) ≤ 57 := by omega
                  go_wp2
                  go_round
                  case rel => exact ⟨k + 1, by omega, by go_num, by rw [HV.out]; go_num, dig_take s k hlt HD.out (by simp [digB]; omega)⟩
                  case measure => simp [intOf]; omega
            · have ht : s.data.toList.take k = s.data.toList := List.take_of_length_le (by rw [HL.out]; omega)
              have HO := Lib.hid (show numOk s.data.toList = true by rw [HF.out, ← ht]; exact HD.out)
              have HN := Lib.hid (show numP s.data.toList = numV (s.data.toList.take k) by rw [numP_yes HO.out, ht])
              clear ht
              go_wp2
              go_ret2
              exact ⟨ret_two (by rw [HN.out]) (by rw [HO.out]), rfl⟩
end Go.Proofs.YthbhgeifknkolaaDoor
