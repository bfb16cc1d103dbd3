import Derived.Test.YtgjfflfldddebaaDoorFramePutS
import Derived.Test.YtgjfflfldddebaaDoorItoa
import Derived.Test.YtgjfflfldddebaaDoorHashI
import Derived.WalkLawsBesides
/- Blocks of the program: their heads and how many there are. -/
namespace Go.Proofs.YtgjfflfldddebaaDoor
open Go Go.RowKit

/-- the head of a block, of whatever numbers -/
def headI (t n p q : Int) : ByteArray := ⟨(Lib.itoa t).toArray⟩ ++ ⟨#[32]⟩ ++ ⟨(Lib.itoa n).toArray⟩ ++ ⟨#[32]⟩ ++ ⟨(Lib.itoa p).toArray⟩ ++ ⟨#[32]⟩ ++ ⟨(Lib.itoa q).toArray⟩ ++ ⟨#[58]⟩
theorem itoa_decB (n : Nat) : (⟨(Lib.itoa (n : Int)).toArray⟩ : ByteArray) = decB n := by unfold decB Lib.itoa; rw [if_neg (by omega)]; simp
theorem headI_nat (t n p q : Nat) : headI t n p q = headB t n p q := by
  rw [← headB_eq]; unfold headI; rw [itoa_decB, itoa_decB, itoa_decB, itoa_decB]
theorem dig_bound : ∀ (k n : Nat), n < 10 ^ (k + 1) → (Lib.decDigits n).length ≤ k + 1 := fun k n h => decL_len k n h
theorem itoa_size {n : Int} (h0 : -9223372036854775808 ≤ n) (h1 : n ≤ 9223372036854775807) : (⟨(Lib.itoa n).toArray⟩ : ByteArray).size ≤ 20 := by
  show (Lib.itoa n).toArray.size ≤ 20
  rw [List.size_toArray]
  unfold Lib.itoa
  split
  · rw [List.length_cons]
    have := dig_bound 18 n.natAbs (by omega)
    omega
  · have := dig_bound 18 n.toNat (by omega)
    omega

set_option maxRecDepth 100000 in
set_option maxHeartbeats 1000000 in
theorem frameHead_any (t n p q : Int) (ht : -9223372036854775808 ≤ t ∧ t ≤ 9223372036854775807) (hn : -9223372036854775808 ≤ n ∧ n ≤ 9223372036854775807) (hp : -9223372036854775808 ≤ p ∧ p ≤ 9223372036854775807) (hq : -9223372036854775808 ≤ q ∧ q ≤ 9223372036854775807) (w : World)
    (htab : Lib.TabIs Tryd.prog w "internal/strconv.uint64pow10" .u64 Lib.pow10Tab) :
    Calls Tryd.prog 49 #[.int .i64 t, .int .i64 n, .int .i64 p, .int .i64 q] w fun e w' => e = .returned (.string (headI t n p q)) ∧ Below w.heap.size w w' := by
  have HT := Lib.hid htab
  have z1 := itoa_size ht.1 ht.2
  have z2 := itoa_size hn.1 hn.2
  have z3 := itoa_size hp.1 hp.2
  have z4 := itoa_size hq.1 hq.2
  have HH := Lib.hid (show ((⟨(Lib.itoa t).toArray⟩ : ByteArray) ++ ⟨#[32]⟩ ++ ⟨(Lib.itoa n).toArray⟩ ++ ⟨#[32]⟩ ++ ⟨(Lib.itoa p).toArray⟩ ++ ⟨#[32]⟩ ++ ⟨(Lib.itoa q).toArray⟩ ++ ⟨#[58]⟩ : ByteArray) = headI t n p q from rfl)
  clear htab
  go_enter Tryd.func49, Tryd.ntmps49
  go_wp2_with fail
  refine (Tryd.strconv_Itoa t ht.1 ht.2 _ HT.out).mono ?_
  rintro e w1 ⟨rfl, k1, os1, rfl⟩
  have B1 := Lib.hid (below_grow w k1 os1)
  generalize Go.Sort.grow (w.drewN k1) os1 = w1 at B1 ⊢
  have T1 := Lib.hid (tab_below HT.out B1.out)
  generalize (⟨(Lib.itoa t).toArray⟩ : ByteArray) = d1 at HH z1 ⊢
  have f1 : ¬ 9223372036854775807 < d1.size + 1 := by omega
  go_wp2_with fail
  refine (Tryd.strconv_Itoa n hn.1 hn.2 _ T1.out).mono ?_
  rintro e w2 ⟨rfl, k2, os2, rfl⟩
  have b2 := below_grow w1 k2 os2
  generalize Go.Sort.grow (w1.drewN k2) os2 = w2 at b2 ⊢
  have B2 := Lib.hid (B1.out.trans (b2.mono B1.out.size))
  have T2 := Lib.hid (tab_below T1.out b2)
  clear b2
  generalize (⟨(Lib.itoa n).toArray⟩ : ByteArray) = d2 at HH z2 ⊢
  have f2 : ¬ 9223372036854775807 < d1.size + 1 + d2.size := by omega
  have f3 : ¬ 9223372036854775807 < d1.size + 1 + d2.size + 1 := by omega
  go_wp2_with fail
  refine (Tryd.strconv_Itoa p hp.1 hp.2 _ T2.out).mono ?_
  rintro e w3 ⟨rfl, k3, os3, rfl⟩
  have b3 := below_grow w2 k3 os3
  generalize Go.Sort.grow (w2.drewN k3) os3 = w3 at b3 ⊢
  have B3 := Lib.hid (B2.out.trans (b3.mono B2.out.size))
  have T3 := Lib.hid (tab_below T2.out b3)
  clear b3
  generalize (⟨(Lib.itoa p).toArray⟩ : ByteArray) = d3 at HH z3 ⊢
  have f4 : ¬ 9223372036854775807 < d1.size + 1 + d2.size + 1 + d3.size := by omega
  have f5 : ¬ 9223372036854775807 < d1.size + 1 + d2.size + 1 + d3.size + 1 := by omega
  go_wp2_with fail
  refine (Tryd.strconv_Itoa q hq.1 hq.2 _ T3.out).mono ?_
  rintro e w4 ⟨rfl, k4, os4, rfl⟩
  have b4 := below_grow w3 k4 os4
  generalize Go.Sort.grow (w3.drewN k4) os4 = w4 at b4 ⊢
  have B4 := Lib.hid (B3.out.trans (b4.mono B3.out.size))
  clear b4
  generalize (⟨(Lib.itoa q).toArray⟩ : ByteArray) = d4 at HH z4 ⊢
  have f6 : ¬ 9223372036854775807 < d1.size + 1 + d2.size + 1 + d3.size + 1 + d4.size := by omega
  have f7 : ¬ 9223372036854775807 < d1.size + 1 + d2.size + 1 + d3.size + 1 + d4.size + 1 := by omega
  go_wp2
  go_ret
  exact ⟨ret_str HH.out, B4.out⟩

set_option maxRecDepth 100000 in
set_option maxHeartbeats 800000 in
theorem frameParts_any (m : Nat) (hm : m ≤ 1099511627776) (w : World) : Calls Tryd.prog 28 #[.int .i64 m] w fun e w' => e = .returned (.int .i64 (partsN m)) ∧ w = w' := by
  have hm0 : (0 : Int) ≤ (m : Int) := by omega
  go_enter Tryd.func28, Tryd.ntmps28
  go_wp2
  all_goals
    go_ret
    exact ⟨ret_int (by unfold partsN; omega), rfl⟩

set_option maxRecDepth 100000 in
set_option maxHeartbeats 1000000 in
theorem frameOk_any (t n : Int) (x : ByteArray) (hx : x.size ≤ maxLen) (w : World) : Calls Tryd.prog 27 #[.int .i64 t, .int .i64 n, .string x] w fun e w' => e = .returned (.bool (frameOkB t n x)) ∧ w = w' := by
  unfold maxLen at hx
  by_cases h1 : 0 ≤ t
  · by_cases h2 : t ≤ 99999999
    · by_cases h3 : 0 ≤ n
      · by_cases h4 : n ≤ 99999999
        · by_cases h5 : (x.size : Int) ≤ 2000
          · go_enter Tryd.func27, Tryd.ntmps27
            go_wp2
            go_ret
            exact ⟨ret_bool (by simp [frameOkB, inB]; omega), rfl⟩
          · have h5n : (2000 : Int) < (x.size : Int) := by omega
            clear h5
            go_enter Tryd.func27, Tryd.ntmps27
            go_wp2
            go_ret
            exact ⟨ret_bool (show decide ((x.size : Int) ≤ 2000) = frameOkB t n x by unfold frameOkB; rw [decide_eq_false (show ¬ x.size ≤ 2000 by omega), Bool.and_false, decide_eq_false (by omega)]), rfl⟩
        · have h4n : (99999999 : Int) < n := by omega
          clear h4
          go_enter Tryd.func27, Tryd.ntmps27
          go_wp2
          go_ret
          exact ⟨ret_bool (by simp [frameOkB, inB]; omega), rfl⟩
      · have h3n : n < 0 := by omega
        clear h3
        go_enter Tryd.func27, Tryd.ntmps27
        go_wp2
        go_ret
        exact ⟨ret_bool (by simp [frameOkB, inB]; omega), rfl⟩
    · have h2n : (99999999 : Int) < t := by omega
      clear h2
      go_enter Tryd.func27, Tryd.ntmps27
      go_wp2
      go_ret
      exact ⟨ret_bool (by simp [frameOkB, inB]; omega), rfl⟩
  · have h1n : t < 0 := by omega
    clear h1
    go_enter Tryd.func27, Tryd.ntmps27
    go_wp2
    go_ret
    exact ⟨ret_bool (by simp [frameOkB, inB]; omega), rfl⟩
end Go.Proofs.YtgjfflfldddebaaDoor
