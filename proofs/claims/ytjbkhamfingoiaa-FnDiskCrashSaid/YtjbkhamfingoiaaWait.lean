import Derived.Test.YtjbkhamfingoiaaProg
import Derived.Test.YtjbkhamfingoiaaBase
import Derived.Test.YtjbkhamfingoiaaMark
import Derived.Deep.RegionHeld3
import Derived.Deep.QuietTactic
import Derived.BigQuiet
import Derived.Test.YtjbkhamfingoiaaOpen
/- Wait: what the helpers of the exact laws do with values of this type and with lists of them. -/
namespace Go.Proofs.Ytjbkhamfingoiaa
open Go Go.RowKit Go.ChangeShapes Go.WideShapes

abbrev WaitD := Int × ByteArray
def encWait (x : WaitD) : List Value := [.int .i64 x.1, .string x.2]
theorem encWait_len (x : WaitD) : (encWait x).length = 2 := rfl
def bulkWait (x : WaitD) : Nat := x.2.size
def OkWait (x : WaitD) : Prop := x.2.size ≤ maxLen
def bulkWaitS (l : List WaitD) : Nat := l.length + sumTo bulkWait l l.length

theorem cellsWait {w wr : World} {b o : Nat} {l : List WaitD} (hb : Below w.heap.size w wr) (hc : ∀ j, (h : j < l.length) → ∀ i v, (encWait l[j])[i]? = some v → w.cell? ⟨b, o + j * 2 + i, none⟩ = some v) (k : Nat) (h : k < l.length) :
    wr.cell? ⟨b, o + k * 2, none⟩ = some (.int .i64 l[k].1) ∧ wr.cell? ⟨b, o + k * 2 + 1, none⟩ = some (.string l[k].2) := by
  have g : ∀ i v, (encWait l[k])[i]? = some v → wr.cell? ⟨b, o + k * 2 + i, none⟩ = some v := fun i v hv => by
    have h0 := hc k h i v hv
    rw [hb.cell (by have := World.block_lt_of_cell? w _ h0; simpa using this)]
    exact h0
  exact ⟨g 0 _ rfl, g 1 _ rfl⟩

set_option maxHeartbeats 400000 in
theorem szWait_any (x0 : Int) (x1 : ByteArray) (left : Int) (w : World) (h0 : 0 ≤ left) (h1 : left ≤ 1048576) (s1 : x1.size ≤ maxLen) :
    Calls Try.prog 77 #[.agg #[.int .i64 x0, .string x1], .int .i64 left] w fun e w' => e = .returned (.int .i64 (szR left (bulkWait (x0, x1)))) ∧ Below w.heap.size w w' := by
  unfold maxLen at s1
  have hb : bulkWait (x0, x1) = x1.size := rfl
  rw [hb]
  clear hb
  by_cases g1 : left < (x1.size : Int)
  · have HR := Lib.hid (show szR left (x1.size) = -1 from szR_no (by omega))
    go_enter Try.func77, Try.ntmps77
    go_wp2
    go_ret
    exact ⟨ret_int (by rw [HR.out]), (Below.refl _ _).alloc (Nat.le_refl _) _⟩
  have HR := Lib.hid (show szR left (x1.size)  = left - (x1.size : Int) from (szR_yes (by omega)).trans (by omega))
  have k1 : (x1.size : Int) ≤ left := by omega
  go_enter Try.func77, Try.ntmps77
  go_wp2
  go_ret
  exact ⟨ret_int (by rw [HR.out]), (Below.refl _ _).alloc (Nat.le_refl _) _⟩
theorem szWait_of (x : WaitD) (left : Int) (w : World) (h0 : 0 ≤ left) (h1 : left ≤ 1048576) (hz : OkWait x) :
    Calls Try.prog 77 #[.agg #[.int .i64 x.1, .string x.2], .int .i64 left] w fun e w' => e = .returned (.int .i64 (szR left (bulkWait x))) ∧ Below w.heap.size w w' :=
  szWait_any x.1 x.2 left w h0 h1 hz

set_option maxHeartbeats 400000 in
theorem szWaitS_any (a : Option Addr) (ca : Nat) (l : List WaitD) (left : Int) (w : World) (h0 : 0 ≤ left) (h1 : left ≤ 1048576) (hl : ElS 2 encWait w a l) (hok : ∀ x ∈ l, OkWait x) :
    Calls Try.prog 65 #[.slice a l.length ca, .int .i64 left] w fun e w' => e = .returned (.int .i64 (szR left (bulkWaitS l))) ∧ Below w.heap.size w w' := by
  obtain ⟨hl1, hl⟩ := hl
  unfold maxLen at hl1
  by_cases hlen : left < (l.length : Int)
  · have HR := Lib.hid (show szR left (bulkWaitS l) = -1 by apply szR_no; unfold bulkWaitS; omega)
    go_enter Try.func65, Try.ntmps65
    go_wp2
    go_ret
    exact ⟨ret_int (by rw [HR.out]), Below.refl _ _⟩
  · have hle : (l.length : Int) ≤ left := by omega
    clear hlen
    rcases hl with rfl | ⟨ba, oa, rfl, hca⟩
    · go_enter Try.func65, Try.ntmps65
      go_wp2
      refine wp_loop_rounds 1 ?_
      rw [rounds_succ]
      go_wp2
      go_ret
      exact ⟨ret_int (by rw [szR_yes (by simpa [bulkWaitS, sumTo_nil] using h0)]; simp [bulkWaitS, sumTo_nil]), Below.refl _ _⟩
    · have HC := Lib.hid hca
      clear hca
      go_enter Try.func65, Try.ntmps65
      go_wp2
      go_loopw [1, 5] (fun r i wr => ∃ k : Nat, k ≤ l.length ∧ i = .int .i64 k ∧ r = .int .i64 (left - l.length - sumTo bulkWait l k) ∧ (sumTo bulkWait l k : Int) ≤ left - l.length ∧ Below w.heap.size w wr) (fun _ i _ => l.length - (intOf i).toNat)
      case atStart => exact ⟨0, Nat.zero_le _, rfl, by rw [sumTo_zero]; simp, by rw [sumTo_zero]; omega, Below.refl _ _⟩
      case round =>
        obtain ⟨k, hk, rfl, rfl, hs, hbel⟩ := hrel
        by_cases hlt : k < l.length
        · obtain ⟨c0, c1⟩ := cellsWait hbel HC.out k hlt
          have hz := hok l[k] (List.getElem_mem _)
          have HS := Lib.hid (sumTo_succ bulkWait l k hlt)
          have hle2 := sumTo_le bulkWait l (k + 1)
          by_cases hbig : left - l.length - sumTo bulkWait l k < bulkWait l[k]
          · have HR := Lib.hid (show szR left (bulkWaitS l) = -1 by apply szR_no; rw [HS.out] at hle2; unfold bulkWaitS; omega)
            have HQ := Lib.hid (show szR (left - l.length - sumTo bulkWait l k) (bulkWait l[k]) = -1 from szR_no hbig)
            clear hle2 hbig
            go_wp2_with (go_at_call 77; refine (szWait_of l[k] _ _ (by omega) (by omega) hz).mono ?_; rintro e w1 ⟨rfl, hb1⟩; rw [HQ.out])
            go_ret
            exact ⟨ret_int (by rw [HR.out]), hbel.trans (hb1.mono hbel.size)⟩
          · have HQ := Lib.hid (show szR (left - l.length - sumTo bulkWait l k) (bulkWait l[k]) = left - l.length - sumTo bulkWait l k - bulkWait l[k] from szR_yes (by omega))
            have hge : 0 ≤ left - l.length - sumTo bulkWait l k - bulkWait l[k] := by omega
            clear hle2 hbig
            go_wp2_with (go_at_call 77; refine (szWait_of l[k] _ _ (by omega) (by omega) hz).mono ?_; rintro e w1 ⟨rfl, hb1⟩; rw [HQ.out])
            go_roundw
            case rel => exact ⟨k + 1, by omega, by go_num, by rw [HS.out]; go_num, by rw [HS.out]; omega, hbel.trans (hb1.mono hbel.size)⟩
            case measure => simp [intOf]; omega
        · have HS := Lib.hid (sumTo_full bulkWait l k (by omega))
          go_wp2
          go_ret
          exact ⟨ret_int (by rw [HS.out] at hs ⊢; rw [szR_yes (by unfold bulkWaitS; omega)]; unfold bulkWaitS; omega), hbel⟩

set_option maxRecDepth 100000 in
set_option maxHeartbeats 400000 in
theorem toWait_any (x0 : Int) (x1 : ByteArray) (w : World) :
    Calls Try.prog 78 #[.agg #[.int .i64 x0, .string x1]] w fun e w' => e = .returned (.agg #[.int .i64 x0, .string x1]) ∧ Below w.heap.size w w' := by
  go_enter Try.func78, Try.ntmps78
  go_wp2
  exact bodyPost_ret (v := .agg #[.int .i64 x0, .string x1]) (by simp [results, Try.results78, go_sem]) rfl ⟨rfl, (by repeat (first | exact Below.refl _ _ | (refine Below.alloc ?_ (by first | (simp; done) | (simp; omega)) _) | (refine Below.setCell ?_ (by first | (simp; done) | (simp; omega)) _) | (refine Below.drew ?_)))⟩

theorem infoWait : (Try.prog.info? 43).map (fun i => (i.zero, i.size, i.bytes)) = some (some (.agg #[.int .i64 0, .string ⟨#[]⟩]), 2, 24) := by kernel_rfl
set_option maxRecDepth 100000 in
set_option maxHeartbeats 400000 in
theorem toWaitS_any (a : Option Addr) (ca : Nat) (l : List WaitD) (w : World) (hb : l.length ≤ 1048576) (hl : ElS 2 encWait w a l) :
    Calls Try.prog 67 #[.slice a l.length ca] w fun e w' => e = .returned (.slice (some ⟨w.heap.size, 0, none⟩) l.length l.length) ∧
      w'.ownsRow w.heap.size 43 2 (.slice (some ⟨w.heap.size, 0, none⟩) l.length l.length) l.length (l.flatMap encWait) ∧ Below w.heap.size w w' := by
  obtain ⟨i0, hi, hz0, hz1, hz2⟩ := info_parts infoWait
  obtain ⟨hl1, hl⟩ := hl
  unfold maxLen at hl1
  rcases hl with rfl | ⟨ba, oa, rfl, hca⟩
  · go_enter Try.func67, Try.ntmps67
    go_wp2_with (refine wpList_make_full _ rfl (.tmp 6) (.tmp 6) 24 rfl w.heap.size 43 i0 (.agg #[.int .i64 0, .string ⟨#[]⟩]) 2 Try.underlying24 hi hz0 hz1 .i64 .i64 0 0 0 rfl rfl rfl rfl (by omega) (by unfold maxLen; omega) (Nat.le_refl _) ?_; intro w1 hown hgrow)
    have hbel : Below w.heap.size w w1 := (Below.refl _ _).grown hgrow (Nat.le_refl _) (by simp)
    have HO := Lib.hid hown
    clear hown
    refine wp_loop_rounds 1 ?_
    rw [rounds_succ]
    go_wp2
    go_ret
    exact ⟨rfl, by have h := HO.out; rw [List.eq_nil_of_length_eq_zero (h.1.trans (Nat.zero_mul _))] at h; exact h, hbel⟩
  have HC := Lib.hid hca
  clear hca
  go_enter Try.func67, Try.ntmps67
  go_wp2_with (refine wpList_make_full _ rfl (.tmp 6) (.tmp 6) 24 rfl w.heap.size 43 i0 (.agg #[.int .i64 0, .string ⟨#[]⟩]) 2 Try.underlying24 hi hz0 hz1 .i64 .i64 l.length l.length l.length rfl rfl rfl rfl (by rw [hz2]; omega) (by unfold maxLen; omega) (Nat.le_refl _) ?_; intro w1 hown hgrow)
  have hbel : Below w.heap.size w w1 := (Below.refl _ _).grown hgrow (Nat.le_refl _) (by simp)
  go_loopw [4] (fun i wr => ∃ k : Nat, k ≤ l.length ∧ i = .int .i64 k ∧ ∃ ys, wr.ownsRow w.heap.size 43 2 (.slice (some ⟨w.heap.size, 0, none⟩) l.length l.length) l.length ys ∧ ys.take (k * 2) = (l.flatMap encWait).take (k * 2) ∧ Below w.heap.size w wr) (fun i _ => l.length - (intOf i).toNat)
  case atStart => exact ⟨0, Nat.zero_le _, rfl, _, hown, by simp, hbel⟩
  case round =>
    clear hown hgrow hbel w1
    obtain ⟨k, hk, rfl, ys, hown, ht, hbel⟩ := hrel
    have HT := Lib.hid ht
    have HO := Lib.hid hown
    clear ht
    by_cases hlt : k < l.length
    · obtain ⟨c0, c1⟩ := cellsWait hbel HC.out k hlt
      have hsz : w.heap.size < wr.heap.size := (hown.lt _ rfl).2
      clear hown
      go_wp2_with (go_at_call 78; refine (toWait_any l[k].1 l[k].2 _).mono ?_; rintro e w1 ⟨rfl, hb1⟩; obtain ⟨⟨q0, d0⟩, f0⟩ := own_cells HO.out hb1 (k * 2) (by omega); obtain ⟨⟨q1, d1⟩, f1⟩ := own_cells HO.out hb1 (k * 2 + 1) (by omega))
      have h1 := own_below HO.out hb1
      have hbel1 := hbel.trans (hb1.mono hbel.size)
      have hyl : ys.length = l.length * 2 := HO.out.1
      have hk1 : k * 2 + 2 ≤ l.length * 2 := by rw [← Nat.succ_mul]; exact Nat.mul_le_mul_right _ hlt
      go_roundw
      case rel =>
        refine ⟨k + 1, by omega, by go_num, ((ys.set (k * 2) (.int .i64 l[k].1)).set (k * 2 + 1) (.string l[k].2)), ((h1.stored (k * 2) (.int .i64 l[k].1)).1.stored (k * 2 + 1) (.string l[k].2)).1, ?_, ((hbel1.setCell (Nat.le_refl _) _).setCell (Nat.le_refl _) _)⟩
        rw [show (k + 1) * 2 = k * 2 + 2 from Nat.succ_mul _ _, flat_succ encWait_len l k hlt]
        have t0 : ys.take (k * 2) = _ := HT.out
        have t1 := take_set_next (p := k * 2) (v := .int .i64 l[k].1) (by rw [hyl]; omega) t0
        have t2 := take_set_next (p := k * 2 + 1) (v := .string l[k].2) (by simp only [List.length_set]; rw [hyl]; omega) t1
        refine t2.trans ?_
        simp [encWait]
      case measure => simp [intOf]; omega
    · clear hown
      go_wp2
      go_ret
      have hx : ys = l.flatMap encWait := by
        have h1 := HO.out.1
        have h2 := HT.out
        rwa [List.take_of_length_le (by rw [h1]; exact Nat.mul_le_mul_right _ (by omega)), List.take_of_length_le (by rw [flat_len encWait_len]; exact Nat.mul_le_mul_right _ (by omega))] at h2
      exact ⟨rfl, by rw [← hx]; exact HO.out, hbel⟩

set_option maxRecDepth 100000 in
set_option maxHeartbeats 400000 in
theorem eqWait_any (x0 : Int) (x1 : ByteArray) (w : World) :
    Calls Try.prog 76 #[.agg #[.int .i64 x0, .string x1], .agg #[.int .i64 x0, .string x1]] w fun e w' => e = .returned (.bool true) ∧ Below w.heap.size w w' := by
  go_enter Try.func76, Try.ntmps76
  go_wp2
  go_ret
  exact ⟨rfl, (by repeat (first | exact Below.refl _ _ | (refine Below.alloc ?_ (by first | (simp; done) | (simp; omega)) _) | (refine Below.setCell ?_ (by first | (simp; done) | (simp; omega)) _) | (refine Below.drew ?_)))⟩

set_option maxRecDepth 100000 in
set_option maxHeartbeats 400000 in
theorem eqWaitS_any (a b : Option Addr) (ca cb : Nat) (l : List WaitD) (w : World) (hl : ElS 2 encWait w a l) (hm : ElS 2 encWait w b l) :
    Calls Try.prog 61 #[.slice a l.length ca, .slice b l.length cb] w fun e w' => e = .returned (.bool true) ∧ Below w.heap.size w w' := by
  obtain ⟨hl1, hl⟩ := hl
  obtain ⟨_, hm⟩ := hm
  unfold maxLen at hl1
  have hne : (((l.length : Nat) : Int) != ((l.length : Nat) : Int)) = false := by simp
  have hnil : l = [] → Calls Try.prog 61 #[.slice a l.length ca, .slice b l.length cb] w fun e w' => e = .returned (.bool true) ∧ Below w.heap.size w w' := by
    rintro rfl
    clear hl hm hl1
    go_enter Try.func61, Try.ntmps61
    go_wp2
    refine wp_loop_rounds 1 ?_
    rw [rounds_succ]
    go_wp2
    go_ret
    exact ⟨rfl, Below.refl _ _⟩
  rcases hl with rfl | ⟨ba, oa, rfl, hca⟩
  · exact hnil rfl
  rcases hm with rfl | ⟨bb, ob, rfl, hcb⟩
  · exact hnil rfl
  clear hnil
  have HC := Lib.hid hca
  have HD := Lib.hid hcb
  clear hca hcb
  go_enter Try.func61, Try.ntmps61
  go_wp2
  go_loopw [5] (fun i wr => ∃ k : Nat, k ≤ l.length ∧ i = .int .i64 k ∧ Below w.heap.size w wr) (fun i _ => l.length - (intOf i).toNat)
  case atStart => exact ⟨0, Nat.zero_le _, rfl, Below.refl _ _⟩
  case round =>
    obtain ⟨k, hk, rfl, hbel⟩ := hrel
    by_cases hlt : k < l.length
    · obtain ⟨c0, c1⟩ := cellsWait hbel HC.out k hlt
      obtain ⟨e0, e1⟩ := cellsWait hbel HD.out k hlt
      go_wp2
      go_region_held3 (fun w' => w'.cell? ⟨ba, oa + k * 2, none⟩ = some (.int .i64 l[k].1) ∧ w'.cell? ⟨ba, oa + k * 2 + 1, none⟩ = some (.string l[k].2) ∧ w'.cell? ⟨bb, ob + k * 2, none⟩ = some (.int .i64 l[k].1) ∧ w'.cell? ⟨bb, ob + k * 2 + 1, none⟩ = some (.string l[k].2) ∧ Below w.heap.size w w') (first | exact ⟨c0, c1, e0, e1, hbel.drew⟩ | exact ⟨cc0, cc1, ee0, ee1, hbel1⟩)
        (first | (go_at_call 76; refine (eqWait_any l[k].1 l[k].2 _).mono ?_; rintro e w1 ⟨rfl, hb⟩; have hbel1 := hbel.drew.trans (hb.mono hbel.size); obtain ⟨cc0, cc1⟩ := cellsWait hbel1 HC.out k hlt; obtain ⟨ee0, ee1⟩ := cellsWait hbel1 HD.out k hlt))
      go_wp2
      go_roundw
      case rel => exact ⟨k + 1, by omega, by go_num, hbel1⟩
      case measure => simp [intOf]; omega
    · go_wp2
      go_ret
      exact ⟨rfl, hbel⟩

def mkWait (k : Int) : WaitD := (k, markB (k + 1))
def marksWait (k : Int) (n : Nat) : List WaitD := (List.range n).map fun (j : Nat) => mkWait (k + 2 * (j : Int))
theorem marksWait_len (k : Int) (n : Nat) : (marksWait k n).length = n := by simp [marksWait]
theorem marksWait_get (k : Int) (n j : Nat) (h : j < (marksWait k n).length) : (marksWait k n)[j] = mkWait (k + 2 * (j : Int)) := by simp [marksWait]
theorem marksWait_ok (k : Int) (n : Nat) (hk : k + 2 * (n : Int) ≤ 4611686018427387904) : ∀ x ∈ marksWait k n, OkWait x := by
  intro x hx
  simp only [marksWait, List.mem_map, List.mem_range] at hx
  obtain ⟨j, hj, rfl⟩ := hx
  exact markB_size _ (by omega)
set_option maxRecDepth 100000 in
set_option maxHeartbeats 400000 in
theorem markWaitS_any (base : Nat) (v : Value) (n : Nat) (xs : List Value) (k : Int) (w : World) (hn : n ≤ 1099511627776) (hk0 : 0 ≤ k) (hk : k ≤ 1099511627776) (hown : w.ownsRow base 43 2 v n xs) :
    Calls Try.prog 62 #[v, .int .i64 k] w fun e w' => e = .returned (.int .i64 (k + 2 * n)) ∧
      w'.ownsRow base 43 2 v n ((marksWait k n).flatMap encWait) ∧ KeptOut (fun b => v.ownBlock = some b) w w' := by
  rcases hown.2 with ⟨rfl, rfl⟩ | ⟨g, cap, cur, rfl, hrest⟩
  · go_enter Try.func62, Try.ntmps62
    go_wp2
    refine wp_loop_rounds 1 ?_
    rw [rounds_succ]
    go_wp2
    go_ret
    obtain rfl : xs = [] := List.eq_nil_of_length_eq_zero (hown.1.trans (Nat.zero_mul _))
    exact ⟨ret_int (by omega), hown, KeptOut.refl _ _⟩
  · clear hrest
    have hlen := marksWait_len k n
    go_enter Try.func62, Try.ntmps62
    go_wp2
    go_loopw [1, 5] (fun kk i wr => ∃ j : Nat, j ≤ n ∧ i = .int .i64 j ∧ kk = .int .i64 (k + 2 * j) ∧ ∃ ys, wr.ownsRow base 43 2 (.slice (some ⟨g, 0, none⟩) n cap) n ys ∧ ys.take (j * 2) = ((marksWait k n).flatMap encWait).take (j * 2) ∧ KeptOut (fun b => b = g) w wr) (fun _ i _ => n - (intOf i).toNat)
    case atStart => exact ⟨0, Nat.zero_le _, rfl, by simp, xs, hown, by simp, KeptOut.refl _ _⟩
    case round =>
      clear hown
      obtain ⟨j, hj, rfl, rfl, ys, hown, ht, hkept⟩ := hrel
      have HT := Lib.hid ht
      have HL := Lib.hid hlen
      have HO := Lib.hid hown
      clear ht hlen hown
      by_cases hlt : j < n
      · have hk1 : j * 2 + 2 ≤ n * 2 := by rw [← Nat.succ_mul]; exact Nat.mul_le_mul_right _ hlt
        obtain ⟨⟨q0, d0⟩, f0⟩ := own_cells HO.out (Below.refl _ _) (j * 2) (by omega)
        obtain ⟨⟨q1, d1⟩, f1⟩ := own_cells HO.out (Below.refl _ _) (j * 2 + 1) (by omega)
        go_wp2_with fail
        refine (mark_any _ _ (by omega)).mono ?_
        rintro e w1 ⟨rfl, hb1⟩
        have o1 := own_below (HO.out.stored (j * 2) (.int .i64 (k + 2 * (j : Int)))).1 hb1
        clear d1 f1
        obtain ⟨⟨q1, d1⟩, f1⟩ := own_cells o1 (Below.refl _ _) (j * 2 + 1) (by omega)
        have O1 := Lib.hid o1
        clear o1
        have hyl : ys.length = n * 2 := HO.out.1
        go_wp2
        go_roundw
        case rel =>
          refine ⟨j + 1, by omega, by go_num, by go_num, ((ys.set (j * 2) (.int .i64 (k + 2 * (j : Int)))).set (j * 2 + 1) (.string (markB (k + 2 * (j : Int) + 1)))), (O1.out.stored (j * 2 + 1) (.string (markB (k + 2 * (j : Int) + 1)))).1, ?_, (((hkept.setCell rfl _).trans (.of_below hb1)).setCell rfl _)⟩
          rw [show (j + 1) * 2 = j * 2 + 2 from Nat.succ_mul _ _, flat_succ encWait_len (marksWait k n) j (by rw [HL.out]; exact hlt)]
          have t0 : ys.take (j * 2) = _ := HT.out
          have t1 := take_set_next (p := j * 2) (v := .int .i64 (k + 2 * (j : Int))) (by rw [hyl]; omega) t0
          have t2 := take_set_next (p := j * 2 + 1) (v := .string (markB (k + 2 * (j : Int) + 1))) (by simp only [List.length_set]; rw [hyl]; omega) t1
          refine t2.trans ?_
          simp [encWait, marksWait_get, mkWait, Int.add_assoc]
        case measure => simp [intOf]; omega
      · go_wp2
        go_ret
        have hx : ys = (marksWait k n).flatMap encWait := by
          have h1 := HO.out.1
          have h2 := HT.out
          rwa [List.take_of_length_le (by rw [h1]; exact Nat.mul_le_mul_right _ (by omega)), List.take_of_length_le (by rw [flat_len encWait_len, HL.out]; exact Nat.mul_le_mul_right _ (by omega))] at h2
        exact ⟨ret_int (by omega), by rw [← hx]; exact HO.out, hkept.mono (fun b _ hb => by subst hb; rfl)⟩

theorem cellsMarkWait {w wr : World} {b o : Nat} {k : Int} {n : Nat} (hb : Below w.heap.size w wr) (hc : ∀ j, (h : j < (marksWait k n).length) → ∀ i v, (encWait (marksWait k n)[j])[i]? = some v → w.cell? ⟨b, o + j * 2 + i, none⟩ = some v) (j : Nat) (h : j < n) :
    wr.cell? ⟨b, o + j * 2, none⟩ = some (.int .i64 (k + 2 * (j : Int))) ∧ wr.cell? ⟨b, o + j * 2 + 1, none⟩ = some (.string (markB (k + 2 * (j : Int) + 1))) := by
  have h' : j < (marksWait k n).length := by rw [marksWait_len]; exact h
  have g := cellsWait hb hc j h'
  rw [marksWait_get] at g
  simpa [mkWait, Int.add_assoc] using g

set_option maxRecDepth 100000 in
set_option maxHeartbeats 400000 in
theorem heldWaitS_any (a : Option Addr) (ca : Nat) (n : Nat) (k : Int) (w : World) (hn : n ≤ 1099511627776) (hk0 : 0 ≤ k) (hk : k ≤ 1099511627776) (hl : ElS 2 encWait w a (marksWait k n)) :
    Calls Try.prog 63 #[.slice a n ca, .int .i64 k] w fun e w' => e = .returned (.int .i64 (k + 2 * n)) ∧ Below w.heap.size w w' := by
  obtain ⟨_, hl⟩ := hl
  rcases hl with hl | ⟨ba, oa, rfl, hca⟩
  · obtain rfl : n = 0 := by rw [← marksWait_len k n, hl]; rfl
    clear hl
    go_enter Try.func63, Try.ntmps63
    go_wp2
    refine wp_loop_rounds 1 ?_
    rw [rounds_succ]
    go_wp2
    go_ret
    exact ⟨ret_int (by omega), Below.refl _ _⟩
  · have HC := Lib.hid hca
    clear hca
    go_enter Try.func63, Try.ntmps63
    go_wp2
    go_loopw [1, 5] (fun kk i wr => ∃ j : Nat, j ≤ n ∧ i = .int .i64 j ∧ kk = .int .i64 (k + 2 * j) ∧ Below w.heap.size w wr) (fun _ i _ => n - (intOf i).toNat)
    case atStart => exact ⟨0, Nat.zero_le _, rfl, by simp, Below.refl _ _⟩
    case round =>
      obtain ⟨j, hj, rfl, rfl, hbel⟩ := hrel
      by_cases hlt : j < n
      · obtain ⟨c0, c1⟩ := cellsMarkWait hbel HC.out j hlt
        go_wp2
        go_region_held3 (fun w' => w'.cell? ⟨ba, oa + j * 2 + 1, none⟩ = some (.string (markB (k + 2 * (j : Int) + 1))) ∧ Below w.heap.size w w') (first | exact ⟨c1, hbel.drew⟩ | exact ⟨c1n, bel1⟩)
          (first | (go_at_call 71; refine (mark_any _ _ (by omega)).mono ?_; rintro e w1 ⟨rfl, hb⟩; have bel1 := hbel.drew.trans (hb.mono hbel.size); obtain ⟨c0n, c1n⟩ := cellsMarkWait bel1 HC.out j hlt))
        go_wp2
        go_roundw
        case rel => exact ⟨j + 1, by omega, by go_num, by go_num, bel1⟩
        case measure => simp [intOf]; omega
      · go_wp2
        go_ret
        exact ⟨ret_int (by omega), hbel⟩

set_option maxRecDepth 100000 in
theorem openWait {H : Type} {enc : TypeId × Value → H} {w : World} (n : Nat) (cs : List Value) (y : DataW H × List MemPlace) (h : DataW.trod enc Try.prog w 0 (fun _ => true) true n 97 cs = some y) : ∃ x : WaitD, cs = encWait x ∧ OkWait x := by
  obtain ⟨ys, k, _, _, hl, hyl, hf⟩ := DataW.trod_struct Try.underlying97 h
  rw [show Try.prog.cellsOf 97 = 2 by kernel_rfl] at hl
  have kint : Try.prog.cellsOf 3 = 1 := by kernel_rfl
  have kstr : Try.prog.cellsOf 9 = 1 := by kernel_rfl
  match cs, hl, ys, hyl, hf with
  | [c0, c1], _, [y0, y1], _, hf =>
    obtain ⟨x0, e0, _, _⟩ := DataW.trod_int (fuel := k) (cs := [c0]) (x := y0) Try.underlying3 (by simpa [kint] using hf 0 _ rfl)
    obtain ⟨x1, e1, _, s1⟩ := DataW.trod_string (fuel := k) (cs := [c1]) (x := y1) Try.underlying9 (by simpa [kstr] using hf 1 _ rfl)
    exact ⟨(x0, x1), by rw [List.cons_eq_cons.1 e0 |>.1, List.cons_eq_cons.1 e1 |>.1]; rfl, s1⟩

end Go.Proofs.Ytjbkhamfingoiaa
