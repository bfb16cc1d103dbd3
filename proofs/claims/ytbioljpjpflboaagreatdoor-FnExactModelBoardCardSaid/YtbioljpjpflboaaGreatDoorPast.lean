import Derived.Test.YtbioljpjpflboaaGreatDoorProg
import Derived.Test.YtbioljpjpflboaaGreatDoorBase
import Derived.Test.YtbioljpjpflboaaGreatDoorMark
import Derived.Deep.RegionHeld3
import Derived.Deep.QuietTactic
import Derived.BigQuiet
import Derived.Test.YtbioljpjpflboaaGreatDoorOpen
/- Past: what the helpers of the exact laws do with values of this type and with lists of them. -/
namespace Go.Proofs.YtbioljpjpflboaaGreatDoor
open Go Go.RowKit Go.ChangeShapes Go.WideShapes

abbrev PastD := Int × ByteArray × ByteArray × ByteArray
def encPast (x : PastD) : List Value := [.int .i64 x.1, .string x.2.1, .string x.2.2.1, .string x.2.2.2]
theorem encPast_len (x : PastD) : (encPast x).length = 4 := rfl
def bulkPast (x : PastD) : Nat := x.2.1.size + x.2.2.1.size + x.2.2.2.size
def OkPast (x : PastD) : Prop := x.2.1.size ≤ maxLen ∧ x.2.2.1.size ≤ maxLen ∧ x.2.2.2.size ≤ maxLen
def bulkPastS (l : List PastD) : Nat := l.length + sumTo bulkPast l l.length

theorem cellsPast {w wr : World} {b o : Nat} {l : List PastD} (hb : Below w.heap.size w wr) (hc : ∀ j, (h : j < l.length) → ∀ i v, (encPast l[j])[i]? = some v → w.cell? ⟨b, o + j * 4 + i, none⟩ = some v) (k : Nat) (h : k < l.length) :
    wr.cell? ⟨b, o + k * 4, none⟩ = some (.int .i64 l[k].1) ∧ wr.cell? ⟨b, o + k * 4 + 1, none⟩ = some (.string l[k].2.1) ∧ wr.cell? ⟨b, o + k * 4 + 2, none⟩ = some (.string l[k].2.2.1) ∧ wr.cell? ⟨b, o + k * 4 + 3, none⟩ = some (.string l[k].2.2.2) := by
  have g : ∀ i v, (encPast l[k])[i]? = some v → wr.cell? ⟨b, o + k * 4 + i, none⟩ = some v := fun i v hv => by
    have h0 := hc k h i v hv
    rw [hb.cell (by have := World.block_lt_of_cell? w _ h0; simpa using this)]
    exact h0
  exact ⟨g 0 _ rfl, g 1 _ rfl, g 2 _ rfl, g 3 _ rfl⟩

set_option maxHeartbeats 400000 in
theorem szPast_any (x0 : Int) (x1 : ByteArray) (x2 : ByteArray) (x3 : ByteArray) (left : Int) (w : World) (h0 : 0 ≤ left) (h1 : left ≤ 1048576) (s1 : x1.size ≤ maxLen) (s2 : x2.size ≤ maxLen) (s3 : x3.size ≤ maxLen) :
    Calls Tryz.prog 52 #[.agg #[.int .i64 x0, .string x1, .string x2, .string x3], .int .i64 left] w fun e w' => e = .returned (.int .i64 (szR left (bulkPast (x0, x1, x2, x3)))) ∧ Below w.heap.size w w' := by
  unfold maxLen at s1 s2 s3
  have hb : bulkPast (x0, x1, x2, x3) = x1.size + x2.size + x3.size := rfl
  rw [hb]
  clear hb
  by_cases g1 : left < (x1.size : Int)
  · have HR := Lib.hid (show szR left (x1.size + x2.size + x3.size) = -1 from szR_no (by omega))
    go_enter Tryz.func52, Tryz.ntmps52
    go_wp2
    go_ret
    exact ⟨ret_int (by rw [HR.out]), (Below.refl _ _).alloc (Nat.le_refl _) _⟩
  by_cases g2 : left - (x1.size : Int) < (x2.size : Int)
  · have HR := Lib.hid (show szR left (x1.size + x2.size + x3.size) = -1 from szR_no (by omega))
    go_enter Tryz.func52, Tryz.ntmps52
    go_wp2
    go_ret
    exact ⟨ret_int (by rw [HR.out]), (Below.refl _ _).alloc (Nat.le_refl _) _⟩
  by_cases g3 : left - (x1.size : Int) - (x2.size : Int) < (x3.size : Int)
  · have HR := Lib.hid (show szR left (x1.size + x2.size + x3.size) = -1 from szR_no (by omega))
    go_enter Tryz.func52, Tryz.ntmps52
    go_wp2
    go_ret
    exact ⟨ret_int (by rw [HR.out]), (Below.refl _ _).alloc (Nat.le_refl _) _⟩
  have HR := Lib.hid (show szR left (x1.size + x2.size + x3.size)  = left - (x1.size : Int) - (x2.size : Int) - (x3.size : Int) from (szR_yes (by omega)).trans (by omega))
  have k1 : (x1.size : Int) ≤ left := by omega
  have k2 : (x2.size : Int) ≤ left - (x1.size : Int) := by omega
  have k3 : (x3.size : Int) ≤ left - (x1.size : Int) - (x2.size : Int) := by omega
  go_enter Tryz.func52, Tryz.ntmps52
  go_wp2
  go_ret
  exact ⟨ret_int (by rw [HR.out]), (Below.refl _ _).alloc (Nat.le_refl _) _⟩
theorem szPast_of (x : PastD) (left : Int) (w : World) (h0 : 0 ≤ left) (h1 : left ≤ 1048576) (hz : OkPast x) :
    Calls Tryz.prog 52 #[.agg #[.int .i64 x.1, .string x.2.1, .string x.2.2.1, .string x.2.2.2], .int .i64 left] w fun e w' => e = .returned (.int .i64 (szR left (bulkPast x))) ∧ Below w.heap.size w w' :=
  szPast_any x.1 x.2.1 x.2.2.1 x.2.2.2 left w h0 h1 hz.1 hz.2.1 hz.2.2

set_option maxHeartbeats 400000 in
theorem szPastS_any (a : Option Addr) (ca : Nat) (l : List PastD) (left : Int) (w : World) (h0 : 0 ≤ left) (h1 : left ≤ 1048576) (hl : ElS 4 encPast w a l) (hok : ∀ x ∈ l, OkPast x) :
    Calls Tryz.prog 19 #[.slice a l.length ca, .int .i64 left] w fun e w' => e = .returned (.int .i64 (szR left (bulkPastS l))) ∧ Below w.heap.size w w' := by
  obtain ⟨hl1, hl⟩ := hl
  unfold maxLen at hl1
  by_cases hlen : left < (l.length : Int)
  · have HR := Lib.hid (show szR left (bulkPastS l) = -1 by apply szR_no; unfold bulkPastS; omega)
    go_enter Tryz.func19, Tryz.ntmps19
    go_wp2
    go_ret
    exact ⟨ret_int (by rw [HR.out]), Below.refl _ _⟩
  · have hle : (l.length : Int) ≤ left := by omega
    clear hlen
    rcases hl with rfl | ⟨ba, oa, rfl, hca⟩
    · go_enter Tryz.func19, Tryz.ntmps19
      go_wp2
      refine wp_loop_rounds 1 ?_
      rw [rounds_succ]
      go_wp2
      go_ret
      exact ⟨ret_int (by rw [szR_yes (by simpa [bulkPastS, sumTo_nil] using h0)]; simp [bulkPastS, sumTo_nil]), Below.refl _ _⟩
    · have HC := Lib.hid hca
      clear hca
      go_enter Tryz.func19, Tryz.ntmps19
      go_wp2
      go_loopw [1, 5] (fun r i wr => ∃ k : Nat, k ≤ l.length ∧ i = .int .i64 k ∧ r = .int .i64 (left - l.length - sumTo bulkPast l k) ∧ (sumTo bulkPast l k : Int) ≤ left - l.length ∧ Below w.heap.size w wr) (fun _ i _ => l.length - (intOf i).toNat)
      case atStart => exact ⟨0, Nat.zero_le _, rfl, by rw [sumTo_zero]; simp, by rw [sumTo_zero]; omega, Below.refl _ _⟩
      case round =>
        obtain ⟨k, hk, rfl, rfl, hs, hbel⟩ := hrel
        by_cases hlt : k < l.length
        · obtain ⟨c0, c1, c2, c3⟩ := cellsPast hbel HC.out k hlt
          have hz := hok l[k] (List.getElem_mem _)
          have HS := Lib.hid (sumTo_succ bulkPast l k hlt)
          have hle2 := sumTo_le bulkPast l (k + 1)
          by_cases hbig : left - l.length - sumTo bulkPast l k < bulkPast l[k]
          · have HR := Lib.hid (show szR left (bulkPastS l) = -1 by apply szR_no; rw [HS.out] at hle2; unfold bulkPastS; omega)
            have HQ := Lib.hid (show szR (left - l.length - sumTo bulkPast l k) (bulkPast l[k]) = -1 from szR_no hbig)
            clear hle2 hbig
            go_wp2_with (go_at_call 52; refine (szPast_of l[k] _ _ (by omega) (by omega) hz).mono ?_; rintro e w1 ⟨rfl, hb1⟩; rw [HQ.out])
            go_ret
            exact ⟨ret_int (by rw [HR.out]), hbel.trans (hb1.mono hbel.size)⟩
          · have HQ := Lib.hid (show szR (left - l.length - sumTo bulkPast l k) (bulkPast l[k]) = left - l.length - sumTo bulkPast l k - bulkPast l[k] from szR_yes (by omega))
            have hge : 0 ≤ left - l.length - sumTo bulkPast l k - bulkPast l[k] := by omega
            clear hle2 hbig
            go_wp2_with (go_at_call 52; refine (szPast_of l[k] _ _ (by omega) (by omega) hz).mono ?_; rintro e w1 ⟨rfl, hb1⟩; rw [HQ.out])
            go_roundw
            case rel => exact ⟨k + 1, by omega, by go_num, by rw [HS.out]; go_num, by rw [HS.out]; omega, hbel.trans (hb1.mono hbel.size)⟩
            case measure => simp [intOf]; omega
        · have HS := Lib.hid (sumTo_full bulkPast l k (by omega))
          go_wp2
          go_ret
          exact ⟨ret_int (by rw [HS.out] at hs ⊢; rw [szR_yes (by unfold bulkPastS; omega)]; unfold bulkPastS; omega), hbel⟩

set_option maxRecDepth 100000 in
set_option maxHeartbeats 400000 in
theorem toPast_any (x0 : Int) (x1 : ByteArray) (x2 : ByteArray) (x3 : ByteArray) (w : World) :
    Calls Tryz.prog 66 #[.agg #[.int .i64 x0, .string x1, .string x2, .string x3]] w fun e w' => e = .returned (.agg #[.int .i64 x0, .string x1, .string x2, .string x3]) ∧ Below w.heap.size w w' := by
  go_enter Tryz.func66, Tryz.ntmps66
  go_wp2
  exact bodyPost_ret (v := .agg #[.int .i64 x0, .string x1, .string x2, .string x3]) (by simp [results, Tryz.results66, go_sem]) rfl ⟨rfl, (by repeat (first | exact Below.refl _ _ | (refine Below.alloc ?_ (by first | (simp; done) | (simp; omega)) _) | (refine Below.setCell ?_ (by first | (simp; done) | (simp; omega)) _) | (refine Below.drew ?_)))⟩

theorem infoPast : (Tryz.prog.info? 80).map (fun i => (i.zero, i.size, i.bytes)) = some (some (.agg #[.int .i64 0, .string ⟨#[]⟩, .string ⟨#[]⟩, .string ⟨#[]⟩]), 4, 56) := by kernel_rfl
set_option maxRecDepth 100000 in
set_option maxHeartbeats 400000 in
theorem toPastS_any (a : Option Addr) (ca : Nat) (l : List PastD) (w : World) (hb : l.length ≤ 1048576) (hl : ElS 4 encPast w a l) :
    Calls Tryz.prog 27 #[.slice a l.length ca] w fun e w' => e = .returned (.slice (some ⟨w.heap.size, 0, none⟩) l.length l.length) ∧
      w'.ownsRow w.heap.size 80 4 (.slice (some ⟨w.heap.size, 0, none⟩) l.length l.length) l.length (l.flatMap encPast) ∧ Below w.heap.size w w' := by
  obtain ⟨i0, hi, hz0, hz1, hz2⟩ := info_parts infoPast
  obtain ⟨hl1, hl⟩ := hl
  unfold maxLen at hl1
  rcases hl with rfl | ⟨ba, oa, rfl, hca⟩
  · go_enter Tryz.func27, Tryz.ntmps27
    go_wp2_with (refine wpList_make_full _ rfl (.tmp 6) (.tmp 6) 33 rfl w.heap.size 80 i0 (.agg #[.int .i64 0, .string ⟨#[]⟩, .string ⟨#[]⟩, .string ⟨#[]⟩]) 4 Tryz.underlying33 hi hz0 hz1 .i64 .i64 0 0 0 rfl rfl rfl rfl (by omega) (by unfold maxLen; omega) (Nat.le_refl _) ?_; intro w1 hown hgrow)
    have hbel : Below w.heap.size w w1 := (Below.refl _ _).grown hgrow (Nat.le_refl _) (by simp)
    have HO := Lib.hid hown
    clear hown
    refine wp_loop_rounds 1 ?_
    rw [rounds_succ]
    go_wp2
    go_ret
    exact ⟨rfl, by have h := HO.out; rw [List.eq_nil_of_length_eq_zero (h.1.trans (Nat.zero_mul _))] at h; exact h, hbel⟩
  have HC := Lib.hid hca
  clear hca
  go_enter Tryz.func27, Tryz.ntmps27
  go_wp2_with (refine wpList_make_full _ rfl (.tmp 6) (.tmp 6) 33 rfl w.heap.size 80 i0 (.agg #[.int .i64 0, .string ⟨#[]⟩, .string ⟨#[]⟩, .string ⟨#[]⟩]) 4 Tryz.underlying33 hi hz0 hz1 .i64 .i64 l.length l.length l.length rfl rfl rfl rfl (by rw [hz2]; omega) (by unfold maxLen; omega) (Nat.le_refl _) ?_; intro w1 hown hgrow)
  have hbel : Below w.heap.size w w1 := (Below.refl _ _).grown hgrow (Nat.le_refl _) (by simp)
  go_loopw [4] (fun i wr => ∃ k : Nat, k ≤ l.length ∧ i = .int .i64 k ∧ ∃ ys, wr.ownsRow w.heap.size 80 4 (.slice (some ⟨w.heap.size, 0, none⟩) l.length l.length) l.length ys ∧ ys.take (k * 4) = (l.flatMap encPast).take (k * 4) ∧ Below w.heap.size w wr) (fun i _ => l.length - (intOf i).toNat)
  case atStart => exact ⟨0, Nat.zero_le _, rfl, _, hown, by simp, hbel⟩
  case round =>
    clear hown hgrow hbel w1
    obtain ⟨k, hk, rfl, ys, hown, ht, hbel⟩ := hrel
    have HT := Lib.hid ht
    have HO := Lib.hid hown
    clear ht
    by_cases hlt : k < l.length
    · obtain ⟨c0, c1, c2, c3⟩ := cellsPast hbel HC.out k hlt
      have hsz : w.heap.size < wr.heap.size := (hown.lt _ rfl).2
      clear hown
      go_wp2_with (go_at_call 66; refine (toPast_any l[k].1 l[k].2.1 l[k].2.2.1 l[k].2.2.2 _).mono ?_; rintro e w1 ⟨rfl, hb1⟩; obtain ⟨⟨q0, d0⟩, f0⟩ := own_cells HO.out hb1 (k * 4) (by omega); obtain ⟨⟨q1, d1⟩, f1⟩ := own_cells HO.out hb1 (k * 4 + 1) (by omega); obtain ⟨⟨q2, d2⟩, f2⟩ := own_cells HO.out hb1 (k * 4 + 2) (by omega); obtain ⟨⟨q3, d3⟩, f3⟩ := own_cells HO.out hb1 (k * 4 + 3) (by omega))
      have h1 := own_below HO.out hb1
      have hbel1 := hbel.trans (hb1.mono hbel.size)
      have hyl : ys.length = l.length * 4 := HO.out.1
      have hk1 : k * 4 + 4 ≤ l.length * 4 := by rw [← Nat.succ_mul]; exact Nat.mul_le_mul_right _ hlt
      go_roundw
      case rel =>
        refine ⟨k + 1, by omega, by go_num, ((((ys.set (k * 4) (.int .i64 l[k].1)).set (k * 4 + 1) (.string l[k].2.1)).set (k * 4 + 2) (.string l[k].2.2.1)).set (k * 4 + 3) (.string l[k].2.2.2)), ((((h1.stored (k * 4) (.int .i64 l[k].1)).1.stored (k * 4 + 1) (.string l[k].2.1)).1.stored (k * 4 + 2) (.string l[k].2.2.1)).1.stored (k * 4 + 3) (.string l[k].2.2.2)).1, ?_, ((((hbel1.setCell (Nat.le_refl _) _).setCell (Nat.le_refl _) _).setCell (Nat.le_refl _) _).setCell (Nat.le_refl _) _)⟩
        rw [show (k + 1) * 4 = k * 4 + 4 from Nat.succ_mul _ _, flat_succ encPast_len l k hlt]
        have t0 : ys.take (k * 4) = _ := HT.out
        have t1 := take_set_next (p := k * 4) (v := .int .i64 l[k].1) (by rw [hyl]; omega) t0
        have t2 := take_set_next (p := k * 4 + 1) (v := .string l[k].2.1) (by simp only [List.length_set]; rw [hyl]; omega) t1
        have t3 := take_set_next (p := k * 4 + 2) (v := .string l[k].2.2.1) (by simp only [List.length_set]; rw [hyl]; omega) t2
        have t4 := take_set_next (p := k * 4 + 3) (v := .string l[k].2.2.2) (by simp only [List.length_set]; rw [hyl]; omega) t3
        refine t4.trans ?_
        simp [encPast]
      case measure => simp [intOf]; omega
    · clear hown
      go_wp2
      go_ret
      have hx : ys = l.flatMap encPast := by
        have h1 := HO.out.1
        have h2 := HT.out
        rwa [List.take_of_length_le (by rw [h1]; exact Nat.mul_le_mul_right _ (by omega)), List.take_of_length_le (by rw [flat_len encPast_len]; exact Nat.mul_le_mul_right _ (by omega))] at h2
      exact ⟨rfl, by rw [← hx]; exact HO.out, hbel⟩

set_option maxRecDepth 100000 in
set_option maxHeartbeats 400000 in
theorem eqPast_any (x0 : Int) (x1 : ByteArray) (x2 : ByteArray) (x3 : ByteArray) (w : World) :
    Calls Tryz.prog 81 #[.agg #[.int .i64 x0, .string x1, .string x2, .string x3], .agg #[.int .i64 x0, .string x1, .string x2, .string x3]] w fun e w' => e = .returned (.bool true) ∧ Below w.heap.size w w' := by
  go_enter Tryz.func81, Tryz.ntmps81
  go_wp2
  go_ret
  exact ⟨rfl, (by repeat (first | exact Below.refl _ _ | (refine Below.alloc ?_ (by first | (simp; done) | (simp; omega)) _) | (refine Below.setCell ?_ (by first | (simp; done) | (simp; omega)) _) | (refine Below.drew ?_)))⟩

set_option maxRecDepth 100000 in
set_option maxHeartbeats 400000 in
theorem eqPastS_any (a b : Option Addr) (ca cb : Nat) (l : List PastD) (w : World) (hl : ElS 4 encPast w a l) (hm : ElS 4 encPast w b l) :
    Calls Tryz.prog 37 #[.slice a l.length ca, .slice b l.length cb] w fun e w' => e = .returned (.bool true) ∧ Below w.heap.size w w' := by
  obtain ⟨hl1, hl⟩ := hl
  obtain ⟨_, hm⟩ := hm
  unfold maxLen at hl1
  have hne : (((l.length : Nat) : Int) != ((l.length : Nat) : Int)) = false := by simp
  have hnil : l = [] → Calls Tryz.prog 37 #[.slice a l.length ca, .slice b l.length cb] w fun e w' => e = .returned (.bool true) ∧ Below w.heap.size w w' := by
    rintro rfl
    clear hl hm hl1
    go_enter Tryz.func37, Tryz.ntmps37
    go_wp2
    refine wp_loop_rounds 1 ?_
    rw [rounds_succ]
    go_wp2
    go_ret
    exact ⟨rfl, Below.refl _ _⟩
  rcases hl with rfl | ⟨ba, oa, rfl, hca⟩
  · exact hnil rfl
  rcases hm with rfl | ⟨bb, ob, rfl, hcb⟩
  · exact hnil rfl
  clear hnil
  have HC := Lib.hid hca
  have HD := Lib.hid hcb
  clear hca hcb
  go_enter Tryz.func37, Tryz.ntmps37
  go_wp2
  go_loopw [5] (fun i wr => ∃ k : Nat, k ≤ l.length ∧ i = .int .i64 k ∧ Below w.heap.size w wr) (fun i _ => l.length - (intOf i).toNat)
  case atStart => exact ⟨0, Nat.zero_le _, rfl, Below.refl _ _⟩
  case round =>
    obtain ⟨k, hk, rfl, hbel⟩ := hrel
    by_cases hlt : k < l.length
    · obtain ⟨c0, c1, c2, c3⟩ := cellsPast hbel HC.out k hlt
      obtain ⟨e0, e1, e2, e3⟩ := cellsPast hbel HD.out k hlt
      go_wp2
      go_region_held3 (fun w' => w'.cell? ⟨ba, oa + k * 4, none⟩ = some (.int .i64 l[k].1) ∧ w'.cell? ⟨ba, oa + k * 4 + 1, none⟩ = some (.string l[k].2.1) ∧ w'.cell? ⟨ba, oa + k * 4 + 2, none⟩ = some (.string l[k].2.2.1) ∧ w'.cell? ⟨ba, oa + k * 4 + 3, none⟩ = some (.string l[k].2.2.2) ∧ w'.cell? ⟨bb, ob + k * 4, none⟩ = some (.int .i64 l[k].1) ∧ w'.cell? ⟨bb, ob + k * 4 + 1, none⟩ = some (.string l[k].2.1) ∧ w'.cell? ⟨bb, ob + k * 4 + 2, none⟩ = some (.string l[k].2.2.1) ∧ w'.cell? ⟨bb, ob + k * 4 + 3, none⟩ = some (.string l[k].2.2.2) ∧ Below w.heap.size w w') (first | exact ⟨c0, c1, c2, c3, e0, e1, e2, e3, hbel.drew⟩ | exact ⟨cc0, cc1, cc2, cc3, ee0, ee1, ee2, ee3, hbel1⟩)
        (first | (go_at_call 81; refine (eqPast_any l[k].1 l[k].2.1 l[k].2.2.1 l[k].2.2.2 _).mono ?_; rintro e w1 ⟨rfl, hb⟩; have hbel1 := hbel.drew.trans (hb.mono hbel.size); obtain ⟨cc0, cc1, cc2, cc3⟩ := cellsPast hbel1 HC.out k hlt; obtain ⟨ee0, ee1, ee2, ee3⟩ := cellsPast hbel1 HD.out k hlt))
      go_wp2
      go_roundw
      case rel => exact ⟨k + 1, by omega, by go_num, hbel1⟩
      case measure => simp [intOf]; omega
    · go_wp2
      go_ret
      exact ⟨rfl, hbel⟩

def mkPast (k : Int) : PastD := (k, markB (k + 1), markB (k + 2), markB (k + 3))
def marksPast (k : Int) (n : Nat) : List PastD := (List.range n).map fun (j : Nat) => mkPast (k + 4 * (j : Int))
theorem marksPast_len (k : Int) (n : Nat) : (marksPast k n).length = n := by simp [marksPast]
theorem marksPast_get (k : Int) (n j : Nat) (h : j < (marksPast k n).length) : (marksPast k n)[j] = mkPast (k + 4 * (j : Int)) := by simp [marksPast]
theorem marksPast_ok (k : Int) (n : Nat) (hk : k + 4 * (n : Int) ≤ 4611686018427387904) : ∀ x ∈ marksPast k n, OkPast x := by
  intro x hx
  simp only [marksPast, List.mem_map, List.mem_range] at hx
  obtain ⟨j, hj, rfl⟩ := hx
  exact ⟨markB_size _ (by omega), markB_size _ (by omega), markB_size _ (by omega)⟩
set_option maxRecDepth 100000 in
set_option maxHeartbeats 400000 in
theorem markPastS_any (base : Nat) (v : Value) (n : Nat) (xs : List Value) (k : Int) (w : World) (hn : n ≤ 1099511627776) (hk0 : 0 ≤ k) (hk : k ≤ 1099511627776) (hown : w.ownsRow base 80 4 v n xs) :
    Calls Tryz.prog 47 #[v, .int .i64 k] w fun e w' => e = .returned (.int .i64 (k + 4 * n)) ∧
      w'.ownsRow base 80 4 v n ((marksPast k n).flatMap encPast) ∧ KeptOut (fun b => v.ownBlock = some b) w w' := by
  rcases hown.2 with ⟨rfl, rfl⟩ | ⟨g, cap, cur, rfl, hrest⟩
  · go_enter Tryz.func47, Tryz.ntmps47
    go_wp2
    refine wp_loop_rounds 1 ?_
    rw [rounds_succ]
    go_wp2
    go_ret
    obtain rfl : xs = [] := List.eq_nil_of_length_eq_zero (hown.1.trans (Nat.zero_mul _))
    exact ⟨ret_int (by omega), hown, KeptOut.refl _ _⟩
  · clear hrest
    have hlen := marksPast_len k n
    go_enter Tryz.func47, Tryz.ntmps47
    go_wp2
    go_loopw [1, 5] (fun kk i wr => ∃ j : Nat, j ≤ n ∧ i = .int .i64 j ∧ kk = .int .i64 (k + 4 * j) ∧ ∃ ys, wr.ownsRow base 80 4 (.slice (some ⟨g, 0, none⟩) n cap) n ys ∧ ys.take (j * 4) = ((marksPast k n).flatMap encPast).take (j * 4) ∧ KeptOut (fun b => b = g) w wr) (fun _ i _ => n - (intOf i).toNat)
    case atStart => exact ⟨0, Nat.zero_le _, rfl, by simp, xs, hown, by simp, KeptOut.refl _ _⟩
    case round =>
      clear hown
      obtain ⟨j, hj, rfl, rfl, ys, hown, ht, hkept⟩ := hrel
      have HT := Lib.hid ht
      have HL := Lib.hid hlen
      have HO := Lib.hid hown
      clear ht hlen hown
      by_cases hlt : j < n
      · have hk1 : j * 4 + 4 ≤ n * 4 := by rw [← Nat.succ_mul]; exact Nat.mul_le_mul_right _ hlt
        obtain ⟨⟨q0, d0⟩, f0⟩ := own_cells HO.out (Below.refl _ _) (j * 4) (by omega)
        obtain ⟨⟨q1, d1⟩, f1⟩ := own_cells HO.out (Below.refl _ _) (j * 4 + 1) (by omega)
        obtain ⟨⟨q2, d2⟩, f2⟩ := own_cells HO.out (Below.refl _ _) (j * 4 + 2) (by omega)
        obtain ⟨⟨q3, d3⟩, f3⟩ := own_cells HO.out (Below.refl _ _) (j * 4 + 3) (by omega)
        go_wp2_with fail
        refine (mark_any _ _ (by omega)).mono ?_
        rintro e w1 ⟨rfl, hb1⟩
        have o1 := own_below (HO.out.stored (j * 4) (.int .i64 (k + 4 * (j : Int)))).1 hb1
        clear d1 f1 d2 f2 d3 f3
        obtain ⟨⟨q1, d1⟩, f1⟩ := own_cells o1 (Below.refl _ _) (j * 4 + 1) (by omega)
        obtain ⟨⟨q2, d2⟩, f2⟩ := own_cells o1 (Below.refl _ _) (j * 4 + 2) (by omega)
        obtain ⟨⟨q3, d3⟩, f3⟩ := own_cells o1 (Below.refl _ _) (j * 4 + 3) (by omega)
        have O1 := Lib.hid o1
        clear o1
        go_wp2_with fail
        refine (mark_any _ _ (by omega)).mono ?_
        rintro e w2 ⟨rfl, hb2⟩
        have o2 := own_below (O1.out.stored (j * 4 + 1) (.string (markB (k + 4 * (j : Int) + 1)))).1 hb2
        clear d2 f2 d3 f3
        obtain ⟨⟨q2, d2⟩, f2⟩ := own_cells o2 (Below.refl _ _) (j * 4 + 2) (by omega)
        obtain ⟨⟨q3, d3⟩, f3⟩ := own_cells o2 (Below.refl _ _) (j * 4 + 3) (by omega)
        have O2 := Lib.hid o2
        clear o2
        go_wp2_with fail
        refine (mark_any _ _ (by omega)).mono ?_
        rintro e w3 ⟨rfl, hb3⟩
        have o3 := own_below (O2.out.stored (j * 4 + 2) (.string (markB (k + 4 * (j : Int) + 1 + 1)))).1 hb3
        clear d3 f3
        obtain ⟨⟨q3, d3⟩, f3⟩ := own_cells o3 (Below.refl _ _) (j * 4 + 3) (by omega)
        have O3 := Lib.hid o3
        clear o3
        have hyl : ys.length = n * 4 := HO.out.1
        go_wp2
        go_roundw
        case rel =>
          refine ⟨j + 1, by omega, by go_num, by go_num, ((((ys.set (j * 4) (.int .i64 (k + 4 * (j : Int)))).set (j * 4 + 1) (.string (markB (k + 4 * (j : Int) + 1)))).set (j * 4 + 2) (.string (markB (k + 4 * (j : Int) + 1 + 1)))).set (j * 4 + 3) (.string (markB (k + 4 * (j : Int) + 1 + 1 + 1)))), (O3.out.stored (j * 4 + 3) (.string (markB (k + 4 * (j : Int) + 1 + 1 + 1)))).1, ?_, (((((((hkept.setCell rfl _).trans (.of_below hb1)).setCell rfl _).trans (.of_below hb2)).setCell rfl _).trans (.of_below hb3)).setCell rfl _)⟩
          rw [show (j + 1) * 4 = j * 4 + 4 from Nat.succ_mul _ _, flat_succ encPast_len (marksPast k n) j (by rw [HL.out]; exact hlt)]
          have t0 : ys.take (j * 4) = _ := HT.out
          have t1 := take_set_next (p := j * 4) (v := .int .i64 (k + 4 * (j : Int))) (by rw [hyl]; omega) t0
          have t2 := take_set_next (p := j * 4 + 1) (v := .string (markB (k + 4 * (j : Int) + 1))) (by simp only [List.length_set]; rw [hyl]; omega) t1
          have t3 := take_set_next (p := j * 4 + 2) (v := .string (markB (k + 4 * (j : Int) + 1 + 1))) (by simp only [List.length_set]; rw [hyl]; omega) t2
          have t4 := take_set_next (p := j * 4 + 3) (v := .string (markB (k + 4 * (j : Int) + 1 + 1 + 1))) (by simp only [List.length_set]; rw [hyl]; omega) t3
          refine t4.trans ?_
          simp [encPast, marksPast_get, mkPast, Int.add_assoc]
        case measure => simp [intOf]; omega
      · go_wp2
        go_ret
        have hx : ys = (marksPast k n).flatMap encPast := by
          have h1 := HO.out.1
          have h2 := HT.out
          rwa [List.take_of_length_le (by rw [h1]; exact Nat.mul_le_mul_right _ (by omega)), List.take_of_length_le (by rw [flat_len encPast_len, HL.out]; exact Nat.mul_le_mul_right _ (by omega))] at h2
        exact ⟨ret_int (by omega), by rw [← hx]; exact HO.out, hkept.mono (fun b _ hb => by subst hb; rfl)⟩


set_option maxRecDepth 100000 in
theorem openPast {H : Type} {enc : TypeId × Value → H} {w : World} (n : Nat) (cs : List Value) (y : DataW H × List MemPlace) (h : DataW.trod enc Tryz.prog w 0 (fun _ => true) true n 95 cs = some y) : ∃ x : PastD, cs = encPast x ∧ OkPast x := by
  obtain ⟨ys, k, _, _, hl, hyl, hf⟩ := DataW.trod_struct Tryz.underlying95 h
  rw [show Tryz.prog.cellsOf 95 = 4 by kernel_rfl] at hl
  have kint : Tryz.prog.cellsOf 3 = 1 := by kernel_rfl
  have kstr : Tryz.prog.cellsOf 9 = 1 := by kernel_rfl
  match cs, hl, ys, hyl, hf with
  | [c0, c1, c2, c3], _, [y0, y1, y2, y3], _, hf =>
    obtain ⟨x0, e0, _, _⟩ := DataW.trod_int (fuel := k) (cs := [c0]) (x := y0) Tryz.underlying3 (by simpa [kint] using hf 0 _ rfl)
    obtain ⟨x1, e1, _, s1⟩ := DataW.trod_string (fuel := k) (cs := [c1]) (x := y1) Tryz.underlying9 (by simpa [kstr] using hf 1 _ rfl)
    obtain ⟨x2, e2, _, s2⟩ := DataW.trod_string (fuel := k) (cs := [c2]) (x := y2) Tryz.underlying9 (by simpa [kstr] using hf 2 _ rfl)
    obtain ⟨x3, e3, _, s3⟩ := DataW.trod_string (fuel := k) (cs := [c3]) (x := y3) Tryz.underlying9 (by simpa [kstr] using hf 3 _ rfl)
    exact ⟨(x0, x1, x2, x3), by rw [List.cons_eq_cons.1 e0 |>.1, List.cons_eq_cons.1 e1 |>.1, List.cons_eq_cons.1 e2 |>.1, List.cons_eq_cons.1 e3 |>.1]; rfl, ⟨s1, s2, s3⟩⟩

end Go.Proofs.YtbioljpjpflboaaGreatDoor
