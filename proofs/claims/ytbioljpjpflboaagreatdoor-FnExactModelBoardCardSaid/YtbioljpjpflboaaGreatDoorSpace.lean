import Derived.Test.YtbioljpjpflboaaGreatDoorProg
import Derived.Test.YtbioljpjpflboaaGreatDoorBase
import Derived.Test.YtbioljpjpflboaaGreatDoorMark
import Derived.Deep.RegionHeld3
import Derived.Deep.QuietTactic
import Derived.BigQuiet
import Derived.Test.YtbioljpjpflboaaGreatDoorOpen
/- Space: what the helpers of the exact laws do with values of this type and with lists of them. -/
namespace Go.Proofs.YtbioljpjpflboaaGreatDoor
open Go Go.RowKit Go.ChangeShapes Go.WideShapes

abbrev SpaceD := ByteArray × ByteArray × Int × Bool × Int
def encSpace (x : SpaceD) : List Value := [.string x.1, .string x.2.1, .int .i64 x.2.2.1, .bool x.2.2.2.1, .int .i64 x.2.2.2.2]
theorem encSpace_len (x : SpaceD) : (encSpace x).length = 5 := rfl
def bulkSpace (x : SpaceD) : Nat := x.1.size + x.2.1.size
def OkSpace (x : SpaceD) : Prop := x.1.size ≤ maxLen ∧ x.2.1.size ≤ maxLen
def bulkSpaceS (l : List SpaceD) : Nat := l.length + sumTo bulkSpace l l.length

theorem cellsSpace {w wr : World} {b o : Nat} {l : List SpaceD} (hb : Below w.heap.size w wr) (hc : ∀ j, (h : j < l.length) → ∀ i v, (encSpace l[j])[i]? = some v → w.cell? ⟨b, o + j * 5 + i, none⟩ = some v) (k : Nat) (h : k < l.length) :
    wr.cell? ⟨b, o + k * 5, none⟩ = some (.string l[k].1) ∧ wr.cell? ⟨b, o + k * 5 + 1, none⟩ = some (.string l[k].2.1) ∧ wr.cell? ⟨b, o + k * 5 + 2, none⟩ = some (.int .i64 l[k].2.2.1) ∧ wr.cell? ⟨b, o + k * 5 + 3, none⟩ = some (.bool l[k].2.2.2.1) ∧ wr.cell? ⟨b, o + k * 5 + 4, none⟩ = some (.int .i64 l[k].2.2.2.2) := by
  have g : ∀ i v, (encSpace l[k])[i]? = some v → wr.cell? ⟨b, o + k * 5 + i, none⟩ = some v := fun i v hv => by
    have h0 := hc k h i v hv
    rw [hb.cell (by have := World.block_lt_of_cell? w _ h0; simpa using this)]
    exact h0
  exact ⟨g 0 _ rfl, g 1 _ rfl, g 2 _ rfl, g 3 _ rfl, g 4 _ rfl⟩

set_option maxHeartbeats 400000 in
theorem szSpace_any (x0 : ByteArray) (x1 : ByteArray) (x2 : Int) (x3 : Bool) (x4 : Int) (left : Int) (w : World) (h0 : 0 ≤ left) (h1 : left ≤ 1048576) (s0 : x0.size ≤ maxLen) (s1 : x1.size ≤ maxLen) :
    Calls Tryz.prog 49 #[.agg #[.string x0, .string x1, .int .i64 x2, .bool x3, .int .i64 x4], .int .i64 left] w fun e w' => e = .returned (.int .i64 (szR left (bulkSpace (x0, x1, x2, x3, x4)))) ∧ Below w.heap.size w w' := by
  unfold maxLen at s0 s1
  have hb : bulkSpace (x0, x1, x2, x3, x4) = x0.size + x1.size := rfl
  rw [hb]
  clear hb
  by_cases g0 : left < (x0.size : Int)
  · have HR := Lib.hid (show szR left (x0.size + x1.size) = -1 from szR_no (by omega))
    go_enter Tryz.func49, Tryz.ntmps49
    go_wp2
    go_ret
    exact ⟨ret_int (by rw [HR.out]), (Below.refl _ _).alloc (Nat.le_refl _) _⟩
  by_cases g1 : left - (x0.size : Int) < (x1.size : Int)
  · have HR := Lib.hid (show szR left (x0.size + x1.size) = -1 from szR_no (by omega))
    go_enter Tryz.func49, Tryz.ntmps49
    go_wp2
    go_ret
    exact ⟨ret_int (by rw [HR.out]), (Below.refl _ _).alloc (Nat.le_refl _) _⟩
  have HR := Lib.hid (show szR left (x0.size + x1.size)  = left - (x0.size : Int) - (x1.size : Int) from (szR_yes (by omega)).trans (by omega))
  have k0 : (x0.size : Int) ≤ left := by omega
  have k1 : (x1.size : Int) ≤ left - (x0.size : Int) := by omega
  go_enter Tryz.func49, Tryz.ntmps49
  go_wp2
  go_ret
  exact ⟨ret_int (by rw [HR.out]), (Below.refl _ _).alloc (Nat.le_refl _) _⟩
theorem szSpace_of (x : SpaceD) (left : Int) (w : World) (h0 : 0 ≤ left) (h1 : left ≤ 1048576) (hz : OkSpace x) :
    Calls Tryz.prog 49 #[.agg #[.string x.1, .string x.2.1, .int .i64 x.2.2.1, .bool x.2.2.2.1, .int .i64 x.2.2.2.2], .int .i64 left] w fun e w' => e = .returned (.int .i64 (szR left (bulkSpace x))) ∧ Below w.heap.size w w' :=
  szSpace_any x.1 x.2.1 x.2.2.1 x.2.2.2.1 x.2.2.2.2 left w h0 h1 hz.1 hz.2

set_option maxHeartbeats 400000 in
theorem szSpaceS_any (a : Option Addr) (ca : Nat) (l : List SpaceD) (left : Int) (w : World) (h0 : 0 ≤ left) (h1 : left ≤ 1048576) (hl : ElS 5 encSpace w a l) (hok : ∀ x ∈ l, OkSpace x) :
    Calls Tryz.prog 16 #[.slice a l.length ca, .int .i64 left] w fun e w' => e = .returned (.int .i64 (szR left (bulkSpaceS l))) ∧ Below w.heap.size w w' := by
  obtain ⟨hl1, hl⟩ := hl
  unfold maxLen at hl1
  by_cases hlen : left < (l.length : Int)
  · have HR := Lib.hid (show szR left (bulkSpaceS l) = -1 by apply szR_no; unfold bulkSpaceS; omega)
    go_enter Tryz.func16, Tryz.ntmps16
    go_wp2
    go_ret
    exact ⟨ret_int (by rw [HR.out]), Below.refl _ _⟩
  · have hle : (l.length : Int) ≤ left := by omega
    clear hlen
    rcases hl with rfl | ⟨ba, oa, rfl, hca⟩
    · go_enter Tryz.func16, Tryz.ntmps16
      go_wp2
      refine wp_loop_rounds 1 ?_
      rw [rounds_succ]
      go_wp2
      go_ret
      exact ⟨ret_int (by rw [szR_yes (by simpa [bulkSpaceS, sumTo_nil] using h0)]; simp [bulkSpaceS, sumTo_nil]), Below.refl _ _⟩
    · have HC := Lib.hid hca
      clear hca
      go_enter Tryz.func16, Tryz.ntmps16
      go_wp2
      go_loopw [1, 5] (fun r i wr => ∃ k : Nat, k ≤ l.length ∧ i = .int .i64 k ∧ r = .int .i64 (left - l.length - sumTo bulkSpace l k) ∧ (sumTo bulkSpace l k : Int) ≤ left - l.length ∧ Below w.heap.size w wr) (fun _ i _ => l.length - (intOf i).toNat)
      case atStart => exact ⟨0, Nat.zero_le _, rfl, by rw [sumTo_zero]; simp, by rw [sumTo_zero]; omega, Below.refl _ _⟩
      case round =>
        obtain ⟨k, hk, rfl, rfl, hs, hbel⟩ := hrel
        by_cases hlt : k < l.length
        · obtain ⟨c0, c1, c2, c3, c4⟩ := cellsSpace hbel HC.out k hlt
          have hz := hok l[k] (List.getElem_mem _)
          have HS := Lib.hid (sumTo_succ bulkSpace l k hlt)
          have hle2 := sumTo_le bulkSpace l (k + 1)
          by_cases hbig : left - l.length - sumTo bulkSpace l k < bulkSpace l[k]
          · have HR := Lib.hid (show szR left (bulkSpaceS l) = -1 by apply szR_no; rw [HS.out] at hle2; unfold bulkSpaceS; omega)
            have HQ := Lib.hid (show szR (left - l.length - sumTo bulkSpace l k) (bulkSpace l[k]) = -1 from szR_no hbig)
            clear hle2 hbig
            go_wp2_with (go_at_call 49; refine (szSpace_of l[k] _ _ (by omega) (by omega) hz).mono ?_; rintro e w1 ⟨rfl, hb1⟩; rw [HQ.out])
            go_ret
            exact ⟨ret_int (by rw [HR.out]), hbel.trans (hb1.mono hbel.size)⟩
          · have HQ := Lib.hid (show szR (left - l.length - sumTo bulkSpace l k) (bulkSpace l[k]) = left - l.length - sumTo bulkSpace l k - bulkSpace l[k] from szR_yes (by omega))
            have hge : 0 ≤ left - l.length - sumTo bulkSpace l k - bulkSpace l[k] := by omega
            clear hle2 hbig
            go_wp2_with (go_at_call 49; refine (szSpace_of l[k] _ _ (by omega) (by omega) hz).mono ?_; rintro e w1 ⟨rfl, hb1⟩; rw [HQ.out])
            go_roundw
            case rel => exact ⟨k + 1, by omega, by go_num, by rw [HS.out]; go_num, by rw [HS.out]; omega, hbel.trans (hb1.mono hbel.size)⟩
            case measure => simp [intOf]; omega
        · have HS := Lib.hid (sumTo_full bulkSpace l k (by omega))
          go_wp2
          go_ret
          exact ⟨ret_int (by rw [HS.out] at hs ⊢; rw [szR_yes (by unfold bulkSpaceS; omega)]; unfold bulkSpaceS; omega), hbel⟩

set_option maxRecDepth 100000 in
set_option maxHeartbeats 400000 in
theorem toSpace_any (x0 : ByteArray) (x1 : ByteArray) (x2 : Int) (x3 : Bool) (x4 : Int) (w : World) :
    Calls Tryz.prog 63 #[.agg #[.string x0, .string x1, .int .i64 x2, .bool x3, .int .i64 x4]] w fun e w' => e = .returned (.agg #[.string x0, .string x1, .int .i64 x2, .bool x3, .int .i64 x4]) ∧ Below w.heap.size w w' := by
  go_enter Tryz.func63, Tryz.ntmps63
  go_wp2
  exact bodyPost_ret (v := .agg #[.string x0, .string x1, .int .i64 x2, .bool x3, .int .i64 x4]) (by simp [results, Tryz.results63, go_sem]) rfl ⟨rfl, (by repeat (first | exact Below.refl _ _ | (refine Below.alloc ?_ (by first | (simp; done) | (simp; omega)) _) | (refine Below.setCell ?_ (by first | (simp; done) | (simp; omega)) _) | (refine Below.drew ?_)))⟩

theorem infoSpace : (Tryz.prog.info? 51).map (fun i => (i.zero, i.size, i.bytes)) = some (some (.agg #[.string ⟨#[]⟩, .string ⟨#[]⟩, .int .i64 0, .bool false, .int .i64 0]), 5, 56) := by kernel_rfl
set_option maxRecDepth 100000 in
set_option maxHeartbeats 400000 in
theorem toSpaceS_any (a : Option Addr) (ca : Nat) (l : List SpaceD) (w : World) (hb : l.length ≤ 1048576) (hl : ElS 5 encSpace w a l) :
    Calls Tryz.prog 24 #[.slice a l.length ca] w fun e w' => e = .returned (.slice (some ⟨w.heap.size, 0, none⟩) l.length l.length) ∧
      w'.ownsRow w.heap.size 51 5 (.slice (some ⟨w.heap.size, 0, none⟩) l.length l.length) l.length (l.flatMap encSpace) ∧ Below w.heap.size w w' := by
  obtain ⟨i0, hi, hz0, hz1, hz2⟩ := info_parts infoSpace
  obtain ⟨hl1, hl⟩ := hl
  unfold maxLen at hl1
  rcases hl with rfl | ⟨ba, oa, rfl, hca⟩
  · go_enter Tryz.func24, Tryz.ntmps24
    go_wp2_with (refine wpList_make_full _ rfl (.tmp 6) (.tmp 6) 30 rfl w.heap.size 51 i0 (.agg #[.string ⟨#[]⟩, .string ⟨#[]⟩, .int .i64 0, .bool false, .int .i64 0]) 5 Tryz.underlying30 hi hz0 hz1 .i64 .i64 0 0 0 rfl rfl rfl rfl (by omega) (by unfold maxLen; omega) (Nat.le_refl _) ?_; intro w1 hown hgrow)
    have hbel : Below w.heap.size w w1 := (Below.refl _ _).grown hgrow (Nat.le_refl _) (by simp)
    have HO := Lib.hid hown
    clear hown
    refine wp_loop_rounds 1 ?_
    rw [rounds_succ]
    go_wp2
    go_ret
    exact ⟨rfl, by have h := HO.out; rw [List.eq_nil_of_length_eq_zero (h.1.trans (Nat.zero_mul _))] at h; exact h, hbel⟩
  have HC := Lib.hid hca
  clear hca
  go_enter Tryz.func24, Tryz.ntmps24
  go_wp2_with (refine wpList_make_full _ rfl (.tmp 6) (.tmp 6) 30 rfl w.heap.size 51 i0 (.agg #[.string ⟨#[]⟩, .string ⟨#[]⟩, .int .i64 0, .bool false, .int .i64 0]) 5 Tryz.underlying30 hi hz0 hz1 .i64 .i64 l.length l.length l.length rfl rfl rfl rfl (by rw [hz2]; omega) (by unfold maxLen; omega) (Nat.le_refl _) ?_; intro w1 hown hgrow)
  have hbel : Below w.heap.size w w1 := (Below.refl _ _).grown hgrow (Nat.le_refl _) (by simp)
  go_loopw [4] (fun i wr => ∃ k : Nat, k ≤ l.length ∧ i = .int .i64 k ∧ ∃ ys, wr.ownsRow w.heap.size 51 5 (.slice (some ⟨w.heap.size, 0, none⟩) l.length l.length) l.length ys ∧ ys.take (k * 5) = (l.flatMap encSpace).take (k * 5) ∧ Below w.heap.size w wr) (fun i _ => l.length - (intOf i).toNat)
  case atStart => exact ⟨0, Nat.zero_le _, rfl, _, hown, by simp, hbel⟩
  case round =>
    clear hown hgrow hbel w1
    obtain ⟨k, hk, rfl, ys, hown, ht, hbel⟩ := hrel
    have HT := Lib.hid ht
    have HO := Lib.hid hown
    clear ht
    by_cases hlt : k < l.length
    · obtain ⟨c0, c1, c2, c3, c4⟩ := cellsSpace hbel HC.out k hlt
      have hsz : w.heap.size < wr.heap.size := (hown.lt _ rfl).2
      clear hown
      go_wp2_with (go_at_call 63; refine (toSpace_any l[k].1 l[k].2.1 l[k].2.2.1 l[k].2.2.2.1 l[k].2.2.2.2 _).mono ?_; rintro e w1 ⟨rfl, hb1⟩; obtain ⟨⟨q0, d0⟩, f0⟩ := own_cells HO.out hb1 (k * 5) (by omega); obtain ⟨⟨q1, d1⟩, f1⟩ := own_cells HO.out hb1 (k * 5 + 1) (by omega); obtain ⟨⟨q2, d2⟩, f2⟩ := own_cells HO.out hb1 (k * 5 + 2) (by omega); obtain ⟨⟨q3, d3⟩, f3⟩ := own_cells HO.out hb1 (k * 5 + 3) (by omega); obtain ⟨⟨q4, d4⟩, f4⟩ := own_cells HO.out hb1 (k * 5 + 4) (by omega))
      have h1 := own_below HO.out hb1
      have hbel1 := hbel.trans (hb1.mono hbel.size)
      have hyl : ys.length = l.length * 5 := HO.out.1
      have hk1 : k * 5 + 5 ≤ l.length * 5 := by rw [← Nat.succ_mul]; exact Nat.mul_le_mul_right _ hlt
      go_roundw
      case rel =>
        refine ⟨k + 1, by omega, by go_num, (((((ys.set (k * 5) (.string l[k].1)).set (k * 5 + 1) (.string l[k].2.1)).set (k * 5 + 2) (.int .i64 l[k].2.2.1)).set (k * 5 + 3) (.bool l[k].2.2.2.1)).set (k * 5 + 4) (.int .i64 l[k].2.2.2.2)), (((((h1.stored (k * 5) (.string l[k].1)).1.stored (k * 5 + 1) (.string l[k].2.1)).1.stored (k * 5 + 2) (.int .i64 l[k].2.2.1)).1.stored (k * 5 + 3) (.bool l[k].2.2.2.1)).1.stored (k * 5 + 4) (.int .i64 l[k].2.2.2.2)).1, ?_, (((((hbel1.setCell (Nat.le_refl _) _).setCell (Nat.le_refl _) _).setCell (Nat.le_refl _) _).setCell (Nat.le_refl _) _).setCell (Nat.le_refl _) _)⟩
        rw [show (k + 1) * 5 = k * 5 + 5 from Nat.succ_mul _ _, flat_succ encSpace_len l k hlt]
        have t0 : ys.take (k * 5) = _ := HT.out
        have t1 := take_set_next (p := k * 5) (v := .string l[k].1) (by rw [hyl]; omega) t0
        have t2 := take_set_next (p := k * 5 + 1) (v := .string l[k].2.1) (by simp only [List.length_set]; rw [hyl]; omega) t1
        have t3 := take_set_next (p := k * 5 + 2) (v := .int .i64 l[k].2.2.1) (by simp only [List.length_set]; rw [hyl]; omega) t2
        have t4 := take_set_next (p := k * 5 + 3) (v := .bool l[k].2.2.2.1) (by simp only [List.length_set]; rw [hyl]; omega) t3
        have t5 := take_set_next (p := k * 5 + 4) (v := .int .i64 l[k].2.2.2.2) (by simp only [List.length_set]; rw [hyl]; omega) t4
        refine t5.trans ?_
        simp [encSpace]
      case measure => simp [intOf]; omega
    · clear hown
      go_wp2
      go_ret
      have hx : ys = l.flatMap encSpace := by
        have h1 := HO.out.1
        have h2 := HT.out
        rwa [List.take_of_length_le (by rw [h1]; exact Nat.mul_le_mul_right _ (by omega)), List.take_of_length_le (by rw [flat_len encSpace_len]; exact Nat.mul_le_mul_right _ (by omega))] at h2
      exact ⟨rfl, by rw [← hx]; exact HO.out, hbel⟩

set_option maxRecDepth 100000 in
set_option maxHeartbeats 400000 in
theorem eqSpace_any (x0 : ByteArray) (x1 : ByteArray) (x2 : Int) (x3 : Bool) (x4 : Int) (w : World) :
    Calls Tryz.prog 78 #[.agg #[.string x0, .string x1, .int .i64 x2, .bool x3, .int .i64 x4], .agg #[.string x0, .string x1, .int .i64 x2, .bool x3, .int .i64 x4]] w fun e w' => e = .returned (.bool true) ∧ Below w.heap.size w w' := by
  go_enter Tryz.func78, Tryz.ntmps78
  go_wp2
  go_ret
  exact ⟨rfl, (by repeat (first | exact Below.refl _ _ | (refine Below.alloc ?_ (by first | (simp; done) | (simp; omega)) _) | (refine Below.setCell ?_ (by first | (simp; done) | (simp; omega)) _) | (refine Below.drew ?_)))⟩

set_option maxRecDepth 100000 in
set_option maxHeartbeats 400000 in
theorem eqSpaceS_any (a b : Option Addr) (ca cb : Nat) (l : List SpaceD) (w : World) (hl : ElS 5 encSpace w a l) (hm : ElS 5 encSpace w b l) :
    Calls Tryz.prog 34 #[.slice a l.length ca, .slice b l.length cb] w fun e w' => e = .returned (.bool true) ∧ Below w.heap.size w w' := by
  obtain ⟨hl1, hl⟩ := hl
  obtain ⟨_, hm⟩ := hm
  unfold maxLen at hl1
  have hne : (((l.length : Nat) : Int) != ((l.length : Nat) : Int)) = false := by simp
  have hnil : l = [] → Calls Tryz.prog 34 #[.slice a l.length ca, .slice b l.length cb] w fun e w' => e = .returned (.bool true) ∧ Below w.heap.size w w' := by
    rintro rfl
    clear hl hm hl1
    go_enter Tryz.func34, Tryz.ntmps34
    go_wp2
    refine wp_loop_rounds 1 ?_
    rw [rounds_succ]
    go_wp2
    go_ret
    exact ⟨rfl, Below.refl _ _⟩
  rcases hl with rfl | ⟨ba, oa, rfl, hca⟩
  · exact hnil rfl
  rcases hm with rfl | ⟨bb, ob, rfl, hcb⟩
  · exact hnil rfl
  clear hnil
  have HC := Lib.hid hca
  have HD := Lib.hid hcb
  clear hca hcb
  go_enter Tryz.func34, Tryz.ntmps34
  go_wp2
  go_loopw [5] (fun i wr => ∃ k : Nat, k ≤ l.length ∧ i = .int .i64 k ∧ Below w.heap.size w wr) (fun i _ => l.length - (intOf i).toNat)
  case atStart => exact ⟨0, Nat.zero_le _, rfl, Below.refl _ _⟩
  case round =>
    obtain ⟨k, hk, rfl, hbel⟩ := hrel
    by_cases hlt : k < l.length
    · obtain ⟨c0, c1, c2, c3, c4⟩ := cellsSpace hbel HC.out k hlt
      obtain ⟨e0, e1, e2, e3, e4⟩ := cellsSpace hbel HD.out k hlt
      go_wp2
      go_region_held3 (fun w' => w'.cell? ⟨ba, oa + k * 5, none⟩ = some (.string l[k].1) ∧ w'.cell? ⟨ba, oa + k * 5 + 1, none⟩ = some (.string l[k].2.1) ∧ w'.cell? ⟨ba, oa + k * 5 + 2, none⟩ = some (.int .i64 l[k].2.2.1) ∧ w'.cell? ⟨ba, oa + k * 5 + 3, none⟩ = some (.bool l[k].2.2.2.1) ∧ w'.cell? ⟨ba, oa + k * 5 + 4, none⟩ = some (.int .i64 l[k].2.2.2.2) ∧ w'.cell? ⟨bb, ob + k * 5, none⟩ = some (.string l[k].1) ∧ w'.cell? ⟨bb, ob + k * 5 + 1, none⟩ = some (.string l[k].2.1) ∧ w'.cell? ⟨bb, ob + k * 5 + 2, none⟩ = some (.int .i64 l[k].2.2.1) ∧ w'.cell? ⟨bb, ob + k * 5 + 3, none⟩ = some (.bool l[k].2.2.2.1) ∧ w'.cell? ⟨bb, ob + k * 5 + 4, none⟩ = some (.int .i64 l[k].2.2.2.2) ∧ Below w.heap.size w w') (first | exact ⟨c0, c1, c2, c3, c4, e0, e1, e2, e3, e4, hbel.drew⟩ | exact ⟨cc0, cc1, cc2, cc3, cc4, ee0, ee1, ee2, ee3, ee4, hbel1⟩)
        (first | (go_at_call 78; refine (eqSpace_any l[k].1 l[k].2.1 l[k].2.2.1 l[k].2.2.2.1 l[k].2.2.2.2 _).mono ?_; rintro e w1 ⟨rfl, hb⟩; have hbel1 := hbel.drew.trans (hb.mono hbel.size); obtain ⟨cc0, cc1, cc2, cc3, cc4⟩ := cellsSpace hbel1 HC.out k hlt; obtain ⟨ee0, ee1, ee2, ee3, ee4⟩ := cellsSpace hbel1 HD.out k hlt))
      go_wp2
      go_roundw
      case rel => exact ⟨k + 1, by omega, by go_num, hbel1⟩
      case measure => simp [intOf]; omega
    · go_wp2
      go_ret
      exact ⟨rfl, hbel⟩

def mkSpace (k : Int) : SpaceD := (markB k, markB (k + 1), (k + 2), ((k + 3) % 3 == 0), (k + 4))
def marksSpace (k : Int) (n : Nat) : List SpaceD := (List.range n).map fun (j : Nat) => mkSpace (k + 5 * (j : Int))
theorem marksSpace_len (k : Int) (n : Nat) : (marksSpace k n).length = n := by simp [marksSpace]
theorem marksSpace_get (k : Int) (n j : Nat) (h : j < (marksSpace k n).length) : (marksSpace k n)[j] = mkSpace (k + 5 * (j : Int)) := by simp [marksSpace]
theorem marksSpace_ok (k : Int) (n : Nat) (hk : k + 5 * (n : Int) ≤ 4611686018427387904) : ∀ x ∈ marksSpace k n, OkSpace x := by
  intro x hx
  simp only [marksSpace, List.mem_map, List.mem_range] at hx
  obtain ⟨j, hj, rfl⟩ := hx
  exact ⟨markB_size _ (by omega), markB_size _ (by omega)⟩
set_option maxRecDepth 100000 in
set_option maxHeartbeats 400000 in
theorem markSpaceS_any (base : Nat) (v : Value) (n : Nat) (xs : List Value) (k : Int) (w : World) (hn : n ≤ 1099511627776) (hk0 : 0 ≤ k) (hk : k ≤ 1099511627776) (hown : w.ownsRow base 51 5 v n xs) :
    Calls Tryz.prog 44 #[v, .int .i64 k] w fun e w' => e = .returned (.int .i64 (k + 5 * n)) ∧
      w'.ownsRow base 51 5 v n ((marksSpace k n).flatMap encSpace) ∧ KeptOut (fun b => v.ownBlock = some b) w w' := by
  rcases hown.2 with ⟨rfl, rfl⟩ | ⟨g, cap, cur, rfl, hrest⟩
  · go_enter Tryz.func44, Tryz.ntmps44
    go_wp2
    refine wp_loop_rounds 1 ?_
    rw [rounds_succ]
    go_wp2
    go_ret
    obtain rfl : xs = [] := List.eq_nil_of_length_eq_zero (hown.1.trans (Nat.zero_mul _))
    exact ⟨ret_int (by omega), hown, KeptOut.refl _ _⟩
  · clear hrest
    have hlen := marksSpace_len k n
    go_enter Tryz.func44, Tryz.ntmps44
    go_wp2
    go_loopw [1, 5] (fun kk i wr => ∃ j : Nat, j ≤ n ∧ i = .int .i64 j ∧ kk = .int .i64 (k + 5 * j) ∧ ∃ ys, wr.ownsRow base 51 5 (.slice (some ⟨g, 0, none⟩) n cap) n ys ∧ ys.take (j * 5) = ((marksSpace k n).flatMap encSpace).take (j * 5) ∧ KeptOut (fun b => b = g) w wr) (fun _ i _ => n - (intOf i).toNat)
    case atStart => exact ⟨0, Nat.zero_le _, rfl, by simp, xs, hown, by simp, KeptOut.refl _ _⟩
    case round =>
      clear hown
      obtain ⟨j, hj, rfl, rfl, ys, hown, ht, hkept⟩ := hrel
      have HT := Lib.hid ht
      have HL := Lib.hid hlen
      have HO := Lib.hid hown
      clear ht hlen hown
      by_cases hlt : j < n
      · have hk1 : j * 5 + 5 ≤ n * 5 := by rw [← Nat.succ_mul]; exact Nat.mul_le_mul_right _ hlt
        obtain ⟨⟨q0, d0⟩, f0⟩ := own_cells HO.out (Below.refl _ _) (j * 5) (by omega)
        obtain ⟨⟨q1, d1⟩, f1⟩ := own_cells HO.out (Below.refl _ _) (j * 5 + 1) (by omega)
        obtain ⟨⟨q2, d2⟩, f2⟩ := own_cells HO.out (Below.refl _ _) (j * 5 + 2) (by omega)
        obtain ⟨⟨q3, d3⟩, f3⟩ := own_cells HO.out (Below.refl _ _) (j * 5 + 3) (by omega)
        obtain ⟨⟨q4, d4⟩, f4⟩ := own_cells HO.out (Below.refl _ _) (j * 5 + 4) (by omega)
        go_wp2_with fail
        refine (mark_any _ _ (by omega)).mono ?_
        rintro e w1 ⟨rfl, hb1⟩
        have o1 := own_below HO.out hb1
        clear d0 f0 d1 f1 d2 f2 d3 f3 d4 f4
        obtain ⟨⟨q0, d0⟩, f0⟩ := own_cells o1 (Below.refl _ _) (j * 5) (by omega)
        obtain ⟨⟨q1, d1⟩, f1⟩ := own_cells o1 (Below.refl _ _) (j * 5 + 1) (by omega)
        obtain ⟨⟨q2, d2⟩, f2⟩ := own_cells o1 (Below.refl _ _) (j * 5 + 2) (by omega)
        obtain ⟨⟨q3, d3⟩, f3⟩ := own_cells o1 (Below.refl _ _) (j * 5 + 3) (by omega)
        obtain ⟨⟨q4, d4⟩, f4⟩ := own_cells o1 (Below.refl _ _) (j * 5 + 4) (by omega)
        have O1 := Lib.hid o1
        clear o1
        go_wp2_with fail
        refine (mark_any _ _ (by omega)).mono ?_
        rintro e w2 ⟨rfl, hb2⟩
        have o2 := own_below (O1.out.stored (j * 5) (.string (markB (k + 5 * (j : Int))))).1 hb2
        clear d1 f1 d2 f2 d3 f3 d4 f4
        obtain ⟨⟨q1, d1⟩, f1⟩ := own_cells o2 (Below.refl _ _) (j * 5 + 1) (by omega)
        obtain ⟨⟨q2, d2⟩, f2⟩ := own_cells o2 (Below.refl _ _) (j * 5 + 2) (by omega)
        obtain ⟨⟨q3, d3⟩, f3⟩ := own_cells o2 (Below.refl _ _) (j * 5 + 3) (by omega)
        obtain ⟨⟨q4, d4⟩, f4⟩ := own_cells o2 (Below.refl _ _) (j * 5 + 4) (by omega)
        have O2 := Lib.hid o2
        clear o2
        have hyl : ys.length = n * 5 := HO.out.1
        go_wp2
        go_roundw
        case rel =>
          refine ⟨j + 1, by omega, by go_num, by go_num, (((((ys.set (j * 5) (.string (markB (k + 5 * (j : Int))))).set (j * 5 + 1) (.string (markB (k + 5 * (j : Int) + 1)))).set (j * 5 + 2) (.int .i64 (k + 5 * (j : Int) + 1 + 1))).set (j * 5 + 3) (.bool ((k + 5 * (j : Int) + 1 + 1 + 1) % 3 == 0))).set (j * 5 + 4) (.int .i64 (k + 5 * (j : Int) + 1 + 1 + 1 + 1))), ((((O2.out.stored (j * 5 + 1) (.string (markB (k + 5 * (j : Int) + 1)))).1.stored (j * 5 + 2) (.int .i64 (k + 5 * (j : Int) + 1 + 1))).1.stored (j * 5 + 3) (.bool ((k + 5 * (j : Int) + 1 + 1 + 1) % 3 == 0))).1.stored (j * 5 + 4) (.int .i64 (k + 5 * (j : Int) + 1 + 1 + 1 + 1))).1, ?_, (((((((hkept.trans (.of_below hb1)).setCell rfl _).trans (.of_below hb2)).setCell rfl _).setCell rfl _).setCell rfl _).setCell rfl _)⟩
          rw [show (j + 1) * 5 = j * 5 + 5 from Nat.succ_mul _ _, flat_succ encSpace_len (marksSpace k n) j (by rw [HL.out]; exact hlt)]
          have t0 : ys.take (j * 5) = _ := HT.out
          have t1 := take_set_next (p := j * 5) (v := .string (markB (k + 5 * (j : Int)))) (by rw [hyl]; omega) t0
          have t2 := take_set_next (p := j * 5 + 1) (v := .string (markB (k + 5 * (j : Int) + 1))) (by simp only [List.length_set]; rw [hyl]; omega) t1
          have t3 := take_set_next (p := j * 5 + 2) (v := .int .i64 (k + 5 * (j : Int) + 1 + 1)) (by simp only [List.length_set]; rw [hyl]; omega) t2
          have t4 := take_set_next (p := j * 5 + 3) (v := .bool ((k + 5 * (j : Int) + 1 + 1 + 1) % 3 == 0)) (by simp only [List.length_set]; rw [hyl]; omega) t3
          have t5 := take_set_next (p := j * 5 + 4) (v := .int .i64 (k + 5 * (j : Int) + 1 + 1 + 1 + 1)) (by simp only [List.length_set]; rw [hyl]; omega) t4
          refine t5.trans ?_
          simp [encSpace, marksSpace_get, mkSpace, Int.add_assoc]
        case measure => simp [intOf]; omega
      · go_wp2
        go_ret
        have hx : ys = (marksSpace k n).flatMap encSpace := by
          have h1 := HO.out.1
          have h2 := HT.out
          rwa [List.take_of_length_le (by rw [h1]; exact Nat.mul_le_mul_right _ (by omega)), List.take_of_length_le (by rw [flat_len encSpace_len, HL.out]; exact Nat.mul_le_mul_right _ (by omega))] at h2
        exact ⟨ret_int (by omega), by rw [← hx]; exact HO.out, hkept.mono (fun b _ hb => by subst hb; rfl)⟩


set_option maxRecDepth 100000 in
theorem openSpace {H : Type} {enc : TypeId × Value → H} {w : World} (n : Nat) (cs : List Value) (y : DataW H × List MemPlace) (h : DataW.trod enc Tryz.prog w 0 (fun _ => true) true n 89 cs = some y) : ∃ x : SpaceD, cs = encSpace x ∧ OkSpace x := by
  obtain ⟨ys, k, _, _, hl, hyl, hf⟩ := DataW.trod_struct Tryz.underlying89 h
  rw [show Tryz.prog.cellsOf 89 = 5 by kernel_rfl] at hl
  have kbool : Tryz.prog.cellsOf 4 = 1 := by kernel_rfl
  have kint : Tryz.prog.cellsOf 3 = 1 := by kernel_rfl
  have kstr : Tryz.prog.cellsOf 9 = 1 := by kernel_rfl
  match cs, hl, ys, hyl, hf with
  | [c0, c1, c2, c3, c4], _, [y0, y1, y2, y3, y4], _, hf =>
    obtain ⟨x0, e0, _, s0⟩ := DataW.trod_string (fuel := k) (cs := [c0]) (x := y0) Tryz.underlying9 (by simpa [kstr] using hf 0 _ rfl)
    obtain ⟨x1, e1, _, s1⟩ := DataW.trod_string (fuel := k) (cs := [c1]) (x := y1) Tryz.underlying9 (by simpa [kstr] using hf 1 _ rfl)
    obtain ⟨x2, e2, _, _⟩ := DataW.trod_int (fuel := k) (cs := [c2]) (x := y2) Tryz.underlying3 (by simpa [kint] using hf 2 _ rfl)
    obtain ⟨x3, e3, _⟩ := DataW.trod_bool (fuel := k) (cs := [c3]) (x := y3) Tryz.underlying4 (by simpa [kbool] using hf 3 _ rfl)
    obtain ⟨x4, e4, _, _⟩ := DataW.trod_int (fuel := k) (cs := [c4]) (x := y4) Tryz.underlying3 (by simpa [kint] using hf 4 _ rfl)
    exact ⟨(x0, x1, x2, x3, x4), by rw [List.cons_eq_cons.1 e0 |>.1, List.cons_eq_cons.1 e1 |>.1, List.cons_eq_cons.1 e2 |>.1, List.cons_eq_cons.1 e3 |>.1, List.cons_eq_cons.1 e4 |>.1]; rfl, ⟨s0, s1⟩⟩

end Go.Proofs.YtbioljpjpflboaaGreatDoor
