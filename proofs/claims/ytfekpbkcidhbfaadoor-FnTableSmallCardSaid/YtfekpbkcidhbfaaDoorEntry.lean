import Derived.Test.YtfekpbkcidhbfaaDoorProg
import Derived.Test.YtfekpbkcidhbfaaDoorBase
import Derived.Test.YtfekpbkcidhbfaaDoorMark
import Derived.Deep.RegionHeld3
import Derived.Deep.QuietTactic
import Derived.BigQuiet
import Derived.Test.YtfekpbkcidhbfaaDoorOpen
/- Entry: what the helpers of the exact laws do with values of this type and with lists of them. -/
namespace Go.Proofs.YtfekpbkcidhbfaaDoor
open Go Go.RowKit Go.ChangeShapes Go.WideShapes

abbrev EntryD := ByteArray × Int × Bool × ByteArray
def encEntry (x : EntryD) : List Value := [.string x.1, .int .i64 x.2.1, .bool x.2.2.1, .string x.2.2.2]
theorem encEntry_len (x : EntryD) : (encEntry x).length = 4 := rfl
def bulkEntry (x : EntryD) : Nat := x.1.size + x.2.2.2.size
def OkEntry (x : EntryD) : Prop := x.1.size ≤ maxLen ∧ x.2.2.2.size ≤ maxLen
def bulkEntryS (l : List EntryD) : Nat := l.length + sumTo bulkEntry l l.length

theorem cellsEntry {w wr : World} {b o : Nat} {l : List EntryD} (hb : Below w.heap.size w wr) (hc : ∀ j, (h : j < l.length) → ∀ i v, (encEntry l[j])[i]? = some v → w.cell? ⟨b, o + j * 4 + i, none⟩ = some v) (k : Nat) (h : k < l.length) :
    wr.cell? ⟨b, o + k * 4, none⟩ = some (.string l[k].1) ∧ wr.cell? ⟨b, o + k * 4 + 1, none⟩ = some (.int .i64 l[k].2.1) ∧ wr.cell? ⟨b, o + k * 4 + 2, none⟩ = some (.bool l[k].2.2.1) ∧ wr.cell? ⟨b, o + k * 4 + 3, none⟩ = some (.string l[k].2.2.2) := by
  have g : ∀ i v, (encEntry l[k])[i]? = some v → wr.cell? ⟨b, o + k * 4 + i, none⟩ = some v := fun i v hv => by
    have h0 := hc k h i v hv
    rw [hb.cell (by have := World.block_lt_of_cell? w _ h0; simpa using this)]
    exact h0
  exact ⟨g 0 _ rfl, g 1 _ rfl, g 2 _ rfl, g 3 _ rfl⟩

set_option maxHeartbeats 400000 in
theorem szEntry_any (x0 : ByteArray) (x1 : Int) (x2 : Bool) (x3 : ByteArray) (left : Int) (w : World) (h0 : 0 ≤ left) (h1 : left ≤ 1048576) (s0 : x0.size ≤ maxLen) (s3 : x3.size ≤ maxLen) :
    Calls Tryd.prog 11 #[.agg #[.string x0, .int .i64 x1, .bool x2, .string x3], .int .i64 left] w fun e w' => e = .returned (.int .i64 (szR left (bulkEntry (x0, x1, x2, x3)))) ∧ Below w.heap.size w w' := by
  unfold maxLen at s0 s3
  have hb : bulkEntry (x0, x1, x2, x3) = x0.size + x3.size := rfl
  rw [hb]
  clear hb
  by_cases g0 : left < (x0.size : Int)
  · have HR := Lib.hid (show szR left (x0.size + x3.size) = -1 from szR_no (by omega))
    go_enter Tryd.func11, Tryd.ntmps11
    go_wp2
    go_ret
    exact ⟨ret_int (by rw [HR.out]), (Below.refl _ _).alloc (Nat.le_refl _) _⟩
  by_cases g3 : left - (x0.size : Int) < (x3.size : Int)
  · have HR := Lib.hid (show szR left (x0.size + x3.size) = -1 from szR_no (by omega))
    go_enter Tryd.func11, Tryd.ntmps11
    go_wp2
    go_ret
    exact ⟨ret_int (by rw [HR.out]), (Below.refl _ _).alloc (Nat.le_refl _) _⟩
  have HR := Lib.hid (show szR left (x0.size + x3.size)  = left - (x0.size : Int) - (x3.size : Int) from (szR_yes (by omega)).trans (by omega))
  have k0 : (x0.size : Int) ≤ left := by omega
  have k3 : (x3.size : Int) ≤ left - (x0.size : Int) := by omega
  go_enter Tryd.func11, Tryd.ntmps11
  go_wp2
  go_ret
  exact ⟨ret_int (by rw [HR.out]), (Below.refl _ _).alloc (Nat.le_refl _) _⟩
theorem szEntry_of (x : EntryD) (left : Int) (w : World) (h0 : 0 ≤ left) (h1 : left ≤ 1048576) (hz : OkEntry x) :
    Calls Tryd.prog 11 #[.agg #[.string x.1, .int .i64 x.2.1, .bool x.2.2.1, .string x.2.2.2], .int .i64 left] w fun e w' => e = .returned (.int .i64 (szR left (bulkEntry x))) ∧ Below w.heap.size w w' :=
  szEntry_any x.1 x.2.1 x.2.2.1 x.2.2.2 left w h0 h1 hz.1 hz.2

set_option maxHeartbeats 400000 in
theorem szEntryS_any (a : Option Addr) (ca : Nat) (l : List EntryD) (left : Int) (w : World) (h0 : 0 ≤ left) (h1 : left ≤ 1048576) (hl : ElS 4 encEntry w a l) (hok : ∀ x ∈ l, OkEntry x) :
    Calls Tryd.prog 5 #[.slice a l.length ca, .int .i64 left] w fun e w' => e = .returned (.int .i64 (szR left (bulkEntryS l))) ∧ Below w.heap.size w w' := by
  obtain ⟨hl1, hl⟩ := hl
  unfold maxLen at hl1
  by_cases hlen : left < (l.length : Int)
  · have HR := Lib.hid (show szR left (bulkEntryS l) = -1 by apply szR_no; unfold bulkEntryS; omega)
    go_enter Tryd.func5, Tryd.ntmps5
    go_wp2
    go_ret
    exact ⟨ret_int (by rw [HR.out]), Below.refl _ _⟩
  · have hle : (l.length : Int) ≤ left := by omega
    clear hlen
    rcases hl with rfl | ⟨ba, oa, rfl, hca⟩
    · go_enter Tryd.func5, Tryd.ntmps5
      go_wp2
      refine wp_loop_rounds 1 ?_
      rw [rounds_succ]
      go_wp2
      go_ret
      exact ⟨ret_int (by rw [szR_yes (by simpa [bulkEntryS, sumTo_nil] using h0)]; simp [bulkEntryS, sumTo_nil]), Below.refl _ _⟩
    · have HC := Lib.hid hca
      clear hca
      go_enter Tryd.func5, Tryd.ntmps5
      go_wp2
      go_loopw [1, 5] (fun r i wr => ∃ k : Nat, k ≤ l.length ∧ i = .int .i64 k ∧ r = .int .i64 (left - l.length - sumTo bulkEntry l k) ∧ (sumTo bulkEntry l k : Int) ≤ left - l.length ∧ Below w.heap.size w wr) (fun _ i _ => l.length - (intOf i).toNat)
      case atStart => exact ⟨0, Nat.zero_le _, rfl, by rw [sumTo_zero]; simp, by rw [sumTo_zero]; omega, Below.refl _ _⟩
      case round =>
        obtain ⟨k, hk, rfl, rfl, hs, hbel⟩ := hrel
        by_cases hlt : k < l.length
        · obtain ⟨c0, c1, c2, c3⟩ := cellsEntry hbel HC.out k hlt
          have hz := hok l[k] (List.getElem_mem _)
          have HS := Lib.hid (sumTo_succ bulkEntry l k hlt)
          have hle2 := sumTo_le bulkEntry l (k + 1)
          by_cases hbig : left - l.length - sumTo bulkEntry l k < bulkEntry l[k]
          · have HR := Lib.hid (show szR left (bulkEntryS l) = -1 by apply szR_no; rw [HS.out] at hle2; unfold bulkEntryS; omega)
            have HQ := Lib.hid (show szR (left - l.length - sumTo bulkEntry l k) (bulkEntry l[k]) = -1 from szR_no hbig)
            clear hle2 hbig
            go_wp2_with (go_at_call 11; refine (szEntry_of l[k] _ _ (by omega) (by omega) hz).mono ?_; rintro e w1 ⟨rfl, hb1⟩; rw [HQ.out])
            go_ret
            exact ⟨ret_int (by rw [HR.out]), hbel.trans (hb1.mono hbel.size)⟩
          · have HQ := Lib.hid (show szR (left - l.length - sumTo bulkEntry l k) (bulkEntry l[k]) = left - l.length - sumTo bulkEntry l k - bulkEntry l[k] from szR_yes (by omega))
            have hge : 0 ≤ left - l.length - sumTo bulkEntry l k - bulkEntry l[k] := by omega
            clear hle2 hbig
            go_wp2_with (go_at_call 11; refine (szEntry_of l[k] _ _ (by omega) (by omega) hz).mono ?_; rintro e w1 ⟨rfl, hb1⟩; rw [HQ.out])
            go_roundw
            case rel => exact ⟨k + 1, by omega, by go_num, by rw [HS.out]; go_num, by rw [HS.out]; omega, hbel.trans (hb1.mono hbel.size)⟩
            case measure => simp [intOf]; omega
        · have HS := Lib.hid (sumTo_full bulkEntry l k (by omega))
          go_wp2
          go_ret
          exact ⟨ret_int (by rw [HS.out] at hs ⊢; rw [szR_yes (by unfold bulkEntryS; omega)]; unfold bulkEntryS; omega), hbel⟩

set_option maxRecDepth 100000 in
set_option maxHeartbeats 400000 in
theorem toEntry_any (x0 : ByteArray) (x1 : Int) (x2 : Bool) (x3 : ByteArray) (w : World) :
    Calls Tryd.prog 14 #[.agg #[.string x0, .int .i64 x1, .bool x2, .string x3]] w fun e w' => e = .returned (.agg #[.string x0, .int .i64 x1, .bool x2, .string x3]) ∧ Below w.heap.size w w' := by
  go_enter Tryd.func14, Tryd.ntmps14
  go_wp2
  exact bodyPost_ret (v := .agg #[.string x0, .int .i64 x1, .bool x2, .string x3]) (by simp [results, Tryd.results14, go_sem]) rfl ⟨rfl, (by repeat (first | exact Below.refl _ _ | (refine Below.alloc ?_ (by first | (simp; done) | (simp; omega)) _) | (refine Below.setCell ?_ (by first | (simp; done) | (simp; omega)) _) | (refine Below.drew ?_)))⟩

theorem infoEntry : (Tryd.prog.info? 32).map (fun i => (i.zero, i.size, i.bytes)) = some (some (.agg #[.string ⟨#[]⟩, .int .i64 0, .bool false, .string ⟨#[]⟩]), 4, 48) := by kernel_rfl
set_option maxRecDepth 100000 in
set_option maxHeartbeats 400000 in
theorem toEntryS_any (a : Option Addr) (ca : Nat) (l : List EntryD) (w : World) (hb : l.length ≤ 1048576) (hl : ElS 4 encEntry w a l) :
    Calls Tryd.prog 7 #[.slice a l.length ca] w fun e w' => e = .returned (.slice (some ⟨w.heap.size, 0, none⟩) l.length l.length) ∧
      w'.ownsRow w.heap.size 32 4 (.slice (some ⟨w.heap.size, 0, none⟩) l.length l.length) l.length (l.flatMap encEntry) ∧ Below w.heap.size w w' := by
  obtain ⟨i0, hi, hz0, hz1, hz2⟩ := info_parts infoEntry
  obtain ⟨hl1, hl⟩ := hl
  unfold maxLen at hl1
  rcases hl with rfl | ⟨ba, oa, rfl, hca⟩
  · go_enter Tryd.func7, Tryd.ntmps7
    go_wp2_with (refine wpList_make_full _ rfl (.tmp 6) (.tmp 6) 25 rfl w.heap.size 32 i0 (.agg #[.string ⟨#[]⟩, .int .i64 0, .bool false, .string ⟨#[]⟩]) 4 Tryd.underlying25 hi hz0 hz1 .i64 .i64 0 0 0 rfl rfl rfl rfl (by omega) (by unfold maxLen; omega) (Nat.le_refl _) ?_; intro w1 hown hgrow)
    have hbel : Below w.heap.size w w1 := (Below.refl _ _).grown hgrow (Nat.le_refl _) (by simp)
    have HO := Lib.hid hown
    clear hown
    refine wp_loop_rounds 1 ?_
    rw [rounds_succ]
    go_wp2
    go_ret
    exact ⟨rfl, by have h := HO.out; rw [List.eq_nil_of_length_eq_zero (h.1.trans (Nat.zero_mul _))] at h; exact h, hbel⟩
  have HC := Lib.hid hca
  clear hca
  go_enter Tryd.func7, Tryd.ntmps7
  go_wp2_with (refine wpList_make_full _ rfl (.tmp 6) (.tmp 6) 25 rfl w.heap.size 32 i0 (.agg #[.string ⟨#[]⟩, .int .i64 0, .bool false, .string ⟨#[]⟩]) 4 Tryd.underlying25 hi hz0 hz1 .i64 .i64 l.length l.length l.length rfl rfl rfl rfl (by rw [hz2]; omega) (by unfold maxLen; omega) (Nat.le_refl _) ?_; intro w1 hown hgrow)
  have hbel : Below w.heap.size w w1 := (Below.refl _ _).grown hgrow (Nat.le_refl _) (by simp)
  go_loopw [4] (fun i wr => ∃ k : Nat, k ≤ l.length ∧ i = .int .i64 k ∧ ∃ ys, wr.ownsRow w.heap.size 32 4 (.slice (some ⟨w.heap.size, 0, none⟩) l.length l.length) l.length ys ∧ ys.take (k * 4) = (l.flatMap encEntry).take (k * 4) ∧ Below w.heap.size w wr) (fun i _ => l.length - (intOf i).toNat)
  case atStart => exact ⟨0, Nat.zero_le _, rfl, _, hown, by simp, hbel⟩
  case round =>
    clear hown hgrow hbel w1
    obtain ⟨k, hk, rfl, ys, hown, ht, hbel⟩ := hrel
    have HT := Lib.hid ht
    have HO := Lib.hid hown
    clear ht
    by_cases hlt : k < l.length
    · obtain ⟨c0, c1, c2, c3⟩ := cellsEntry hbel HC.out k hlt
      have hsz : w.heap.size < wr.heap.size := (hown.lt _ rfl).2
      clear hown
      go_wp2_with (go_at_call 14; refine (toEntry_any l[k].1 l[k].2.1 l[k].2.2.1 l[k].2.2.2 _).mono ?_; rintro e w1 ⟨rfl, hb1⟩; obtain ⟨⟨q0, d0⟩, f0⟩ := own_cells HO.out hb1 (k * 4) (by omega); obtain ⟨⟨q1, d1⟩, f1⟩ := own_cells HO.out hb1 (k * 4 + 1) (by omega); obtain ⟨⟨q2, d2⟩, f2⟩ := own_cells HO.out hb1 (k * 4 + 2) (by omega); obtain ⟨⟨q3, d3⟩, f3⟩ := own_cells HO.out hb1 (k * 4 + 3) (by omega))
      have h1 := own_below HO.out hb1
      have hbel1 := hbel.trans (hb1.mono hbel.size)
      have hyl : ys.length = l.length * 4 := HO.out.1
      have hk1 : k * 4 + 4 ≤ l.length * 4 := by rw [← Nat.succ_mul]; exact Nat.mul_le_mul_right _ hlt
      go_roundw
      case rel =>
        refine ⟨k + 1, by omega, by go_num, ((((ys.set (k * 4) (.string l[k].1)).set (k * 4 + 1) (.int .i64 l[k].2.1)).set (k * 4 + 2) (.bool l[k].2.2.1)).set (k * 4 + 3) (.string l[k].2.2.2)), ((((h1.stored (k * 4) (.string l[k].1)).1.stored (k * 4 + 1) (.int .i64 l[k].2.1)).1.stored (k * 4 + 2) (.bool l[k].2.2.1)).1.stored (k * 4 + 3) (.string l[k].2.2.2)).1, ?_, ((((hbel1.setCell (Nat.le_refl _) _).setCell (Nat.le_refl _) _).setCell (Nat.le_refl _) _).setCell (Nat.le_refl _) _)⟩
        rw [show (k + 1) * 4 = k * 4 + 4 from Nat.succ_mul _ _, flat_succ encEntry_len l k hlt]
        have t0 : ys.take (k * 4) = _ := HT.out
        have t1 := take_set_next (p := k * 4) (v := .string l[k].1) (by rw [hyl]; omega) t0
        have t2 := take_set_next (p := k * 4 + 1) (v := .int .i64 l[k].2.1) (by simp only [List.length_set]; rw [hyl]; omega) t1
        have t3 := take_set_next (p := k * 4 + 2) (v := .bool l[k].2.2.1) (by simp only [List.length_set]; rw [hyl]; omega) t2
        have t4 := take_set_next (p := k * 4 + 3) (v := .string l[k].2.2.2) (by simp only [List.length_set]; rw [hyl]; omega) t3
        refine t4.trans ?_
        simp [encEntry]
      case measure => simp [intOf]; omega
    · clear hown
      go_wp2
      go_ret
      have hx : ys = l.flatMap encEntry := by
        have h1 := HO.out.1
        have h2 := HT.out
        rwa [List.take_of_length_le (by rw [h1]; exact Nat.mul_le_mul_right _ (by omega)), List.take_of_length_le (by rw [flat_len encEntry_len]; exact Nat.mul_le_mul_right _ (by omega))] at h2
      exact ⟨rfl, by rw [← hx]; exact HO.out, hbel⟩

set_option maxRecDepth 100000 in
set_option maxHeartbeats 400000 in
theorem eqEntry_any (x0 : ByteArray) (x1 : Int) (x2 : Bool) (x3 : ByteArray) (w : World) :
    Calls Tryd.prog 22 #[.agg #[.string x0, .int .i64 x1, .bool x2, .string x3], .agg #[.string x0, .int .i64 x1, .bool x2, .string x3]] w fun e w' => e = .returned (.bool true) ∧ Below w.heap.size w w' := by
  go_enter Tryd.func22, Tryd.ntmps22
  go_wp2
  go_ret
  exact ⟨rfl, (by repeat (first | exact Below.refl _ _ | (refine Below.alloc ?_ (by first | (simp; done) | (simp; omega)) _) | (refine Below.setCell ?_ (by first | (simp; done) | (simp; omega)) _) | (refine Below.drew ?_)))⟩

set_option maxRecDepth 100000 in
set_option maxHeartbeats 400000 in
theorem eqEntryS_any (a b : Option Addr) (ca cb : Nat) (l : List EntryD) (w : World) (hl : ElS 4 encEntry w a l) (hm : ElS 4 encEntry w b l) :
    Calls Tryd.prog 9 #[.slice a l.length ca, .slice b l.length cb] w fun e w' => e = .returned (.bool true) ∧ Below w.heap.size w w' := by
  obtain ⟨hl1, hl⟩ := hl
  obtain ⟨_, hm⟩ := hm
  unfold maxLen at hl1
  have hne : (((l.length : Nat) : Int) != ((l.length : Nat) : Int)) = false := by simp
  have hnil : l = [] → Calls Tryd.prog 9 #[.slice a l.length ca, .slice b l.length cb] w fun e w' => e = .returned (.bool true) ∧ Below w.heap.size w w' := by
    rintro rfl
    clear hl hm hl1
    go_enter Tryd.func9, Tryd.ntmps9
    go_wp2
    refine wp_loop_rounds 1 ?_
    rw [rounds_succ]
    go_wp2
    go_ret
    exact ⟨rfl, Below.refl _ _⟩
  rcases hl with rfl | ⟨ba, oa, rfl, hca⟩
  · exact hnil rfl
  rcases hm with rfl | ⟨bb, ob, rfl, hcb⟩
  · exact hnil rfl
  clear hnil
  have HC := Lib.hid hca
  have HD := Lib.hid hcb
  clear hca hcb
  go_enter Tryd.func9, Tryd.ntmps9
  go_wp2
  go_loopw [5] (fun i wr => ∃ k : Nat, k ≤ l.length ∧ i = .int .i64 k ∧ Below w.heap.size w wr) (fun i _ => l.length - (intOf i).toNat)
  case atStart => exact ⟨0, Nat.zero_le _, rfl, Below.refl _ _⟩
  case round =>
    obtain ⟨k, hk, rfl, hbel⟩ := hrel
    by_cases hlt : k < l.length
    · obtain ⟨c0, c1, c2, c3⟩ := cellsEntry hbel HC.out k hlt
      obtain ⟨e0, e1, e2, e3⟩ := cellsEntry hbel HD.out k hlt
      go_wp2
      go_region_held3 (fun w' => w'.cell? ⟨ba, oa + k * 4, none⟩ = some (.string l[k].1) ∧ w'.cell? ⟨ba, oa + k * 4 + 1, none⟩ = some (.int .i64 l[k].2.1) ∧ w'.cell? ⟨ba, oa + k * 4 + 2, none⟩ = some (.bool l[k].2.2.1) ∧ w'.cell? ⟨ba, oa + k * 4 + 3, none⟩ = some (.string l[k].2.2.2) ∧ w'.cell? ⟨bb, ob + k * 4, none⟩ = some (.string l[k].1) ∧ w'.cell? ⟨bb, ob + k * 4 + 1, none⟩ = some (.int .i64 l[k].2.1) ∧ w'.cell? ⟨bb, ob + k * 4 + 2, none⟩ = some (.bool l[k].2.2.1) ∧ w'.cell? ⟨bb, ob + k * 4 + 3, none⟩ = some (.string l[k].2.2.2) ∧ Below w.heap.size w w') (first | exact ⟨c0, c1, c2, c3, e0, e1, e2, e3, hbel.drew⟩ | exact ⟨cc0, cc1, cc2, cc3, ee0, ee1, ee2, ee3, hbel1⟩)
        (first | (go_at_call 22; refine (eqEntry_any l[k].1 l[k].2.1 l[k].2.2.1 l[k].2.2.2 _).mono ?_; rintro e w1 ⟨rfl, hb⟩; have hbel1 := hbel.drew.trans (hb.mono hbel.size); obtain ⟨cc0, cc1, cc2, cc3⟩ := cellsEntry hbel1 HC.out k hlt; obtain ⟨ee0, ee1, ee2, ee3⟩ := cellsEntry hbel1 HD.out k hlt))
      go_wp2
      go_roundw
      case rel => exact ⟨k + 1, by omega, by go_num, hbel1⟩
      case measure => simp [intOf]; omega
    · go_wp2
      go_ret
      exact ⟨rfl, hbel⟩



set_option maxRecDepth 100000 in
theorem openEntry {H : Type} {enc : TypeId × Value → H} {w : World} (n : Nat) (cs : List Value) (y : DataW H × List MemPlace) (h : DataW.trod enc Tryd.prog w 0 (fun _ => true) true n 35 cs = some y) : ∃ x : EntryD, cs = encEntry x ∧ OkEntry x := by
  obtain ⟨ys, k, _, _, hl, hyl, hf⟩ := DataW.trod_struct Tryd.underlying35 h
  rw [show Tryd.prog.cellsOf 35 = 4 by kernel_rfl] at hl
  have kbool : Tryd.prog.cellsOf 4 = 1 := by kernel_rfl
  have kint : Tryd.prog.cellsOf 3 = 1 := by kernel_rfl
  have kstr : Tryd.prog.cellsOf 9 = 1 := by kernel_rfl
  match cs, hl, ys, hyl, hf with
  | [c0, c1, c2, c3], _, [y0, y1, y2, y3], _, hf =>
    obtain ⟨x0, e0, _, s0⟩ := DataW.trod_string (fuel := k) (cs := [c0]) (x := y0) Tryd.underlying9 (by simpa [kstr] using hf 0 _ rfl)
    obtain ⟨x1, e1, _, _⟩ := DataW.trod_int (fuel := k) (cs := [c1]) (x := y1) Tryd.underlying3 (by simpa [kint] using hf 1 _ rfl)
    obtain ⟨x2, e2, _⟩ := DataW.trod_bool (fuel := k) (cs := [c2]) (x := y2) Tryd.underlying4 (by simpa [kbool] using hf 2 _ rfl)
    obtain ⟨x3, e3, _, s3⟩ := DataW.trod_string (fuel := k) (cs := [c3]) (x := y3) Tryd.underlying9 (by simpa [kstr] using hf 3 _ rfl)
    exact ⟨(x0, x1, x2, x3), by rw [List.cons_eq_cons.1 e0 |>.1, List.cons_eq_cons.1 e1 |>.1, List.cons_eq_cons.1 e2 |>.1, List.cons_eq_cons.1 e3 |>.1]; rfl, ⟨s0, s3⟩⟩

end Go.Proofs.YtfekpbkcidhbfaaDoor
