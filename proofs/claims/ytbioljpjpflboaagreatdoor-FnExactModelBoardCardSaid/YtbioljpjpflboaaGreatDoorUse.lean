import Derived.Test.YtbioljpjpflboaaGreatDoorProg
import Derived.Test.YtbioljpjpflboaaGreatDoorBase
import Derived.Test.YtbioljpjpflboaaGreatDoorMark
import Derived.Deep.RegionHeld3
import Derived.Deep.QuietTactic
import Derived.BigQuiet
import Derived.Test.YtbioljpjpflboaaGreatDoorOpen
/- Use: what the helpers of the exact laws do with values of this type and with lists of them. -/
namespace Go.Proofs.YtbioljpjpflboaaGreatDoor
open Go Go.RowKit Go.ChangeShapes Go.WideShapes

abbrev UseD := ByteArray × Int
def encUse (x : UseD) : List Value := [.string x.1, .int .i64 x.2]
theorem encUse_len (x : UseD) : (encUse x).length = 2 := rfl
def bulkUse (x : UseD) : Nat := x.1.size
def OkUse (x : UseD) : Prop := x.1.size ≤ maxLen
def bulkUseS (l : List UseD) : Nat := l.length + sumTo bulkUse l l.length

theorem cellsUse {w wr : World} {b o : Nat} {l : List UseD} (hb : Below w.heap.size w wr) (hc : ∀ j, (h : j < l.length) → ∀ i v, (encUse l[j])[i]? = some v → w.cell? ⟨b, o + j * 2 + i, none⟩ = some v) (k : Nat) (h : k < l.length) :
    wr.cell? ⟨b, o + k * 2, none⟩ = some (.string l[k].1) ∧ wr.cell? ⟨b, o + k * 2 + 1, none⟩ = some (.int .i64 l[k].2) := by
  have g : ∀ i v, (encUse l[k])[i]? = some v → wr.cell? ⟨b, o + k * 2 + i, none⟩ = some v := fun i v hv => by
    have h0 := hc k h i v hv
    rw [hb.cell (by have := World.block_lt_of_cell? w _ h0; simpa using this)]
    exact h0
  exact ⟨g 0 _ rfl, g 1 _ rfl⟩

set_option maxHeartbeats 400000 in
theorem szUse_any (x0 : ByteArray) (x1 : Int) (left : Int) (w : World) (h0 : 0 ≤ left) (h1 : left ≤ 1048576) (s0 : x0.size ≤ maxLen) :
    Calls Tryz.prog 50 #[.agg #[.string x0, .int .i64 x1], .int .i64 left] w fun e w' => e = .returned (.int .i64 (szR left (bulkUse (x0, x1)))) ∧ Below w.heap.size w w' := by
  unfold maxLen at s0
  have hb : bulkUse (x0, x1) = x0.size := rfl
  rw [hb]
  clear hb
  by_cases g0 : left < (x0.size : Int)
  · have HR := Lib.hid (show szR left (x0.size) = -1 from szR_no (by omega))
    go_enter Tryz.func50, Tryz.ntmps50
    go_wp2
    go_ret
    exact ⟨ret_int (by rw [HR.out]), (Below.refl _ _).alloc (Nat.le_refl _) _⟩
  have HR := Lib.hid (show szR left (x0.size)  = left - (x0.size : Int) from (szR_yes (by omega)).trans (by omega))
  have k0 : (x0.size : Int) ≤ left := by omega
  go_enter Tryz.func50, Tryz.ntmps50
  go_wp2
  go_ret
  exact ⟨ret_int (by rw [HR.out]), (Below.refl _ _).alloc (Nat.le_refl _) _⟩
theorem szUse_of (x : UseD) (left : Int) (w : World) (h0 : 0 ≤ left) (h1 : left ≤ 1048576) (hz : OkUse x) :
    Calls Tryz.prog 50 #[.agg #[.string x.1, .int .i64 x.2], .int .i64 left] w fun e w' => e = .returned (.int .i64 (szR left (bulkUse x))) ∧ Below w.heap.size w w' :=
  szUse_any x.1 x.2 left w h0 h1 hz

set_option maxHeartbeats 400000 in
theorem szUseS_any (a : Option Addr) (ca : Nat) (l : List UseD) (left : Int) (w : World) (h0 : 0 ≤ left) (h1 : left ≤ 1048576) (hl : ElS 2 encUse w a l) (hok : ∀ x ∈ l, OkUse x) :
    Calls Tryz.prog 17 #[.slice a l.length ca, .int .i64 left] w fun e w' => e = .returned (.int .i64 (szR left (bulkUseS l))) ∧ Below w.heap.size w w' := by
  obtain ⟨hl1, hl⟩ := hl
  unfold maxLen at hl1
  by_cases hlen : left < (l.length : Int)
  · have HR := Lib.hid (show szR left (bulkUseS l) = -1 by apply szR_no; unfold bulkUseS; omega)
    go_enter Tryz.func17, Tryz.ntmps17
    go_wp2
    go_ret
    exact ⟨ret_int (by rw [HR.out]), Below.refl _ _⟩
  · have hle : (l.length : Int) ≤ left := by omega
    clear hlen
    rcases hl with rfl | ⟨ba, oa, rfl, hca⟩
    · go_enter Tryz.func17, Tryz.ntmps17
      go_wp2
      refine wp_loop_rounds 1 ?_
      rw [rounds_succ]
      go_wp2
      go_ret
      exact ⟨ret_int (by rw [szR_yes (by simpa [bulkUseS, sumTo_nil] using h0)]; simp [bulkUseS, sumTo_nil]), Below.refl _ _⟩
    · have HC := Lib.hid hca
      clear hca
      go_enter Tryz.func17, Tryz.ntmps17
      go_wp2
      go_loopw [1, 5] (fun r i wr => ∃ k : Nat, k ≤ l.length ∧ i = .int .i64 k ∧ r = .int .i64 (left - l.length - sumTo bulkUse l k) ∧ (sumTo bulkUse l k : Int) ≤ left - l.length ∧ Below w.heap.size w wr) (fun _ i _ => l.length - (intOf i).toNat)
      case atStart => exact ⟨0, Nat.zero_le _, rfl, by rw [sumTo_zero]; simp, by rw [sumTo_zero]; omega, Below.refl _ _⟩
      case round =>
        obtain ⟨k, hk, rfl, rfl, hs, hbel⟩ := hrel
        by_cases hlt : k < l.length
        · obtain ⟨c0, c1⟩ := cellsUse hbel HC.out k hlt
          have hz := hok l[k] (List.getElem_mem _)
          have HS := Lib.hid (sumTo_succ bulkUse l k hlt)
          have hle2 := sumTo_le bulkUse l (k + 1)
          by_cases hbig : left - l.length - sumTo bulkUse l k < bulkUse l[k]
          · have HR := Lib.hid (show szR left (bulkUseS l) = -1 by apply szR_no; rw [HS.out] at hle2; unfold bulkUseS; omega)
            have HQ := Lib.hid (show szR (left - l.length - sumTo bulkUse l k) (bulkUse l[k]) = -1 from szR_no hbig)
            clear hle2 hbig
            go_wp2_with (go_at_call 50; refine (szUse_of l[k] _ _ (by omega) (by omega) hz).mono ?_; rintro e w1 ⟨rfl, hb1⟩; rw [HQ.out])
            go_ret
            exact ⟨ret_int (by rw [HR.out]), hbel.trans (hb1.mono hbel.size)⟩
          · have HQ := Lib.hid (show szR (left - l.length - sumTo bulkUse l k) (bulkUse l[k]) = left - l.length - sumTo bulkUse l k - bulkUse l[k] from szR_yes (by omega))
            have hge : 0 ≤ left - l.length - sumTo bulkUse l k - bulkUse l[k] := by omega
            clear hle2 hbig
            go_wp2_with (go_at_call 50; refine (szUse_of l[k] _ _ (by omega) (by omega) hz).mono ?_; rintro e w1 ⟨rfl, hb1⟩; rw [HQ.out])
            go_roundw
            case rel => exact ⟨k + 1, by omega, by go_num, by rw [HS.out]; go_num, by rw [HS.out]; omega, hbel.trans (hb1.mono hbel.size)⟩
            case measure => simp [intOf]; omega
        · have HS := Lib.hid (sumTo_full bulkUse l k (by omega))
          go_wp2
          go_ret
          exact ⟨ret_int (by rw [HS.out] at hs ⊢; rw [szR_yes (by unfold bulkUseS; omega)]; unfold bulkUseS; omega), hbel⟩

set_option maxRecDepth 100000 in
set_option maxHeartbeats 400000 in
theorem toUse_any (x0 : ByteArray) (x1 : Int) (w : World) :
    Calls Tryz.prog 64 #[.agg #[.string x0, .int .i64 x1]] w fun e w' => e = .returned (.agg #[.string x0, .int .i64 x1]) ∧ Below w.heap.size w w' := by
  go_enter Tryz.func64, Tryz.ntmps64
  go_wp2
  exact bodyPost_ret (v := .agg #[.string x0, .int .i64 x1]) (by simp [results, Tryz.results64, go_sem]) rfl ⟨rfl, (by repeat (first | exact Below.refl _ _ | (refine Below.alloc ?_ (by first | (simp; done) | (simp; omega)) _) | (refine Below.setCell ?_ (by first | (simp; done) | (simp; omega)) _) | (refine Below.drew ?_)))⟩

theorem infoUse : (Tryz.prog.info? 54).map (fun i => (i.zero, i.size, i.bytes)) = some (some (.agg #[.string ⟨#[]⟩, .int .i64 0]), 2, 24) := by kernel_rfl
set_option maxRecDepth 100000 in
set_option maxHeartbeats 400000 in
theorem toUseS_any (a : Option Addr) (ca : Nat) (l : List UseD) (w : World) (hb : l.length ≤ 1048576) (hl : ElS 2 encUse w a l) :
    Calls Tryz.prog 25 #[.slice a l.length ca] w fun e w' => e = .returned (.slice (some ⟨w.heap.size, 0, none⟩) l.length l.length) ∧
      w'.ownsRow w.heap.size 54 2 (.slice (some ⟨w.heap.size, 0, none⟩) l.length l.length) l.length (l.flatMap encUse) ∧ Below w.heap.size w w' := by
  obtain ⟨i0, hi, hz0, hz1, hz2⟩ := info_parts infoUse
  obtain ⟨hl1, hl⟩ := hl
  unfold maxLen at hl1
  rcases hl with rfl | ⟨ba, oa, rfl, hca⟩
  · go_enter Tryz.func25, Tryz.ntmps25
    go_wp2_with (refine wpList_make_full _ rfl (.tmp 6) (.tmp 6) 31 rfl w.heap.size 54 i0 (.agg #[.string ⟨#[]⟩, .int .i64 0]) 2 Tryz.underlying31 hi hz0 hz1 .i64 .i64 0 0 0 rfl rfl rfl rfl (by omega) (by unfold maxLen; omega) (Nat.le_refl _) ?_; intro w1 hown hgrow)
    have hbel : Below w.heap.size w w1 := (Below.refl _ _).grown hgrow (Nat.le_refl _) (by simp)
    have HO := Lib.hid hown
    clear hown
    refine wp_loop_rounds 1 ?_
    rw [rounds_succ]
    go_wp2
    go_ret
    exact ⟨rfl, by have h := HO.out; rw [List.eq_nil_of_length_eq_zero (h.1.trans (Nat.zero_mul _))] at h; exact h, hbel⟩
  have HC := Lib.hid hca
  clear hca
  go_enter Tryz.func25, Tryz.ntmps25
  go_wp2_with (refine wpList_make_full _ rfl (.tmp 6) (.tmp 6) 31 rfl w.heap.size 54 i0 (.agg #[.string ⟨#[]⟩, .int .i64 0]) 2 Tryz.underlying31 hi hz0 hz1 .i64 .i64 l.length l.length l.length rfl rfl rfl rfl (by rw [hz2]; omega) (by unfold maxLen; omega) (Nat.le_refl _) ?_; intro w1 hown hgrow)
  have hbel : Below w.heap.size w w1 := (Below.refl _ _).grown hgrow (Nat.le_refl _) (by simp)
  go_loopw [4] (fun i wr => ∃ k : Nat, k ≤ l.length ∧ i = .int .i64 k ∧ ∃ ys, wr.ownsRow w.heap.size 54 2 (.slice (some ⟨w.heap.size, 0, none⟩) l.length l.length) l.length ys ∧ ys.take (k * 2) = (l.flatMap encUse).take (k * 2) ∧ Below w.heap.size w wr) (fun i _ => l.length - (intOf i).toNat)
  case atStart => exact ⟨0, Nat.zero_le _, rfl, _, hown, by simp, hbel⟩
  case round =>
    clear hown hgrow hbel w1
    obtain ⟨k, hk, rfl, ys, hown, ht, hbel⟩ := hrel
    have HT := Lib.hid ht
    have HO := Lib.hid hown
    clear ht
    by_cases hlt : k < l.length
    · obtain ⟨c0, c1⟩ := cellsUse hbel HC.out k hlt
      have hsz : w.heap.size < wr.heap.size := (hown.lt _ rfl).2
      clear hown
      go_wp2_with (go_at_call 64; refine (toUse_any l[k].1 l[k].2 _).mono ?_; rintro e w1 ⟨rfl, hb1⟩; obtain ⟨⟨q0, d0⟩, f0⟩ := own_cells HO.out hb1 (k * 2) (by omega); obtain ⟨⟨q1, d1⟩, f1⟩ := own_cells HO.out hb1 (k * 2 + 1) (by omega))
      have h1 := own_below HO.out hb1
      have hbel1 := hbel.trans (hb1.mono hbel.size)
      have hyl : ys.length = l.length * 2 := HO.out.1
      have hk1 : k * 2 + 2 ≤ l.length * 2 := by rw [← Nat.succ_mul]; exact Nat.mul_le_mul_right _ hlt
      go_roundw
      case rel =>
        refine ⟨k + 1, by omega, by go_num, ((ys.set (k * 2) (.string l[k].1)).set (k * 2 + 1) (.int .i64 l[k].2)), ((h1.stored (k * 2) (.string l[k].1)).1.stored (k * 2 + 1) (.int .i64 l[k].2)).1, ?_, ((hbel1.setCell (Nat.le_refl _) _).setCell (Nat.le_refl _) _)⟩
        rw [show (k + 1) * 2 = k * 2 + 2 from Nat.succ_mul _ _, flat_succ encUse_len l k hlt]
        have t0 : ys.take (k * 2) = _ := HT.out
        have t1 := take_set_next (p := k * 2) (v := .string l[k].1) (by rw [hyl]; omega) t0
        have t2 := take_set_next (p := k * 2 + 1) (v := .int .i64 l[k].2) (by simp only [List.length_set]; rw [hyl]; omega) t1
        refine t2.trans ?_
        simp [encUse]
      case measure => simp [intOf]; omega
    · clear hown
      go_wp2
      go_ret
      have hx : ys = l.flatMap encUse := by
        have h1 := HO.out.1
        have h2 := HT.out
        rwa [List.take_of_length_le (by rw [h1]; exact Nat.mul_le_mul_right _ (by omega)), List.take_of_length_le (by rw [flat_len encUse_len]; exact Nat.mul_le_mul_right _ (by omega))] at h2
      exact ⟨rfl, by rw [← hx]; exact HO.out, hbel⟩

set_option maxRecDepth 100000 in
set_option maxHeartbeats 400000 in
theorem eqUse_any (x0 : ByteArray) (x1 : Int) (w : World) :
    Calls Tryz.prog 79 #[.agg #[.string x0, .int .i64 x1], .agg #[.string x0, .int .i64 x1]] w fun e w' => e = .returned (.bool true) ∧ Below w.heap.size w w' := by
  go_enter Tryz.func79, Tryz.ntmps79
  go_wp2
  go_ret
  exact ⟨rfl, (by repeat (first | exact Below.refl _ _ | (refine Below.alloc ?_ (by first | (simp; done) | (simp; omega)) _) | (refine Below.setCell ?_ (by first | (simp; done) | (simp; omega)) _) | (refine Below.drew ?_)))⟩

set_option maxRecDepth 100000 in
set_option maxHeartbeats 400000 in
theorem eqUseS_any (a b : Option Addr) (ca cb : Nat) (l : List UseD) (w : World) (hl : ElS 2 encUse w a l) (hm : ElS 2 encUse w b l) :
    Calls Tryz.prog 35 #[.slice a l.length ca, .slice b l.length cb] w fun e w' => e = .returned (.bool true) ∧ Below w.heap.size w w' := by
  obtain ⟨hl1, hl⟩ := hl
  obtain ⟨_, hm⟩ := hm
  unfold maxLen at hl1
  have hne : (((l.length : Nat) : Int) != ((l.length : Nat) : Int)) = false := by simp
  have hnil : l = [] → Calls Tryz.prog 35 #[.slice a l.length ca, .slice b l.length cb] w fun e w' => e = .returned (.bool true) ∧ Below w.heap.size w w' := by
    rintro rfl
    clear hl hm hl1
    go_enter Tryz.func35, Tryz.ntmps35
    go_wp2
    refine wp_loop_rounds 1 ?_
    rw [rounds_succ]
    go_wp2
    go_ret
    exact ⟨rfl, Below.refl _ _⟩
  rcases hl with rfl | ⟨ba, oa, rfl, hca⟩
  · exact hnil rfl
  rcases hm with rfl | ⟨bb, ob, rfl, hcb⟩
  · exact hnil rfl
  clear hnil
  have HC := Lib.hid hca
  have HD := Lib.hid hcb
  clear hca hcb
  go_enter Tryz.func35, Tryz.ntmps35
  go_wp2
  go_loopw [5] (fun i wr => ∃ k : Nat, k ≤ l.length ∧ i = .int .i64 k ∧ Below w.heap.size w wr) (fun i _ => l.length - (intOf i).toNat)
  case atStart => exact ⟨0, Nat.zero_le _, rfl, Below.refl _ _⟩
  case round =>
    obtain ⟨k, hk, rfl, hbel⟩ := hrel
    by_cases hlt : k < l.length
    · obtain ⟨c0, c1⟩ := cellsUse hbel HC.out k hlt
      obtain ⟨e0, e1⟩ := cellsUse hbel HD.out k hlt
      go_wp2
      go_region_held3 (fun w' => w'.cell? ⟨ba, oa + k * 2, none⟩ = some (.string l[k].1) ∧ w'.cell? ⟨ba, oa + k * 2 + 1, none⟩ = some (.int .i64 l[k].2) ∧ w'.cell? ⟨bb, ob + k * 2, none⟩ = some (.string l[k].1) ∧ w'.cell? ⟨bb, ob + k * 2 + 1, none⟩ = some (.int .i64 l[k].2) ∧ Below w.heap.size w w') (first | exact ⟨c0, c1, e0, e1, hbel.drew⟩ | exact ⟨cc0, cc1, ee0, ee1, hbel1⟩)
        (first | (go_at_call 79; refine (eqUse_any l[k].1 l[k].2 _).mono ?_; rintro e w1 ⟨rfl, hb⟩; have hbel1 := hbel.drew.trans (hb.mono hbel.size); obtain ⟨cc0, cc1⟩ := cellsUse hbel1 HC.out k hlt; obtain ⟨ee0, ee1⟩ := cellsUse hbel1 HD.out k hlt))
      go_wp2
      go_roundw
      case rel => exact ⟨k + 1, by omega, by go_num, hbel1⟩
      case measure => simp [intOf]; omega
    · go_wp2
      go_ret
      exact ⟨rfl, hbel⟩

def mkUse (k : Int) : UseD := (markB k, (k + 1))
def marksUse (k : Int) (n : Nat) : List UseD := (List.range n).map fun (j : Nat) => mkUse (k + 2 * (j : Int))
theorem marksUse_len (k : Int) (n : Nat) : (marksUse k n).length = n := by simp [marksUse]
theorem marksUse_get (k : Int) (n j : Nat) (h : j < (marksUse k n).length) : (marksUse k n)[j] = mkUse (k + 2 * (j : Int)) := by simp [marksUse]
theorem marksUse_ok (k : Int) (n : Nat) (hk : k + 2 * (n : Int) ≤ 4611686018427387904) : ∀ x ∈ marksUse k n, OkUse x := by
  intro x hx
  simp only [marksUse, List.mem_map, List.mem_range] at hx
  obtain ⟨j, hj, rfl⟩ := hx
  exact markB_size _ (by omega)
set_option maxRecDepth 100000 in
set_option maxHeartbeats 400000 in
theorem markUseS_any (base : Nat) (v : Value) (n : Nat) (xs : List Value) (k : Int) (w : World) (hn : n ≤ 1099511627776) (hk0 : 0 ≤ k) (hk : k ≤ 1099511627776) (hown : w.ownsRow base 54 2 v n xs) :
    Calls Tryz.prog 45 #[v, .int .i64 k] w fun e w' => e = .returned (.int .i64 (k + 2 * n)) ∧
      w'.ownsRow base 54 2 v n ((marksUse k n).flatMap encUse) ∧ KeptOut (fun b => v.ownBlock = some b) w w' := by
  rcases hown.2 with ⟨rfl, rfl⟩ | ⟨g, cap, cur, rfl, hrest⟩
  · go_enter Tryz.func45, Tryz.ntmps45
    go_wp2
    refine wp_loop_rounds 1 ?_
    rw [rounds_succ]
    go_wp2
    go_ret
    obtain rfl : xs = [] := List.eq_nil_of_length_eq_zero (hown.1.trans (Nat.zero_mul _))
    exact ⟨ret_int (by omega), hown, KeptOut.refl _ _⟩
  · clear hrest
    have hlen := marksUse_len k n
    go_enter Tryz.func45, Tryz.ntmps45
    go_wp2
    go_loopw [1, 5] (fun kk i wr => ∃ j : Nat, j ≤ n ∧ i = .int .i64 j ∧ kk = .int .i64 (k + 2 * j) ∧ ∃ ys, wr.ownsRow base 54 2 (.slice (some ⟨g, 0, none⟩) n cap) n ys ∧ ys.take (j * 2) = ((marksUse k n).flatMap encUse).take (j * 2) ∧ KeptOut (fun b => b = g) w wr) (fun _ i _ => n - (intOf i).toNat)
    case atStart => exact ⟨0, Nat.zero_le _, rfl, by simp, xs, hown, by simp, KeptOut.refl _ _⟩
    case round =>
      clear hown
      obtain ⟨j, hj, rfl, rfl, ys, hown, ht, hkept⟩ := hrel
      have HT := Lib.hid ht
      have HL := Lib.hid hlen
      have HO := Lib.hid hown
      clear ht hlen hown
      by_cases hlt : j < n
      · have hk1 : j * 2 + 2 ≤ n * 2 := by rw [← Nat.succ_mul]; exact Nat.mul_le_mul_right _ hlt
        obtain ⟨⟨q0, d0⟩, f0⟩ := own_cells HO.out (Below.refl _ _) (j * 2) (by omega)
        obtain ⟨⟨q1, d1⟩, f1⟩ := own_cells HO.out (Below.refl _ _) (j * 2 + 1) (by omega)
        go_wp2_with fail
        refine (mark_any _ _ (by omega)).mono ?_
        rintro e w1 ⟨rfl, hb1⟩
        have o1 := own_below HO.out hb1
        clear d0 f0 d1 f1
        obtain ⟨⟨q0, d0⟩, f0⟩ := own_cells o1 (Below.refl _ _) (j * 2) (by omega)
        obtain ⟨⟨q1, d1⟩, f1⟩ := own_cells o1 (Below.refl _ _) (j * 2 + 1) (by omega)
        have O1 := Lib.hid o1
        clear o1
        have hyl : ys.length = n * 2 := HO.out.1
        go_wp2
        go_roundw
        case rel =>
          refine ⟨j + 1, by omega, by go_num, by go_num, ((ys.set (j * 2) (.string (markB (k + 2 * (j : Int))))).set (j * 2 + 1) (.int .i64 (k + 2 * (j : Int) + 1))), ((O1.out.stored (j * 2) (.string (markB (k + 2 * (j : Int))))).1.stored (j * 2 + 1) (.int .i64 (k + 2 * (j : Int) + 1))).1, ?_, (((hkept.trans (.of_below hb1)).setCell rfl _).setCell rfl _)⟩
          rw [show (j + 1) * 2 = j * 2 + 2 from Nat.succ_mul _ _, flat_succ encUse_len (marksUse k n) j (by rw [HL.out]; exact hlt)]
          have t0 : ys.take (j * 2) = _ := HT.out
          have t1 := take_set_next (p := j * 2) (v := .string (markB (k + 2 * (j : Int)))) (by rw [hyl]; omega) t0
          have t2 := take_set_next (p := j * 2 + 1) (v := .int .i64 (k + 2 * (j : Int) + 1)) (by simp only [List.length_set]; rw [hyl]; omega) t1
          refine t2.trans ?_
          simp [encUse, marksUse_get, mkUse, Int.add_assoc]
        case measure => simp [intOf]; omega
      · go_wp2
        go_ret
        have hx : ys = (marksUse k n).flatMap encUse := by
          have h1 := HO.out.1
          have h2 := HT.out
          rwa [List.take_of_length_le (by rw [h1]; exact Nat.mul_le_mul_right _ (by omega)), List.take_of_length_le (by rw [flat_len encUse_len, HL.out]; exact Nat.mul_le_mul_right _ (by omega))] at h2
        exact ⟨ret_int (by omega), by rw [← hx]; exact HO.out, hkept.mono (fun b _ hb => by subst hb; rfl)⟩


set_option maxRecDepth 100000 in
theorem openUse {H : Type} {enc : TypeId × Value → H} {w : World} (n : Nat) (cs : List Value) (y : DataW H × List MemPlace) (h : DataW.trod enc Tryz.prog w 0 (fun _ => true) true n 91 cs = some y) : ∃ x : UseD, cs = encUse x ∧ OkUse x := by
  obtain ⟨ys, k, _, _, hl, hyl, hf⟩ := DataW.trod_struct Tryz.underlying91 h
  rw [show Tryz.prog.cellsOf 91 = 2 by kernel_rfl] at hl
  have kint : Tryz.prog.cellsOf 3 = 1 := by kernel_rfl
  have kstr : Tryz.prog.cellsOf 9 = 1 := by kernel_rfl
  match cs, hl, ys, hyl, hf with
  | [c0, c1], _, [y0, y1], _, hf =>
    obtain ⟨x0, e0, _, s0⟩ := DataW.trod_string (fuel := k) (cs := [c0]) (x := y0) Tryz.underlying9 (by simpa [kstr] using hf 0 _ rfl)
    obtain ⟨x1, e1, _, _⟩ := DataW.trod_int (fuel := k) (cs := [c1]) (x := y1) Tryz.underlying3 (by simpa [kint] using hf 1 _ rfl)
    exact ⟨(x0, x1), by rw [List.cons_eq_cons.1 e0 |>.1, List.cons_eq_cons.1 e1 |>.1]; rfl, s0⟩

end Go.Proofs.YtbioljpjpflboaaGreatDoor
