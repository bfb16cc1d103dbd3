import Derived.Test.YtjbkhamfingoiaaDiskD
import Derived.Test.YtjbkhamfingoiaaName
/- DiskOk of the program and of the specification answer the same. -/
namespace Go.Proofs.Ytjbkhamfingoiaa
open Go Go.RowKit

def blkOk (s : ByteArray) : Bool := decide (s.size ≤ 200)
def waitOk (x : WaitD) : Bool := decide (0 ≤ x.1 ∧ x.1 ≤ 139 ∧ x.2.size ≤ 200)
def diskOk (d : DiskD) : Bool := d.1.all blkOk && d.2.1.all waitOk && decide (d.1.length = 140 ∧ -1 ≤ d.2.2)

theorem all_next {α : Type} {p : α → Bool} {l : List α} {k : Nat} (h : k < l.length) (h0 : (l.take k).all p = true) (h1 : p l[k] = true) : (l.take (k + 1)).all p = true := by
  rw [List.take_succ_eq_append_getElem h, List.all_append, h0]
  simp [h1]
theorem all_stop {α : Type} {p : α → Bool} {l : List α} {k : Nat} (h : k < l.length) (h1 : p l[k] = false) : l.all p = false := by
  rw [List.all_eq_false]
  exact ⟨l[k], List.getElem_mem _, by simp [h1]⟩
theorem all_done {α : Type} {p : α → Bool} {l : List α} {k : Nat} (h : l.length ≤ k) (h0 : (l.take k).all p = true) : l.all p = true := by
  rwa [List.take_of_length_le h] at h0

set_option maxHeartbeats 400000 in
theorem has_any (n : Int) (w : World) :
    Calls Try.prog 56 #[.int .i64 n] w fun e w' => e = .returned (.bool (inB n 0 139)) ∧ w = w' := by
  by_cases h1 : 0 ≤ n
  · go_enter Try.func56, Try.ntmps56
    go_wp2
    all_goals
      go_ret
      exact ⟨ret_bool (by simp [inB, h1]; try omega), rfl⟩
  · go_enter Try.func56, Try.ntmps56
    go_wp2
    go_ret
    exact ⟨ret_bool (by simp [inB]; omega), rfl⟩

def takesB (n : Int) (s : ByteArray) : Bool := decide (0 ≤ n ∧ n ≤ 139 ∧ s.size ≤ 200)

set_option maxHeartbeats 400000 in
theorem takes_any (n : Int) (s : ByteArray) (w : World) (hs : s.size ≤ maxLen) :
    Calls Try.prog 52 #[.int .i64 n, .string s] w fun e w' => e = .returned (.bool (takesB n s)) ∧ w = w' := by
  unfold maxLen at hs
  by_cases h1 : 0 ≤ n ∧ n ≤ 139
  · have HI := Lib.hid (show inB n 0 139 = true by simp [inB]; omega)
    have HT := Lib.hid (show takesB n s = decide ((s.size : Int) ≤ 200) by unfold takesB; rw [decide_eq_decide]; omega)
    clear h1
    go_enter Try.func52, Try.ntmps52
    go_wp2_with (go_at_call 56; refine (has_any _ _).mono ?_; rintro e w1 ⟨rfl, rfl⟩; rw [HI.out])
    go_ret
    exact ⟨ret_bool (by rw [HT.out]), rfl⟩
  · have HI := Lib.hid (show inB n 0 139 = false by simp [inB]; omega)
    have HT := Lib.hid (show takesB n s = false by simp [takesB]; omega)
    clear h1
    go_enter Try.func52, Try.ntmps52
    go_wp2_with (go_at_call 56; refine (has_any _ _).mono ?_; rintro e w1 ⟨rfl, rfl⟩; rw [HI.out])
    go_ret
    exact ⟨ret_bool (by rw [HT.out]), rfl⟩

theorem waitOk_eq (x : WaitD) : waitOk x = takesB x.1 x.2 := rfl

set_option maxRecDepth 100000 in
set_option maxHeartbeats 800000 in
theorem implDiskOk_any (v : Value) (d : DiskD) (w : World) (hv : DiskR w v d) :
    Calls Try.prog 20 #[v] w fun e w' => e = .returned (.bool (diskOk d)) ∧ Below w.heap.size w w' := by
  obtain ⟨a, ca, b, cb, rfl, hs, hw, hok⟩ := hv
  obtain ⟨ds, dw, dl⟩ := d
  simp only at hs hw hok
  dsimp only
  by_cases h1 : ds.length = 140
  · by_cases h2 : dl < -1
    · have hne : ((ds.length : Int) != 140) = false := by simp; omega
      have HD := Lib.hid (show diskOk (ds, dw, dl) = false by simp [diskOk]; intros; omega)
      clear h1 hs hw hok
      go_enter Try.func20, Try.ntmps20
      go_wp2
      go_ret
      exact ⟨ret_bool (by rw [HD.out]), (by repeat (first | exact Below.refl _ _ | (refine Below.alloc ?_ (by first | (simp; done) | (simp; omega)) _) | (refine Below.setCell ?_ (by first | (simp; done) | (simp; omega)) _) | (refine Below.drew ?_)))⟩
    · have hne : ((ds.length : Int) != 140) = false := by simp; omega
      have hl2 : -1 ≤ dl := by omega
      have hlen : (ds.length : Int) ≤ 140 := by omega
      have H1 := Lib.hid h1
      clear h1 h2
      go_enter Try.func20, Try.ntmps20
      go_wp2
      go_loop [19] (fun i => ∃ k : Nat, k ≤ ds.length ∧ i = .int .i64 k ∧ (ds.take k).all blkOk = true) (fun i => ds.length - (intOf i).toNat)
      case atStart => exact ⟨0, Nat.zero_le _, rfl, rfl⟩
      case round =>
        obtain ⟨k, hk, rfl, ha⟩ := hrel
        have HA := Lib.hid ha
        clear ha
        by_cases hlt : k < ds.length
        · obtain ⟨ba, oa, rfl, hca⟩ := hs.2.2.resolve_left (by intro e; subst e; simp at hlt)
          have c1 : (w.alloc (Obj.cells #[Value.slice (some ⟨ba, oa, none⟩) ds.length ca, Value.slice b dw.length cb, Value.int .i64 dl] 26)).cell? ⟨ba, oa + k, none⟩ = some (.string ds[k]) := by
            rw [(Below.refl w.heap.size w).alloc (Nat.le_refl _) _ |>.cell (by have := World.block_lt_of_cell? w _ (hca k hlt); simpa using this)]; exact hca k hlt
          by_cases hbig : 200 < (ds[k].size : Int)
          · have HD := Lib.hid (show diskOk (ds, dw, dl) = false by unfold diskOk; rw [all_stop (p := blkOk) hlt (by simp [blkOk]; omega)]; rfl)
            go_wp2
            go_ret
            exact ⟨ret_bool (by rw [HD.out]), (by repeat (first | exact Below.refl _ _ | (refine Below.alloc ?_ (by first | (simp; done) | (simp; omega)) _) | (refine Below.setCell ?_ (by first | (simp; done) | (simp; omega)) _) | (refine Below.drew ?_)))⟩
          · have hbig' : (ds[k].size : Int) ≤ 200 := by omega
            go_wp2
            go_round
            case rel => exact ⟨k + 1, by omega, by go_num, all_next hlt HA.out (by simp [blkOk]; omega)⟩
            case measure => simp [intOf]; omega
        · have HB := Lib.hid (all_done (p := blkOk) (by omega : ds.length ≤ k) HA.out)
          have hl3 := hw.1
          unfold maxLen at hl3
          go_wp2
          go_loopw [30] (fun i wr => ∃ k : Nat, k ≤ dw.length ∧ i = .int .i64 k ∧ (dw.take k).all waitOk = true ∧ Below w.heap.size w wr) (fun i _ => dw.length - (intOf i).toNat)
          case atStart => exact ⟨0, Nat.zero_le _, rfl, rfl, (by repeat (first | exact Below.refl _ _ | (refine Below.alloc ?_ (by first | (simp; done) | (simp; omega)) _) | (refine Below.setCell ?_ (by first | (simp; done) | (simp; omega)) _) | (refine Below.drew ?_)))⟩
          case round =>
            obtain ⟨j, hj, rfl, ha, hbel⟩ := hrel
            have HC := Lib.hid ha
            clear ha
            by_cases hlt2 : j < dw.length
            · obtain ⟨bb, ob, rfl, hcb⟩ := hw.2.resolve_left (by intro e; subst e; simp at hlt2)
              obtain ⟨c0, c1⟩ := cellsWait hbel hcb j hlt2
              have hz := hok dw[j] (List.getElem_mem _)
              go_wp2_with (go_at_call 52; refine (takes_any _ _ _ hz).mono ?_; rintro e w1 ⟨rfl, rfl⟩)
              · have ht : takesB dw[j].1 dw[j].2 = false := by simpa using (by assumption : (!takesB dw[j].1 dw[j].2) = true)
                go_ret
                exact ⟨ret_bool (by unfold diskOk; rw [all_stop (p := waitOk) hlt2 (by rw [waitOk_eq]; exact ht)]; simp), hbel.alloc hbel.size _⟩
              · have ht : takesB dw[j].1 dw[j].2 = true := by simpa using (by assumption : (!takesB dw[j].1 dw[j].2) = false)
                go_roundw
                case rel => exact ⟨j + 1, by omega, by go_num, all_next hlt2 HC.out (by rw [waitOk_eq]; exact ht), hbel.alloc hbel.size _⟩
                case measure => simp [intOf]; omega
            · have HD := Lib.hid (all_done (p := waitOk) (by omega : dw.length ≤ j) HC.out)
              go_wp2
              go_ret
              exact ⟨ret_bool (by unfold diskOk; rw [HB.out, HD.out, H1.out]; simp; omega), hbel⟩
  · have hne : ((ds.length : Int) != 140) = true := by simp; omega
    have HD := Lib.hid (show diskOk (ds, dw, dl) = false by simp [diskOk, h1])
    clear h1 hs hw hok
    go_enter Try.func20, Try.ntmps20
    go_wp2
    go_ret
    exact ⟨ret_bool (by rw [HD.out]), (by repeat (first | exact Below.refl _ _ | (refine Below.alloc ?_ (by first | (simp; done) | (simp; omega)) _) | (refine Below.setCell ?_ (by first | (simp; done) | (simp; omega)) _) | (refine Below.drew ?_)))⟩

set_option maxRecDepth 100000 in
set_option maxHeartbeats 800000 in
theorem specDiskOk_any (v : Value) (d : DiskD) (w : World) (hv : DiskR w v d) :
    Calls Try.prog 21 #[v] w fun e w' => e = .returned (.bool (diskOk d)) ∧ Below w.heap.size w w' := by
  obtain ⟨a, ca, b, cb, rfl, hs, hw, hok⟩ := hv
  obtain ⟨ds, dw, dl⟩ := d
  simp only at hs hw hok
  dsimp only
  have hl1 := hs.1
  have hl2 := hw.1
  unfold maxLen at hl1 hl2
  go_enter Try.func21, Try.ntmps21
  go_wp2
  go_loop [3] (fun i => ∃ k : Nat, k ≤ ds.length ∧ i = .int .i64 k ∧ (ds.take k).all blkOk = true) (fun i => ds.length - (intOf i).toNat)
  case atStart => exact ⟨0, Nat.zero_le _, rfl, rfl⟩
  case round =>
    obtain ⟨k, hk, rfl, ha⟩ := hrel
    have HA := Lib.hid ha
    clear ha
    by_cases hlt : k < ds.length
    · obtain ⟨ba, oa, rfl, hca⟩ := hs.2.2.resolve_left (by intro e; subst e; simp at hlt)
      have c1 : (w.alloc (Obj.cells #[Value.slice (some ⟨ba, oa, none⟩) ds.length ca, Value.slice b dw.length cb, Value.int .i64 dl] 26)).cell? ⟨ba, oa + k, none⟩ = some (.string ds[k]) := by
        rw [(Below.refl w.heap.size w).alloc (Nat.le_refl _) _ |>.cell (by have := World.block_lt_of_cell? w _ (hca k hlt); simpa using this)]; exact hca k hlt
      have hz := hs.2.1 ds[k] (List.getElem_mem _)
      unfold maxLen at hz
      by_cases hbig : 200 < (ds[k].size : Int)
      · have HD := Lib.hid (show diskOk (ds, dw, dl) = false by unfold diskOk; rw [all_stop (p := blkOk) hlt (by simp [blkOk]; omega)]; rfl)
        go_wp2
        go_ret
        exact ⟨ret_bool (by rw [HD.out]), (by repeat (first | exact Below.refl _ _ | (refine Below.alloc ?_ (by first | (simp; done) | (simp; omega)) _) | (refine Below.setCell ?_ (by first | (simp; done) | (simp; omega)) _) | (refine Below.drew ?_)))⟩
      · have hbig' : (ds[k].size : Int) ≤ 200 := by omega
        go_wp2
        go_round
        case rel => exact ⟨k + 1, by omega, by go_num, all_next hlt HA.out (by simp [blkOk]; omega)⟩
        case measure => simp [intOf]; omega
    · have HB := Lib.hid (all_done (p := blkOk) (by omega : ds.length ≤ k) HA.out)
      go_wp2
      go_loop [4] (fun i => ∃ j : Nat, j ≤ dw.length ∧ i = .int .i64 j ∧ (dw.take j).all waitOk = true) (fun i => dw.length - (intOf i).toNat)
      case atStart => exact ⟨0, Nat.zero_le _, rfl, rfl⟩
      case round =>
        obtain ⟨j, hj, rfl, ha⟩ := hrel
        have HC := Lib.hid ha
        clear ha
        by_cases hlt2 : j < dw.length
        · obtain ⟨bb, ob, rfl, hcb⟩ := hw.2.resolve_left (by intro e; subst e; simp at hlt2)
          obtain ⟨c0, c1⟩ := cellsWait ((Below.refl w.heap.size w).alloc (Nat.le_refl _) (Obj.cells #[Value.slice a ds.length ca, Value.slice (some ⟨bb, ob, none⟩) dw.length cb, Value.int .i64 dl] 26)) hcb j hlt2
          have hz := hok dw[j] (List.getElem_mem _)
          unfold OkWait maxLen at hz
          by_cases hin : 0 ≤ dw[j].1 ∧ dw[j].1 ≤ 139
          · have HI := Lib.hid (show inB dw[j].1 0 139 = true by simp [inB]; omega)
            by_cases hbig : 200 < (dw[j].2.size : Int)
            · have HW := Lib.hid (show waitOk dw[j] = false by unfold waitOk; rw [decide_eq_false_iff_not]; omega)
              clear hin
              go_wp2_with (go_at_call 53; refine (in_any _ _ _ _).mono ?_; rintro e w1 ⟨rfl, rfl⟩; rw [HI.out])
              go_ret
              exact ⟨ret_bool (by unfold diskOk; rw [all_stop (p := waitOk) hlt2 HW.out]; simp), (by repeat (first | exact Below.refl _ _ | (refine Below.alloc ?_ (by first | (simp; done) | (simp; omega)) _) | (refine Below.setCell ?_ (by first | (simp; done) | (simp; omega)) _) | (refine Below.drew ?_)))⟩
            · have HW := Lib.hid (show waitOk dw[j] = true by unfold waitOk; rw [decide_eq_true_eq]; omega)
              have hle : (dw[j].2.size : Int) ≤ 200 := by omega
              clear hin hbig
              go_wp2_with (go_at_call 53; refine (in_any _ _ _ _).mono ?_; rintro e w1 ⟨rfl, rfl⟩; rw [HI.out])
              go_round
              case rel => exact ⟨j + 1, by omega, by go_num, all_next hlt2 HC.out HW.out⟩
              case measure => simp [intOf]; omega
          · have HI := Lib.hid (show inB dw[j].1 0 139 = false by simp [inB]; omega)
            have HW := Lib.hid (show waitOk dw[j] = false by unfold waitOk; rw [decide_eq_false_iff_not]; omega)
            clear hin
            go_wp2_with (go_at_call 53; refine (in_any _ _ _ _).mono ?_; rintro e w1 ⟨rfl, rfl⟩; rw [HI.out])
            go_ret
            exact ⟨ret_bool (by unfold diskOk; rw [all_stop (p := waitOk) hlt2 HW.out]; simp), (by repeat (first | exact Below.refl _ _ | (refine Below.alloc ?_ (by first | (simp; done) | (simp; omega)) _) | (refine Below.setCell ?_ (by first | (simp; done) | (simp; omega)) _) | (refine Below.drew ?_)))⟩
        · have HD := Lib.hid (all_done (p := waitOk) (by omega : dw.length ≤ j) HC.out)
          by_cases h1 : ds.length = 140
          · have hq : ((ds.length : Int) == 140) = true := by simp; omega
            have HE := Lib.hid (show diskOk (ds, dw, dl) = decide (-1 ≤ dl) by unfold diskOk; rw [HB.out, HD.out]; simp [h1])
            clear h1
            go_wp2
            go_ret
            exact ⟨ret_bool (by rw [HE.out]), (by repeat (first | exact Below.refl _ _ | (refine Below.alloc ?_ (by first | (simp; done) | (simp; omega)) _) | (refine Below.setCell ?_ (by first | (simp; done) | (simp; omega)) _) | (refine Below.drew ?_)))⟩
          · have hq : ((ds.length : Int) == 140) = false := by simp; omega
            have HE := Lib.hid (show diskOk (ds, dw, dl) = false by unfold diskOk; simp [h1])
            clear h1
            go_wp2
            go_ret
            exact ⟨ret_bool (by rw [HE.out]), (by repeat (first | exact Below.refl _ _ | (refine Below.alloc ?_ (by first | (simp; done) | (simp; omega)) _) | (refine Below.setCell ?_ (by first | (simp; done) | (simp; omega)) _) | (refine Below.drew ?_)))⟩
end Go.Proofs.Ytjbkhamfingoiaa
