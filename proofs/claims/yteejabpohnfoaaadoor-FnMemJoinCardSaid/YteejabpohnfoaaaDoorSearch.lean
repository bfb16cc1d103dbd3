import Derived.Test.YteejabpohnfoaaaDoorGet
/- slices.BinarySearchFunc over entries. -/
namespace Go.Proofs.YteejabpohnfoaaaDoor
open Go Go.RowKit

set_option maxRecDepth 100000 in
set_option maxHeartbeats 800000 in
theorem search_any (ba oa ca : Nat) (l : List EntryD) (t0 : ByteArray) (t1 : Int) (t2 : Bool) (t3 : ByteArray) (w : World) (hn : l.length ≤ 1048576)
    (hc : ∀ j, (h : j < l.length) → ∀ i v, (encEntry l[j])[i]? = some v → w.cell? ⟨ba, oa + j * 4 + i, none⟩ = some v)
    (hs : ∀ j (hj : j + 1 < l.length), lessB (l[j]'(by omega)) l[j+1] = true) :
    Calls Tryd.prog 68 #[.slice (some ⟨ba, oa, none⟩) l.length ca, .agg #[.string t0, .int .i64 t1, .bool t2, .string t3], .func (.func 41) #[] #[]] w fun e w' =>
      (∃ p : Nat, p ≤ l.length ∧ (∀ r (hr : r < l.length), r < p → lessB l[r] (t0, t1, t2, t3) = true) ∧ (∀ r (hr : r < l.length), p ≤ r → lessB l[r] (t0, t1, t2, t3) = false) ∧ ∃ f : Bool, e = .returned (.tuple #[.int .i64 p, .bool f])) ∧ Below w.heap.size w w' := by
  have HC := Lib.hid hc
  have HS := Lib.hid hs
  clear hc hs
  go_enter Tryd.func68, Tryd.ntmps68
  go_wp2
  go_loopw [9, 10] (fun i j wr => ∃ p q : Nat, p ≤ q ∧ q ≤ l.length ∧ i = .int .i64 p ∧ j = .int .i64 q ∧ (∀ r (hr : r < l.length), r < p → lessB l[r] (t0, t1, t2, t3) = true) ∧ (∀ r (hr : r < l.length), q ≤ r → lessB l[r] (t0, t1, t2, t3) = false) ∧ Box wr w.heap.size [.string t0, .int .i64 t1, .bool t2, .string t3] ∧ Below w.heap.size w wr) (fun i j _ => (intOf j).toNat - (intOf i).toNat)
  case atStart => exact ⟨0, l.length, Nat.zero_le _, Nat.le_refl _, rfl, rfl, fun r _ h => absurd h (Nat.not_lt_zero r), fun r hr h => absurd hr (by omega), Box.alloc _ _ _, (by repeat (first | exact Below.refl _ _ | (refine Below.alloc ?_ (by first | (simp; done) | (simp; omega)) _) | (refine Below.setCell ?_ (by first | (simp; done) | (simp; omega)) _) | (refine Below.drew ?_)))⟩
  case round =>
    obtain ⟨p, q, hpq, hq, rfl, rfl, h1, h2, hbx, hbel⟩ := hrel
    have H1 := Lib.hid h1
    have H2 := Lib.hid h2
    have HX := Lib.hid hbx
    obtain ⟨⟨x0, f0⟩, ⟨x1, f1⟩, ⟨x2, f2⟩, x3, f3⟩ := show _ ∧ _ ∧ _ ∧ _ from ⟨hbx 0 _ rfl, hbx 1 _ rfl, hbx 2 _ rfl, hbx 3 _ rfl⟩
    clear h1 h2 hbx
    by_cases hlt : p < q
    · obtain ⟨m, hm⟩ : ∃ m, m = (p + q) / 2 := ⟨_, rfl⟩
      have hml : m < l.length := by omega
      have hmi : ((p : Int) + (q : Int)) / 2 = (m : Int) := by omega
      have hpm : p ≤ m := by omega
      have hmq : m < q := by omega
      clear hm
      have hm0 : (0 : Int) ≤ (m : Int) := by omega
      have hmn : (m : Int) < (l.length : Int) := by omega
      obtain ⟨c0, c1, c2, c3⟩ := cellsEntry hbel HC.out m hml
      obtain ⟨r, hr⟩ : ∃ r, ordI (l[m].1, l[m].2.1, l[m].2.2.1, l[m].2.2.2) (t0, t1, t2, t3) = r := ⟨_, rfl⟩
      have HL := Lib.hid hr
      cases hq2 : lessB l[m] (t0, t1, t2, t3) with
      | true =>
        have hr1 : r < 0 := by rw [← hr]; exact ordI_lt hq2
        have HQ := Lib.hid (show ∀ r (hr : r < l.length), r < m + 1 → lessB l[r] (t0, t1, t2, t3) = true from fun r hr h => ahead_mono HS.out _ (show r ≤ m by omega) hml hq2)
        clear hq2 hr
        go_wp2
        go_region_held3 (fun w' => w'.cell? ⟨ba, oa + m * 4, none⟩ = some (.string l[m].1) ∧ w'.cell? ⟨ba, oa + m * 4 + 1, none⟩ = some (.int .i64 l[m].2.1) ∧ w'.cell? ⟨ba, oa + m * 4 + 2, none⟩ = some (.bool l[m].2.2.1) ∧ w'.cell? ⟨ba, oa + m * 4 + 3, none⟩ = some (.string l[m].2.2.2) ∧ w'.cell? ⟨w.heap.size, 0, none⟩ = some (.string t0) ∧ w'.cell? ⟨w.heap.size, 1, none⟩ = some (.int .i64 t1) ∧ w'.cell? ⟨w.heap.size, 2, none⟩ = some (.bool t2) ∧ w'.cell? ⟨w.heap.size, 3, none⟩ = some (.string t3)) (first | exact ⟨c0, c1, c2, c3, x0, x1, x2, x3⟩ | exact ⟨(cellsEntry bel1 HC.out m hml).1, (cellsEntry bel1 HC.out m hml).2.1, (cellsEntry bel1 HC.out m hml).2.2.1, (cellsEntry bel1 HC.out m hml).2.2.2, (HX1.out 0 _ rfl).1, (HX1.out 1 _ rfl).1, (HX1.out 2 _ rfl).1, (HX1.out 3 _ rfl).1⟩)
          (first | (go_at_call 41; refine (order_any l[m].1 l[m].2.1 l[m].2.2.1 l[m].2.2.2 t0 t1 t2 t3 _).mono ?_; rintro e w1 ⟨rfl, hb1⟩; rw [HL.out]; have bel1 : Below w.heap.size w w1 := hbel.drew.trans (hb1.mono hbel.size); have HX1 := Lib.hid ((HX.out.below ((Below.refl _ _).drew.trans hb1)) : Box w1 w.heap.size [.string t0, .int .i64 t1, .bool t2, .string t3])))
        go_wp2
        go_roundw
        case rel => exact ⟨m + 1, q, by omega, hq, by go_num, rfl, HQ.out, H2.out, HX1.out, bel1⟩
        case measure => simp [intOf]; omega
      | false =>
        have hr1 : ¬ r < 0 := by rw [← hr]; exact ordI_ge hq2
        have HQ := Lib.hid (show ∀ r (hr : r < l.length), m ≤ r → lessB l[r] (t0, t1, t2, t3) = false from fun r hr h => by
          cases hc : lessB l[r] (t0, t1, t2, t3) with
          | false => rfl
          | true => rw [ahead_mono HS.out _ h hr hc] at hq2; cases hq2)
        clear hq2 hr
        go_wp2
        go_region_held3 (fun w' => w'.cell? ⟨ba, oa + m * 4, none⟩ = some (.string l[m].1) ∧ w'.cell? ⟨ba, oa + m * 4 + 1, none⟩ = some (.int .i64 l[m].2.1) ∧ w'.cell? ⟨ba, oa + m * 4 + 2, none⟩ = some (.bool l[m].2.2.1) ∧ w'.cell? ⟨ba, oa + m * 4 + 3, none⟩ = some (.string l[m].2.2.2) ∧ w'.cell? ⟨w.heap.size, 0, none⟩ = some (.string t0) ∧ w'.cell? ⟨w.heap.size, 1, none⟩ = some (.int .i64 t1) ∧ w'.cell? ⟨w.heap.size, 2, none⟩ = some (.bool t2) ∧ w'.cell? ⟨w.heap.size, 3, none⟩ = some (.string t3)) (first | exact ⟨c0, c1, c2, c3, x0, x1, x2, x3⟩ | exact ⟨(cellsEntry bel1 HC.out m hml).1, (cellsEntry bel1 HC.out m hml).2.1, (cellsEntry bel1 HC.out m hml).2.2.1, (cellsEntry bel1 HC.out m hml).2.2.2, (HX1.out 0 _ rfl).1, (HX1.out 1 _ rfl).1, (HX1.out 2 _ rfl).1, (HX1.out 3 _ rfl).1⟩)
          (first | (go_at_call 41; refine (order_any l[m].1 l[m].2.1 l[m].2.2.1 l[m].2.2.2 t0 t1 t2 t3 _).mono ?_; rintro e w1 ⟨rfl, hb1⟩; rw [HL.out]; have bel1 : Below w.heap.size w w1 := hbel.drew.trans (hb1.mono hbel.size); have HX1 := Lib.hid ((HX.out.below ((Below.refl _ _).drew.trans hb1)) : Box w1 w.heap.size [.string t0, .int .i64 t1, .bool t2, .string t3])))
        go_wp2
        go_roundw
        case rel => exact ⟨p, m, by omega, by omega, rfl, by go_num, H1.out, HQ.out, HX1.out, bel1⟩
        case measure => simp [intOf]; omega
    · obtain rfl : p = q := by omega
      by_cases hpn : p < l.length
      · have hml := hpn
        have hp0 : (0 : Int) ≤ (p : Int) := by omega
        have hpi : (p : Int) < (l.length : Int) := by omega
        obtain ⟨c0, c1, c2, c3⟩ := cellsEntry hbel HC.out p hpn
        obtain ⟨r, hr⟩ : ∃ r, ordI (l[p].1, l[p].2.1, l[p].2.2.1, l[p].2.2.2) (t0, t1, t2, t3) = r := ⟨_, rfl⟩
        have HL := Lib.hid hr
        have hd : decide (p < l.length) = true := decide_eq_true hpn
        clear hr
        go_wp2
        go_region_held3 (fun w' => w'.cell? ⟨ba, oa + p * 4, none⟩ = some (.string l[p].1) ∧ w'.cell? ⟨ba, oa + p * 4 + 1, none⟩ = some (.int .i64 l[p].2.1) ∧ w'.cell? ⟨ba, oa + p * 4 + 2, none⟩ = some (.bool l[p].2.2.1) ∧ w'.cell? ⟨ba, oa + p * 4 + 3, none⟩ = some (.string l[p].2.2.2) ∧ w'.cell? ⟨w.heap.size, 0, none⟩ = some (.string t0) ∧ w'.cell? ⟨w.heap.size, 1, none⟩ = some (.int .i64 t1) ∧ w'.cell? ⟨w.heap.size, 2, none⟩ = some (.bool t2) ∧ w'.cell? ⟨w.heap.size, 3, none⟩ = some (.string t3)) (first | exact ⟨c0, c1, c2, c3, x0, x1, x2, x3⟩ | exact ⟨(cellsEntry bel1 HC.out p hml).1, (cellsEntry bel1 HC.out p hml).2.1, (cellsEntry bel1 HC.out p hml).2.2.1, (cellsEntry bel1 HC.out p hml).2.2.2, (HX1.out 0 _ rfl).1, (HX1.out 1 _ rfl).1, (HX1.out 2 _ rfl).1, (HX1.out 3 _ rfl).1⟩)
          (first | (go_at_call 41; refine (order_any l[p].1 l[p].2.1 l[p].2.2.1 l[p].2.2.2 t0 t1 t2 t3 _).mono ?_; rintro e w1 ⟨rfl, hb1⟩; rw [HL.out]; have bel1 : Below w.heap.size w w1 := hbel.drew.trans (hb1.mono hbel.size); have HX1 := Lib.hid ((HX.out.below ((Below.refl _ _).drew.trans hb1)) : Box w1 w.heap.size [.string t0, .int .i64 t1, .bool t2, .string t3])))
        go_wp2
        go_ret2
        exact ⟨⟨p, hq, H1.out, H2.out, _, rfl⟩, bel1⟩
      · have hd : decide (p < l.length) = false := decide_eq_false hpn
        go_wp2
        go_quiet (fail)
        go_wp2
        go_ret2
        exact ⟨⟨p, hq, H1.out, H2.out, _, rfl⟩, (hbel.trans (by exact ⟨rfl, rfl, rfl, Nat.le_refl _, fun _ _ => rfl⟩))⟩
end Go.Proofs.YteejabpohnfoaaaDoor
