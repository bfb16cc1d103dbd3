import Derived.Test.YteejabpohnfoaaaDoorSkipA
import Derived.Test.YteejabpohnfoaaaDoorHashI
/- Linked entries: one more is put in its place. -/
namespace Go.Proofs.YteejabpohnfoaaaDoor
open Go Go.RowKit

set_option maxRecDepth 100000 in
set_option maxHeartbeats 2000000 in
theorem rises_any (s : ByteArray) (w : World) (hm : s.size ≤ 549755813888) (ht : HashT w) :
    Calls Tryd.prog 52 #[.string s] w fun e w' => ∃ h : Nat, e = .returned (.int .i64 h) ∧ 1 ≤ h ∧ h ≤ 4 ∧ Below w.heap.size w w' := by
  have HT := Lib.hid ht
  clear ht
  go_enter Tryd.func52, Tryd.ntmps52
  go_wp2_with fail
  refine (implHash_any s _ hm HT.out).mono ?_
  rintro e w1 ⟨rfl, b1⟩
  obtain ⟨u, hu⟩ : ∃ u, shaS s = u := ⟨_, rfl⟩
  have hus : u.size = 64 := by rw [← hu]; exact shaS_size s
  rw [hu]
  clear hu
  go_wp2_with fail
  go_loopg [4] 3 (fun q v4 wr => ∃ h : Nat, h + q = 4 ∧ 1 ≤ h ∧ v4 = .int .i64 h ∧ wr = w1)
  case atStart => exact ⟨1, rfl, Nat.le_refl _, rfl, rfl⟩
  case round =>
    obtain ⟨h, hq, h1, rfl, rfl⟩ := hrel
    have HQ := Lib.hid hq
    clear hq
    by_cases hlt : h < 4
    · have i1 : (h : Int) < 4 := by omega
      obtain ⟨j, hj⟩ : ∃ j, j = h - 1 := ⟨_, rfl⟩
      have i2 : (h : Int) - 1 = (j : Int) := by omega
      have i3 : (0 : Int) ≤ (j : Int) := by omega
      have i4 : (j : Int) < (u.size : Int) := by omega
      have i5 : j < u.size := by omega
      have i6 : IntKind.i64.wrap (j : Int) = (j : Int) := by rw [IntKind.wrap_i64]; omega
      have HJ := Lib.hid hj
      have HUS := Lib.hid hus
      clear hj hus
      by_cases hc : (u[j].toNat : Int) < 52
      · go_wp2
        go_roundg (gk - 1)
        case measure => have := HQ.out; omega
        case rel => exact ⟨h + 1, by have := HQ.out; omega, by omega, by go_num, rfl⟩
      · go_wp2
        go_ret
        exact ⟨h, rfl, h1, by omega, b1⟩
    · have i1 : ¬ (h : Int) < 4 := by omega
      go_wp2
      go_ret
      exact ⟨h, rfl, h1, by have := HQ.out; omega, b1⟩
/-- how two entries stand: in one place -/
theorem ordI_zero (a b : EntryD) : ordI a b = 0 ↔ isE b a = true := by
  unfold ordI cmpS cmpI isE
  by_cases h : ltS a.1 b.1 = true
  · have hne : a.1 ≠ b.1 := fun e => by rw [e, ltS_irrefl] at h; cases h
    simp [h, hne]
  · by_cases e : a.1 = b.1
    · simp only [e, ltS_irrefl, if_true, Bool.false_eq_true, if_false, ne_eq, not_true_eq_false, decide_true, Bool.true_and, decide_eq_true_eq]
      by_cases g : b.2.1 < a.2.1
      · simp [g]; omega
      · by_cases g2 : a.2.1 < b.2.1
        · simp [g, g2]; omega
        · simp [g, g2]; omega
    · simp [h, e]
/-- whether the node at an entry's place has it -/
def hitN (C : List Nd) (e : EntryD) : Bool := match C with | [] => false | c :: _ => isE e c.2.1
def PutRes (B : Nat) (P C : List Nd) (e : EntryD) (en : Ending) (w w' : World) : Prop :=
  Below B w w' ∧ ((hitN C e = true ∧ en = .returned (.bool false) ∧ Skip w' (P ++ C)) ∨
    (hitN C e = false ∧ ∃ nb h, en = .returned (.bool true) ∧ Skip w' (P ++ (nb, e, h) :: C) ∧ w.heap.size ≤ nb ∧ 1 ≤ h))
theorem four_at {P : List Nd} {q0 q1 q2 q3 : Nat} (h0 : LastOf P 0 q0) (h1 : LastOf P 1 q1) (h2 : LastOf P 2 q2) (h3 : LastOf P 3 q3) : ∀ k, k < 4 → ∃ q, ([.pointer (some ⟨q0, 0, none⟩), .pointer (some ⟨q1, 0, none⟩), .pointer (some ⟨q2, 0, none⟩), .pointer (some ⟨q3, 0, none⟩)] : List Value)[k]? = some (.pointer (some ⟨q, 0, none⟩)) ∧ LastOf P k q
  | 0, _ => ⟨q0, rfl, h0⟩
  | 1, _ => ⟨q1, rfl, h1⟩
  | 2, _ => ⟨q2, rfl, h2⟩
  | 3, _ => ⟨q3, rfl, h3⟩
set_option maxRecDepth 100000 in
set_option maxHeartbeats 4000000 in
theorem put_any (B hb : Nat) (z : EntryD) (S1 C : List Nd) (x0 : ByteArray) (x1 : Int) (x2 : Bool) (x3 : ByteArray) (w : World) (hB : B ≤ w.heap.size) (hBn : ∀ n ∈ ((hb, z, 4) :: S1) ++ C, B ≤ n.1) (hS : Skip w (((hb, z, 4) :: S1) ++ C)) (h1 : ∀ n ∈ S1, lessB n.2.1 (x0, x1, x2, x3) = true) (h2 : ∀ n ∈ C, lessB n.2.1 (x0, x1, x2, x3) = false) (hh : ∀ n ∈ C, 1 ≤ n.2.2) (hm : x0.size ≤ 549755813888) (ht : HashT w) :
    Calls Tryd.prog 31 #[.pointer (some ⟨hb, 0, none⟩), .agg #[.string x0, .int .i64 x1, .bool x2, .string x3]] w fun en w' => PutRes B ((hb, z, 4) :: S1) C (x0, x1, x2, x3) en w w' := by
  have HT := Lib.hid ht
  have HS := Lib.hid hS
  have HBN := Lib.hid hBn
  have H1 := Lib.hid h1
  have H2 := Lib.hid h2
  have HH := Lib.hid hh
  have HNL := Lib.hid hS.lt
  clear ht hS hBn h1 h2 hh
  obtain ⟨w1, hw1⟩ : ∃ W, w.alloc (.cells #[.string x0, .int .i64 x1, .bool x2, .string x3] 31) = W := ⟨_, rfl⟩
  have BX := Lib.hid (show Box w1 w.heap.size [.string x0, .int .i64 x1, .bool x2, .string x3] by rw [← hw1]; exact Box.alloc w _ _)
  have B1 := Lib.hid (show Below w.heap.size w w1 by rw [← hw1]; exact below_alloc _ _)
  have Z1 := Lib.hid (show w1.heap.size = w.heap.size + 1 by rw [← hw1]; simp)
  go_enter Tryd.func31, Tryd.ntmps31
  obtain ⟨⟨d0, -⟩, ⟨d1, -⟩, ⟨d2, -⟩, d3, -⟩ := show _ ∧ _ ∧ _ ∧ _ from ⟨BX.out 0 _ rfl, BX.out 1 _ rfl, BX.out 2 _ rfl, BX.out 3 _ rfl⟩
  go_wp2_with fail
  clear hw1 d0 d1 d2 d3
  refine (ahead_any hb z S1 C x0 x1 x2 x3 w1 (HS.out.below B1.out) H1.out H2.out).mono ?_
  rintro en w2 ⟨q0, q1, q2, q3, rfl, L0, L1, L2, L3, b2⟩
  have B2 := Lib.hid (B1.out.trans (b2.mono B1.out.size))
  have BX2 := Lib.hid (BX.out.below b2)
  have Z2 := Lib.hid b2.size
  have L4 := Lib.hid (four_at L0 L1 L2 L3)
  have LZ := Lib.hid L0
  clear b2 L0 L1 L2 L3
  obtain ⟨w3, hw3⟩ : ∃ W, w2.alloc (.cells #[.pointer (some ⟨q0, 0, none⟩), .pointer (some ⟨q1, 0, none⟩), .pointer (some ⟨q2, 0, none⟩), .pointer (some ⟨q3, 0, none⟩)] 74) = W := ⟨_, rfl⟩
  have BL := Lib.hid (show Box w3 w2.heap.size [.pointer (some ⟨q0, 0, none⟩), .pointer (some ⟨q1, 0, none⟩), .pointer (some ⟨q2, 0, none⟩), .pointer (some ⟨q3, 0, none⟩)] by rw [← hw3]; exact Box.alloc w2 _ _)
  have B3 := Lib.hid (show Below w.heap.size w w3 by rw [← hw3]; exact B2.out.alloc B2.out.size _)
  have b23 := show Below w2.heap.size w2 w3 by rw [← hw3]; exact below_alloc _ _
  have BX3 := Lib.hid (BX2.out.below b23)
  have Z3 := Lib.hid (show w3.heap.size = w2.heap.size + 1 by rw [← hw3]; simp)
  have HS3 := Lib.hid (HS.out.below B3.out)
  clear b23
  obtain ⟨A, n, R, hP, hn, hl0, hR⟩ := LZ.out
  have nd := Skip.at (show Skip w3 (A ++ n :: (R ++ C)) by have h := HS3.out; rw [hP, List.append_assoc] at h; exact h)
  have c0 := (nd 4 _ (nodeC_get (k := 0) (by decide))).1
  rw [show nx n.2.2 0 (R ++ C) = nxt 0 C by unfold nx; rw [if_pos hl0, nxt_skip hR], hn] at c0
  clear hP hn hl0 hR nd
  obtain ⟨⟨e0, -⟩, ⟨e1, -⟩, ⟨e2, -⟩, e3, -⟩ := show _ ∧ _ ∧ _ ∧ _ from ⟨BL.out 0 _ rfl, BL.out 1 _ rfl, BL.out 2 _ rfl, BL.out 3 _ rfl⟩
  obtain ⟨⟨d0, -⟩, ⟨d1, -⟩, ⟨d2, -⟩, d3, -⟩ := show _ ∧ _ ∧ _ ∧ _ from ⟨BX3.out 0 _ rfl, BX3.out 1 _ rfl, BX3.out 2 _ rfl, BX3.out 3 _ rfl⟩
  go_wp2_with fail
  by_cases hcn : C = []
  · have HC := Lib.hid hcn
    have HHIT := Lib.hid (show hitN C (x0, x1, x2, x3) = false by rw [hcn]; rfl)
    rw [show nxt 0 C = .pointer none by rw [hcn]; rfl] at c0 ⊢
    clear hcn
    go_quiet (fail)
    clear c0 e0 e1 e2 e3 d0 d1 d2 d3
    obtain ⟨w4, hw4⟩ : ∃ W, W = w3.drewN nq := ⟨_, rfl⟩
    rw [← hw4]
    have b34 : Below w3.heap.size w3 w4 := by rw [hw4]; exact ⟨rfl, rfl, rfl, Nat.le_refl _, fun _ _ => rfl⟩
    clear hw4
    have B4 := Lib.hid (B3.out.trans (b34.mono B3.out.size))
    have BX4 := Lib.hid (BX3.out.below b34)
    have BL4 := Lib.hid (BL.out.below b34)
    have Z24 := Lib.hid (show w2.heap.size < w4.heap.size by have := b34.size; have := Z3.out; omega)
    clear b34
    have SK4 := Lib.hid (HS.out.below B4.out)
    have BX5 := Lib.hid (BX4.out.below (below_alloc w4 (.cells #[.string x0, .int .i64 x1, .bool x2, .string x3, .pointer none, .pointer none, .pointer none, .pointer none] 76)))
    have BL5 := Lib.hid (BL4.out.below (below_alloc w4 (.cells #[.string x0, .int .i64 x1, .bool x2, .string x3, .pointer none, .pointer none, .pointer none, .pointer none] 76)))
    have SK5 := Lib.hid (skip_new (x0, x1, x2, x3) 76 SK4.out)
    have B5 := Lib.hid (B4.out.alloc B4.out.size (.cells #[.string x0, .int .i64 x1, .bool x2, .string x3, .pointer none, .pointer none, .pointer none, .pointer none] 76))
    obtain ⟨w5, hw5⟩ : ∃ W, w4.alloc (.cells #[.string x0, .int .i64 x1, .bool x2, .string x3, .pointer none, .pointer none, .pointer none, .pointer none] 76) = W := ⟨_, rfl⟩
    rw [hw5] at BX5 BL5 B5
    have SK5' := Lib.hid (show Skip w5 (((hb, z, 4) :: S1) ++ (w4.heap.size, (x0, x1, x2, x3), 0) :: C) by rw [← hw5]; exact SK5.out)
    clear SK5
    have z45 : w4.heap.size < w5.heap.size := by rw [← hw5]; simp
    have Z45 := Lib.hid z45
    clear z45
    obtain ⟨⟨d0, -⟩, ⟨d1, -⟩, ⟨d2, -⟩, d3, -⟩ := show _ ∧ _ ∧ _ ∧ _ from ⟨BX4.out 0 _ rfl, BX4.out 1 _ rfl, BX4.out 2 _ rfl, BX4.out 3 _ rfl⟩
    have d05 := (BX5.out 0 _ rfl).1
    go_wp2_with fail
    clear hw5 d0 d1 d2 d3 d05
    refine (rises_any x0 w5 hm (HT.out.below B5.out)).mono ?_
    rintro en w6 ⟨h, rfl, hh1, hh4, b6⟩
    have SK6 := Lib.hid (SK5'.out.below b6)
    have BL6 := Lib.hid (BL5.out.below b6)
    have B6 := Lib.hid ((B5.out.trans (b6.mono B5.out.size)).mono hB)
    have Z6 := Lib.hid b6.size
    clear b6 BX5 BL5 SK5'
    go_wp2_with fail
    go_loopg [35] h (fun q v35 wr => ∃ k : Nat, k + q = h ∧ v35 = .int .i64 k ∧ Skip wr (((hb, z, 4) :: S1) ++ (w4.heap.size, (x0, x1, x2, x3), k) :: C) ∧ Box wr w2.heap.size [.pointer (some ⟨q0, 0, none⟩), .pointer (some ⟨q1, 0, none⟩), .pointer (some ⟨q2, 0, none⟩), .pointer (some ⟨q3, 0, none⟩)] ∧ Below B w wr)
    case atStart => exact ⟨0, by omega, rfl, SK6.out, BL6.out, B6.out⟩
    case round =>
      obtain ⟨k, hk, rfl, hsk, hbl, hbw⟩ := hrel
      have HK := Lib.hid hk
      have SK := Lib.hid hsk
      have BLk := Lib.hid hbl
      have BW := Lib.hid hbw
      clear hk hsk hbl hbw
      by_cases hkh : k < h
      · obtain ⟨q, hq, A, n, R, hP, hn, hln, hR⟩ := L4.out k (by omega)
        obtain ⟨cn, hne, SN⟩ := skip_step (pj := n) (P1 := A) (P2 := R) (nb := w4.heap.size) (e := (x0, x1, x2, x3)) (C := C) (k := k) (show k < 4 by omega) (by have g := SK.out; rw [hP, List.append_assoc] at g; exact g) hln hR
        have hnl : n.1 < w.heap.size := HNL.out n (List.mem_append_left _ (by rw [hP]; simp))
        have hnB : B ≤ n.1 := HBN.out n (List.mem_append_left _ (by rw [hP]; simp))
        have bnn := Skip.at (show Skip wr (A ++ n :: (R ++ (w4.heap.size, (x0, x1, x2, x3), k) :: C)) by have g := SK.out; rw [hP, List.append_assoc] at g; exact g)
        have fn := (bnn (4 + k) _ (nodeC_get (show k < 4 by omega))).2
        have bnb := Skip.at SK.out
        obtain ⟨nc, nf⟩ := bnb (4 + k) _ (nodeC_get (show k < 4 by omega))
        dsimp only at nc nf
        obtain ⟨lc, -⟩ := BLk.out k _ hq
        have SN' := Lib.hid (show Skip ((wr.setCell ⟨w4.heap.size, 4 + k, none⟩ (nxt k C)).setCell ⟨n.1, 4 + k, none⟩ (.pointer (some ⟨w4.heap.size, 0, none⟩))) (((hb, z, 4) :: S1) ++ (w4.heap.size, (x0, x1, x2, x3), k + 1) :: C) by rw [hP, List.append_assoc]; exact SN)
        have HNE := Lib.hid hne
        rw [hn] at SN' cn hnl hnB fn
        obtain ⟨v, hv⟩ : ∃ v : Option Addr, nxt k C = .pointer v := ⟨_, rfl⟩
        rw [hv] at cn SN'
        have i1 : (k : Int) < (h : Int) := by omega
        have i2 : (0 : Int) ≤ (k : Int) := by omega
        have i3 : (k : Int) < 4 := by omega
        have e1 : q ≠ w4.heap.size := by rw [← hn]; exact hne
        have e2 : w2.heap.size ≠ w4.heap.size := by have := Z3.out; have := Z24.out; omega
        have e3 : w2.heap.size ≠ q := by have := B2.out.size; omega
        clear hq hP hln hR SN bnn bnb hv hne
        go_wp2_with fail
        go_region
        have f1 : (wr.setCell ⟨w4.heap.size, 4 + k, none⟩ (.pointer v)).drew.cell? ⟨w2.heap.size, k, none⟩ = some (.pointer (some ⟨q, 0, none⟩)) := by simp [go_sem, lc]
        have f2 : ∃ x, (wr.setCell ⟨w4.heap.size, 4 + k, none⟩ (.pointer v)).drew.cell? ⟨q, 4 + k, none⟩ = some x := ⟨_, by simp [go_sem, cn]; rfl⟩
        have f3 : (wr.setCell ⟨w4.heap.size, 4 + k, none⟩ (.pointer v)).drew.frozen? ⟨q, 4 + k, none⟩ = false := by simp [go_sem, fn]
        obtain ⟨x9, f2⟩ := f2
        obtain ⟨w7, hw7⟩ : ∃ W, W = (wr.setCell ⟨w4.heap.size, 4 + k, none⟩ (.pointer v)).drew := ⟨_, rfl⟩
        rw [← hw7] at f1 f2 f3 ⊢
        have SN7 := Lib.hid (show Skip (w7.setCell ⟨q, 4 + k, none⟩ (.pointer (some ⟨w4.heap.size, 0, none⟩))) (((hb, z, 4) :: S1) ++ (w4.heap.size, (x0, x1, x2, x3), k + 1) :: C) by rw [hw7]; exact SN'.out)
        have BL7 := Lib.hid (show Box (w7.setCell ⟨q, 4 + k, none⟩ (.pointer (some ⟨w4.heap.size, 0, none⟩))) w2.heap.size [.pointer (some ⟨q0, 0, none⟩), .pointer (some ⟨q1, 0, none⟩), .pointer (some ⟨q2, 0, none⟩), .pointer (some ⟨q3, 0, none⟩)] by rw [hw7]; exact Box.otherN _ (show Box (wr.setCell ⟨w4.heap.size, 4 + k, none⟩ (.pointer v)).drew _ _ from Box.otherN _ BLk.out (Ne.symm e2)) (Ne.symm e3))
        have BW7 := Lib.hid (show Below B w (w7.setCell ⟨q, 4 + k, none⟩ (.pointer (some ⟨w4.heap.size, 0, none⟩))) by rw [hw7]; exact (BW.out.setCell (p := ⟨w4.heap.size, 4 + k, none⟩) (by show B ≤ w4.heap.size; have := B4.out.size; omega) _).drew.setCell (p := ⟨q, 4 + k, none⟩) hnB _)
        clear hw7 cn nc nf lc fn SN'
        go_wp2
        go_roundg (gk - 1)
        case measure => have := HK.out; omega
        case rel => exact ⟨k + 1, by have := HK.out; omega, by go_num, SN7.out, BL7.out, BW7.out⟩
      · have hke : k = h := by have := HK.out; omega
        have i1 : ¬ (k : Int) < (h : Int) := by omega
        go_wp2
        go_ret
        exact ⟨BW.out, .inr ⟨HHIT.out, w4.heap.size, h, rfl, by rw [← hke]; exact SK.out, by have := B4.out.size; omega, hh1⟩⟩
  · obtain ⟨c, C', hc⟩ : ∃ c C', C = c :: C' := by
      cases C with
      | nil => exact absurd rfl hcn
      | cons c C' => exact ⟨c, C', rfl⟩
    clear hcn
    have hlc : lvl 0 c = true := decide_eq_true (by have := HH.out c (by rw [hc]; simp); omega)
    rw [show nxt 0 C = .pointer (some ⟨c.1, 0, none⟩) by rw [hc]; exact nxt_hit hlc] at c0 ⊢
    have bm := Skip.at (show Skip w3 (((hb, z, 4) :: S1) ++ c :: C') by have h := HS3.out; rwa [hc] at h)
    have hho := ordI_zero c.2.1 (x0, x1, x2, x3)
    have hhi : hitN C (x0, x1, x2, x3) = isE (x0, x1, x2, x3) c.2.1 := by rw [hc]; rfl
    obtain ⟨cb, ⟨m0, m1, m2, m3⟩, mh⟩ := c
    dsimp only at c0 bm hho hhi ⊢
    rw [← hhi] at hho
    obtain ⟨o, ho⟩ : ∃ o, ordI (m0, m1, m2, m3) (x0, x1, x2, x3) = o := ⟨_, rfl⟩
    rw [ho] at hho
    have HOO := Lib.hid ho
    clear ho hhi hlc hc
    have KS := Lib.hid (show ∀ W, Below w3.heap.size w3 W → Below w3.heap.size w3 W ∧ (W.cell? ⟨cb, 0, none⟩ = some (.string m0) ∧ W.cell? ⟨cb, 1, none⟩ = some (.int .i64 m1) ∧ W.cell? ⟨cb, 2, none⟩ = some (.bool m2) ∧ W.cell? ⟨cb, 3, none⟩ = some (.string m3)) ∧ W.cell? ⟨w.heap.size, 0, none⟩ = some (.string x0) ∧ W.cell? ⟨w.heap.size, 1, none⟩ = some (.int .i64 x1) ∧ W.cell? ⟨w.heap.size, 2, none⟩ = some (.bool x2) ∧ W.cell? ⟨w.heap.size, 3, none⟩ = some (.string x3) from fun W hb => by
      have qm := bm.below hb
      have qx := BX3.out.below hb
      exact ⟨hb, ⟨(qm 0 _ rfl).1, (qm 1 _ rfl).1, (qm 2 _ rfl).1, (qm 3 _ rfl).1⟩, (qx 0 _ rfl).1, (qx 1 _ rfl).1, (qx 2 _ rfl).1, (qx 3 _ rfl).1⟩)
    clear c0 bm e0 e1 e2 e3 d0 d1 d2 d3
    cases hit : hitN C (x0, x1, x2, x3) with
    | true =>
      have ho0 : o = 0 := hho.2 hit
      have HHIT := Lib.hid hit
      subst ho0
      clear hho hit
      go_wp2_with fail
      go_region_held3 (fun W => Below w3.heap.size w3 W ∧ (W.cell? ⟨cb, 0, none⟩ = some (.string m0) ∧ W.cell? ⟨cb, 1, none⟩ = some (.int .i64 m1) ∧ W.cell? ⟨cb, 2, none⟩ = some (.bool m2) ∧ W.cell? ⟨cb, 3, none⟩ = some (.string m3)) ∧ W.cell? ⟨w.heap.size, 0, none⟩ = some (.string x0) ∧ W.cell? ⟨w.heap.size, 1, none⟩ = some (.int .i64 x1) ∧ W.cell? ⟨w.heap.size, 2, none⟩ = some (.bool x2) ∧ W.cell? ⟨w.heap.size, 3, none⟩ = some (.string x3))
        (first | exact KS.out _ (Below.refl _ _).drew | exact KS.out _ (((Below.refl _ _).drew).trans b4))
        (first
          | (go_at_call 41; refine (order_any _ _ _ _ _ _ _ _ _).mono ?_; rintro e w4 ⟨rfl, b4⟩; rw [HOO.out]))
      rename_i hH
      obtain ⟨hbw, ⟨c1, c2, c3, c4⟩, d1, d2, d3, d4⟩ := hH
      have B34 := Lib.hid hbw
      clear hbw c1 c2 c3 c4 d1 d2 d3 d4
      go_wp2
      go_ret
      exact ⟨(B3.out.trans (B34.out.mono B3.out.size)).mono hB, .inl ⟨HHIT.out, rfl, HS3.out.below B34.out⟩⟩
    | false =>
      have ho0 : ¬ o = 0 := fun e => by rw [hho.1 e] at hit; cases hit
      have HHIT := Lib.hid hit
      clear hho hit
      go_wp2_with fail
      go_region_held3 (fun W => Below w3.heap.size w3 W ∧ (W.cell? ⟨cb, 0, none⟩ = some (.string m0) ∧ W.cell? ⟨cb, 1, none⟩ = some (.int .i64 m1) ∧ W.cell? ⟨cb, 2, none⟩ = some (.bool m2) ∧ W.cell? ⟨cb, 3, none⟩ = some (.string m3)) ∧ W.cell? ⟨w.heap.size, 0, none⟩ = some (.string x0) ∧ W.cell? ⟨w.heap.size, 1, none⟩ = some (.int .i64 x1) ∧ W.cell? ⟨w.heap.size, 2, none⟩ = some (.bool x2) ∧ W.cell? ⟨w.heap.size, 3, none⟩ = some (.string x3))
        (first | exact KS.out _ (Below.refl _ _).drew | exact KS.out _ (((Below.refl _ _).drew).trans b4))
        (first
          | (go_at_call 41; refine (order_any _ _ _ _ _ _ _ _ _).mono ?_; rintro e w4 ⟨rfl, b4⟩; rw [HOO.out]))
      rename_i hH
      obtain ⟨hbw, ⟨c1, c2, c3, c4⟩, d1, d2, d3, d4⟩ := hH
      have B34 := Lib.hid hbw
      clear hbw c1 c2 c3 c4 d1 d2 d3 d4
      have b34 := B34.out
      have B4 := Lib.hid (B3.out.trans (b34.mono B3.out.size))
      have BX4 := Lib.hid (BX3.out.below b34)
      have BL4 := Lib.hid (BL.out.below b34)
      have Z24 := Lib.hid (show w2.heap.size < w4.heap.size by have := b34.size; have := Z3.out; omega)
      clear b34
      have SK4 := Lib.hid (HS.out.below B4.out)
      have BX5 := Lib.hid (BX4.out.below (below_alloc w4 (.cells #[.string x0, .int .i64 x1, .bool x2, .string x3, .pointer none, .pointer none, .pointer none, .pointer none] 76)))
      have BL5 := Lib.hid (BL4.out.below (below_alloc w4 (.cells #[.string x0, .int .i64 x1, .bool x2, .string x3, .pointer none, .pointer none, .pointer none, .pointer none] 76)))
      have SK5 := Lib.hid (skip_new (x0, x1, x2, x3) 76 SK4.out)
      have B5 := Lib.hid (B4.out.alloc B4.out.size (.cells #[.string x0, .int .i64 x1, .bool x2, .string x3, .pointer none, .pointer none, .pointer none, .pointer none] 76))
      obtain ⟨w5, hw5⟩ : ∃ W, w4.alloc (.cells #[.string x0, .int .i64 x1, .bool x2, .string x3, .pointer none, .pointer none, .pointer none, .pointer none] 76) = W := ⟨_, rfl⟩
      rw [hw5] at BX5 BL5 B5
      have SK5' := Lib.hid (show Skip w5 (((hb, z, 4) :: S1) ++ (w4.heap.size, (x0, x1, x2, x3), 0) :: C) by rw [← hw5]; exact SK5.out)
      clear SK5
      have z45 : w4.heap.size < w5.heap.size := by rw [← hw5]; simp
      have Z45 := Lib.hid z45
      clear z45
      obtain ⟨⟨d0, -⟩, ⟨d1, -⟩, ⟨d2, -⟩, d3, -⟩ := show _ ∧ _ ∧ _ ∧ _ from ⟨BX4.out 0 _ rfl, BX4.out 1 _ rfl, BX4.out 2 _ rfl, BX4.out 3 _ rfl⟩
      have d05 := (BX5.out 0 _ rfl).1
      go_wp2_with fail
      clear hw5 d0 d1 d2 d3 d05
      refine (rises_any x0 w5 hm (HT.out.below B5.out)).mono ?_
      rintro en w6 ⟨h, rfl, hh1, hh4, b6⟩
      have SK6 := Lib.hid (SK5'.out.below b6)
      have BL6 := Lib.hid (BL5.out.below b6)
      have B6 := Lib.hid ((B5.out.trans (b6.mono B5.out.size)).mono hB)
      have Z6 := Lib.hid b6.size
      clear b6 BX5 BL5 SK5'
      go_wp2_with fail
      go_loopg [35] h (fun q v35 wr => ∃ k : Nat, k + q = h ∧ v35 = .int .i64 k ∧ Skip wr (((hb, z, 4) :: S1) ++ (w4.heap.size, (x0, x1, x2, x3), k) :: C) ∧ Box wr w2.heap.size [.pointer (some ⟨q0, 0, none⟩), .pointer (some ⟨q1, 0, none⟩), .pointer (some ⟨q2, 0, none⟩), .pointer (some ⟨q3, 0, none⟩)] ∧ Below B w wr)
      case atStart => exact ⟨0, by omega, rfl, SK6.out, BL6.out, B6.out⟩
      case round =>
        obtain ⟨k, hk, rfl, hsk, hbl, hbw⟩ := hrel
        have HK := Lib.hid hk
        have SK := Lib.hid hsk
        have BLk := Lib.hid hbl
        have BW := Lib.hid hbw
        clear hk hsk hbl hbw
        by_cases hkh : k < h
        · obtain ⟨q, hq, A, n, R, hP, hn, hln, hR⟩ := L4.out k (by omega)
          obtain ⟨cn, hne, SN⟩ := skip_step (pj := n) (P1 := A) (P2 := R) (nb := w4.heap.size) (e := (x0, x1, x2, x3)) (C := C) (k := k) (show k < 4 by omega) (by have g := SK.out; rw [hP, List.append_assoc] at g; exact g) hln hR
          have hnl : n.1 < w.heap.size := HNL.out n (List.mem_append_left _ (by rw [hP]; simp))
          have hnB : B ≤ n.1 := HBN.out n (List.mem_append_left _ (by rw [hP]; simp))
          have bnn := Skip.at (show Skip wr (A ++ n :: (R ++ (w4.heap.size, (x0, x1, x2, x3), k) :: C)) by have g := SK.out; rw [hP, List.append_assoc] at g; exact g)
          have fn := (bnn (4 + k) _ (nodeC_get (show k < 4 by omega))).2
          have bnb := Skip.at SK.out
          obtain ⟨nc, nf⟩ := bnb (4 + k) _ (nodeC_get (show k < 4 by omega))
          dsimp only at nc nf
          obtain ⟨lc, -⟩ := BLk.out k _ hq
          have SN' := Lib.hid (show Skip ((wr.setCell ⟨w4.heap.size, 4 + k, none⟩ (nxt k C)).setCell ⟨n.1, 4 + k, none⟩ (.pointer (some ⟨w4.heap.size, 0, none⟩))) (((hb, z, 4) :: S1) ++ (w4.heap.size, (x0, x1, x2, x3), k + 1) :: C) by rw [hP, List.append_assoc]; exact SN)
          have HNE := Lib.hid hne
          rw [hn] at SN' cn hnl hnB fn
          obtain ⟨v, hv⟩ : ∃ v : Option Addr, nxt k C = .pointer v := ⟨_, rfl⟩
          rw [hv] at cn SN'
          have i1 : (k : Int) < (h : Int) := by omega
          have i2 : (0 : Int) ≤ (k : Int) := by omega
          have i3 : (k : Int) < 4 := by omega
          have e1 : q ≠ w4.heap.size := by rw [← hn]; exact hne
          have e2 : w2.heap.size ≠ w4.heap.size := by have := Z3.out; have := Z24.out; omega
          have e3 : w2.heap.size ≠ q := by have := B2.out.size; omega
          clear hq hP hln hR SN bnn bnb hv hne
          go_wp2_with fail
          go_region
          have f1 : (wr.setCell ⟨w4.heap.size, 4 + k, none⟩ (.pointer v)).drew.cell? ⟨w2.heap.size, k, none⟩ = some (.pointer (some ⟨q, 0, none⟩)) := by simp [go_sem, lc]
          have f2 : ∃ x, (wr.setCell ⟨w4.heap.size, 4 + k, none⟩ (.pointer v)).drew.cell? ⟨q, 4 + k, none⟩ = some x := ⟨_, by simp [go_sem, cn]; rfl⟩
          have f3 : (wr.setCell ⟨w4.heap.size, 4 + k, none⟩ (.pointer v)).drew.frozen? ⟨q, 4 + k, none⟩ = false := by simp [go_sem, fn]
          obtain ⟨x9, f2⟩ := f2
          obtain ⟨w7, hw7⟩ : ∃ W, W = (wr.setCell ⟨w4.heap.size, 4 + k, none⟩ (.pointer v)).drew := ⟨_, rfl⟩
          rw [← hw7] at f1 f2 f3 ⊢
          have SN7 := Lib.hid (show Skip (w7.setCell ⟨q, 4 + k, none⟩ (.pointer (some ⟨w4.heap.size, 0, none⟩))) (((hb, z, 4) :: S1) ++ (w4.heap.size, (x0, x1, x2, x3), k + 1) :: C) by rw [hw7]; exact SN'.out)
          have BL7 := Lib.hid (show Box (w7.setCell ⟨q, 4 + k, none⟩ (.pointer (some ⟨w4.heap.size, 0, none⟩))) w2.heap.size [.pointer (some ⟨q0, 0, none⟩), .pointer (some ⟨q1, 0, none⟩), .pointer (some ⟨q2, 0, none⟩), .pointer (some ⟨q3, 0, none⟩)] by rw [hw7]; exact Box.otherN _ (show Box (wr.setCell ⟨w4.heap.size, 4 + k, none⟩ (.pointer v)).drew _ _ from Box.otherN _ BLk.out (Ne.symm e2)) (Ne.symm e3))
          have BW7 := Lib.hid (show Below B w (w7.setCell ⟨q, 4 + k, none⟩ (.pointer (some ⟨w4.heap.size, 0, none⟩))) by rw [hw7]; exact (BW.out.setCell (p := ⟨w4.heap.size, 4 + k, none⟩) (by show B ≤ w4.heap.size; have := B4.out.size; omega) _).drew.setCell (p := ⟨q, 4 + k, none⟩) hnB _)
          clear hw7 cn nc nf lc fn SN'
          go_wp2
          go_roundg (gk - 1)
          case measure => have := HK.out; omega
          case rel => exact ⟨k + 1, by have := HK.out; omega, by go_num, SN7.out, BL7.out, BW7.out⟩
        · have hke : k = h := by have := HK.out; omega
          have i1 : ¬ (k : Int) < (h : Int) := by omega
          go_wp2
          go_ret
          exact ⟨BW.out, .inr ⟨HHIT.out, w4.heap.size, h, rfl, by rw [← hke]; exact SK.out, by have := B4.out.size; omega, hh1⟩⟩
end Go.Proofs.YteejabpohnfoaaaDoor
