import Derived.Test.YtakcmjnfkcoilaaDoorCutS
import Derived.Deep.QuietTactic
import Derived.BigQuiet
/- FrameGet of the model. -/
namespace Go.Proofs.YtakcmjnfkcoilaaDoor
open Go Go.RowKit

def wordsB (b : ByteArray) : List ByteArray := cutsB 32 ((cutsB 58 (b.extract 16 b.size)).headD ⟨#[]⟩)
theorem head_map {l : List (List UInt8)} : (l.map mkB).headD ⟨#[]⟩ = mkB (l.headD []) := by
  cases l with
  | nil => simp [mkB]
  | cons a l => simp
theorem drop_list (b : ByteArray) (k : Nat) : (b.extract k b.size).data.toList = b.data.toList.drop k := by
  rw [Lib.extract_data, List.take_of_length_le (by rw [List.length_drop]; simp)]
theorem wordsB_eq (b : ByteArray) : wordsB b = (wordsL b.data.toList).map mkB := by
  unfold wordsB wordsL cutsB
  rw [head_map, mkB_list, drop_list]
theorem cutsB_ne (c : UInt8) (s : ByteArray) : cutsB c s ≠ [] := by
  unfold cutsB
  intro h
  exact cutL_ne c _ (List.map_eq_nil_iff.1 h)
theorem cutsB_mem (c : UInt8) (s : ByteArray) : ∀ x ∈ cutsB c s, x.size ≤ s.size := by
  intro x hx
  obtain ⟨l, hl, rfl⟩ := List.mem_map.1 hx
  have := cutL_mem c _ l hl
  rw [mkB_size]
  simpa using this
theorem hd_get {l : List ByteArray} {d : ByteArray} (h : 0 < l.length) : l[0] = l.headD d := by
  cases l with
  | nil => simp at h
  | cons a l => rfl
theorem outS_str {w' : World} {l : List ByteArray} {v : Value} {b : Nat} (hl : l.length ≤ maxLen) (hs : ∀ s ∈ l, s.size ≤ maxLen) (h : w'.ownsRow b 9 1 v l.length (l.map .string)) : ∃ a c, v = .slice a l.length c ∧ StrS w' a l := by
  obtain ⟨a, c, rfl⟩ := own_shpS h
  exact ⟨a, c, rfl, own_str hl hs h⟩

set_option maxRecDepth 100000 in
set_option maxHeartbeats 1000000 in
theorem l3Parts_any (b : ByteArray) (hb : b.size ≤ 1048576) (w : World) :
    Calls Tryd.prog 55 #[.string b] w fun e w' => e = .returned (.int .i64 (partsL b.data.toList)) ∧ Below w.heap.size w w' := by
  have hl : b.data.toList.length = b.size := by simp
  by_cases h16 : b.size < 16
  · have h16i : (b.size : Int) < 16 := by omega
    have HN := Lib.hid (show partsL b.data.toList = 0 by unfold partsL; rw [if_pos (by omega)])
    clear hl
    go_enter Tryd.func55, Tryd.ntmps55
    go_wp2
    go_ret
    exact ⟨ret_int (by rw [HN.out]; rfl), Below.refl _ _⟩
  · have h16i : (16 : Int) ≤ (b.size : Int) := by omega
    obtain ⟨x, hx⟩ : ∃ x, x = b.extract 16 b.size := ⟨_, rfl⟩
    have hxs : x.size ≤ 1048576 := by rw [hx, ByteArray.size_extract]; omega
    obtain ⟨y, hy⟩ : ∃ y, y = (cutsB 58 x).headD ⟨#[]⟩ := ⟨_, rfl⟩
    have hys : y.size ≤ 1048576 := by
      rw [hy]
      cases h : cutsB 58 x with
      | nil => exact absurd h (cutsB_ne _ _)
      | cons p r => have := cutsB_mem 58 x p (by rw [h]; simp); simp; omega
    have HW := Lib.hid (show wordsB b = cutsB 32 y by unfold wordsB; rw [← hx, ← hy])
    have HX := Lib.hid hx
    have HY := Lib.hid hy
    have hk0 : 0 < (cutsB 58 x).length := List.length_pos_iff.2 (cutsB_ne _ _)
    have HP := Lib.hid (show partsL b.data.toList = if (wordsB b).length ≠ 4 then 0 else if 1 ≤ numI ((wordsB b).getD 3 ⟨#[]⟩).data.toList ∧ numI ((wordsB b).getD 3 ⟨#[]⟩).data.toList ≤ 15 then (numI ((wordsB b).getD 3 ⟨#[]⟩).data.toList).toNat else 0 by
      unfold partsL
      rw [if_neg (by omega), wordsB_eq, List.length_map]
      split
      · rfl
      · next h4 =>
        have e : (((wordsL b.data.toList).map mkB).getD 3 ⟨#[]⟩).data.toList = (wordsL b.data.toList).getD 3 [] := by
          rw [List.getD_eq_getElem?_getD, List.getD_eq_getElem?_getD, List.getElem?_map]
          cases (wordsL b.data.toList)[3]? <;> simp [mkB]
        rw [e])
    have hc1 : (cutsB 58 x).length ≤ 1048577 := by have := cutsB_len 58 x; omega
    have hc2 : (cutsB 32 y).length ≤ 1048577 := by have := cutsB_len 32 y; omega
    have hm1 : ∀ s ∈ cutsB 58 x, s.size ≤ maxLen := fun s hs => by have := cutsB_mem 58 x s hs; unfold maxLen; omega
    have hm2 : ∀ s ∈ cutsB 32 y, s.size ≤ maxLen := fun s hs => by have := cutsB_mem 32 y s hs; unfold maxLen; omega
    have HM1 := Lib.hid hm1
    have HM2 := Lib.hid hm2
    clear hl h16 hx hy hm1 hm2
    go_enter Tryd.func55, Tryd.ntmps55
    go_wp2_with fail
    rw [← HX.out]
    refine (l3Cut_any x 58 (by omega) _).mono ?_
    rintro e w1 ⟨v1, rfl, o1, b1⟩
    have B1 := Lib.hid b1
    obtain ⟨a1, c1, rfl, s1⟩ := outS_str (by unfold maxLen; omega) HM1.out o1
    obtain ⟨bb, oo, rfl, hcell⟩ := s1.2.2.resolve_left (cutsB_ne _ _)
    have q0 : w1.cell? ⟨bb, oo, none⟩ = some (.string y) := by
      have := hcell 0 hk0
      rw [Nat.add_zero] at this
      rw [this, HY.out]
      exact congrArg (fun t => some (Value.string t)) (hd_get hk0)
    have zb1 := b1.size
    have hk0i : (0 : Int) < ((cutsB 58 x).length : Int) := by omega
    clear o1 b1 s1 hcell
    go_wp2_with fail
    refine (l3Cut_any y 32 (by omega) _).mono ?_
    rintro e w2 ⟨v2, rfl, o2, b2⟩
    have B2 := Lib.hid (B1.out.trans (b2.mono zb1))
    obtain ⟨a2, c2, rfl, s2⟩ := outS_str (by unfold maxLen; omega) HM2.out o2
    have S2 := Lib.hid s2
    rw [HW.out] at HP
    clear o2 b2 s2 q0
    by_cases h4 : (cutsB 32 y).length = 4
    · have h4i : (((cutsB 32 y).length : Int) != 4) = false := by rw [h4]; rfl
      obtain ⟨b2, o2, rfl, hcell⟩ := S2.out.2.2.resolve_left (cutsB_ne _ _)
      have q3 : w2.cell? ⟨b2, o2 + 3, none⟩ = some (.string ((cutsB 32 y).getD 3 ⟨#[]⟩)) := by
        rw [hcell 3 (by omega)]
        congr 2
        rw [List.getD_eq_getElem?_getD, List.getElem?_eq_getElem (by omega)]
        rfl
      obtain ⟨z, hz⟩ : ∃ z, z = (cutsB 32 y).getD 3 ⟨#[]⟩ := ⟨_, rfl⟩
      have hzs : z.size ≤ 1048576 := by
        have := cutsB_mem 32 y z (by rw [hz, List.getD_eq_getElem?_getD, List.getElem?_eq_getElem (by omega)]; exact List.getElem_mem _)
        omega
      rw [← hz] at q3 HP
      rw [if_neg (by omega)] at HP
      have HL4 := Lib.hid h4
      have hlen : (3 : Int) < ((cutsB 32 y).length : Int) := by omega
      clear h4 hcell hz
      go_wp2_with fail
      refine (specNum_any z _ (by unfold maxLen; omega)).mono ?_
      rintro e w3 ⟨rfl, rfl⟩
      have hn1 := (numI_le z.data.toList).1
      have hn2 := (numI_le z.data.toList).2
      generalize numI z.data.toList = nz at HP hn1 hn2 ⊢
      go_wp2_with (first | (go_at_call 50; refine (l3Piece_any _).mono ?_; rintro e w3 ⟨rfl, rfl⟩) | fail)
      cases hin : inB nz 1 15 with
      | true =>
        have HIN := Lib.hid hin
        have hi2 : 1 ≤ nz ∧ nz ≤ 15 := by simpa [inB] using hin
        rw [if_pos hi2] at HP
        have hnn : nz = (nz.toNat : Int) := by omega
        have HNN := Lib.hid hnn
        clear hin hnn
        refine (in_any _ _ _ _).mono ?_
        rintro e w3 ⟨rfl, rfl⟩
        rw [HIN.out]
        go_wp2
        go_ret
        exact ⟨ret_int (by rw [HP.out]; exact HNN.out), B2.out⟩
      | false =>
        have HIN := Lib.hid hin
        have hi2 : ¬ (1 ≤ nz ∧ nz ≤ 15) := by simpa [inB] using hin
        rw [if_neg hi2] at HP
        clear hin hi2
        refine (in_any _ _ _ _).mono ?_
        rintro e w3 ⟨rfl, rfl⟩
        rw [HIN.out]
        go_wp2
        go_ret
        exact ⟨ret_int (by rw [HP.out]; rfl), B2.out⟩
    · have h4i : (((cutsB 32 y).length : Int) != 4) = true := by simp; omega
      rw [if_pos h4] at HP
      clear h4
      go_wp2
      go_ret
      exact ⟨ret_int (by rw [HP.out]; rfl), B2.out⟩

def bodyB (b : ByteArray) : ByteArray := mkB (bodyL b.data.toList)
theorem bodyB_size (b : ByteArray) : (bodyB b).size ≤ b.size := by
  unfold bodyB bodyL
  rw [mkB_size, List.length_drop, List.length_drop]
  have : b.data.toList.length = b.size := by simp
  omega
theorem colon_at {S : List UInt8} {i : Nat} (hi : i < S.length) (h : S[i] = 58) : colon (S.drop i) = 0 := by
  rw [List.drop_eq_getElem_cons hi]; simp [colon, h]
theorem colon_step {S : List UInt8} {i : Nat} (hi : i < S.length) (h : S[i] ≠ 58) : colon (S.drop i) = colon (S.drop (i + 1)) + 1 := by
  rw [List.drop_eq_getElem_cons hi]; simp [colon, h]

set_option maxRecDepth 100000 in
set_option maxHeartbeats 1000000 in
theorem l3Body_any (b : ByteArray) (hb : b.size ≤ maxLen) (w : World) :
    Calls Tryd.prog 56 #[.string b] w fun e w' => e = .returned (.string (bodyB b)) ∧ w = w' := by
  unfold maxLen at hb
  have hl : b.data.toList.length = b.size := by simp
  have HL := Lib.hid hl
  have hb0 : (0 : Int) ≤ (b.size : Int) := by omega
  clear hl
  go_enter Tryd.func56, Tryd.ntmps56
  go_wp2
  go_loop [3] (fun i => ∃ k : Nat, 16 ≤ k ∧ (k ≤ b.size ∨ k = 16) ∧ i = .int .i64 k ∧ colon (b.data.toList.drop 16) = (k - 16) + colon (b.data.toList.drop k)) (fun i => b.size - (intOf i).toNat)
  case atStart => exact ⟨16, Nat.le_refl _, .inr rfl, rfl, by simp⟩
  case round =>
    obtain ⟨k, h16, hkb, rfl, hcol⟩ := hrel
    have HC := Lib.hid hcol
    clear hcol
    by_cases hlt : k < b.size
    · have hd : b.data.toList[k]'(by rw [HL.out]; exact hlt) = b[k] := rfl
      by_cases h : b[k] = 58
      · have q1 : ((b[k].toNat : Int) == 58) = true := by rw [h]; rfl
        have HB := Lib.hid (show b.extract (k + 1) b.size = bodyB b by
          have h0 := colon_at (by rw [HL.out]; exact hlt) (hd.trans h)
          have h1 := HC.out
          rw [h0] at h1
          refine mkB_eq ?_
          rw [drop_list]
          unfold bodyL
          rw [h1, List.drop_drop]
          congr 1
          omega)
        clear h hd
        go_wp2
        go_ret
        exact ⟨ret_str (by rw [← HB.out]), rfl⟩
      · have q1 : ((b[k].toNat : Int) == 58) = false := by
          rw [beq_eq_false_iff_ne]
          intro e
          exact h (UInt8.toNat_inj.1 (by simpa using (by omega : b[k].toNat = 58)))
        have HB := Lib.hid (show colon (b.data.toList.drop 16) = (k + 1 - 16) + colon (b.data.toList.drop (k + 1)) by
          rw [HC.out, colon_step (by rw [HL.out]; exact hlt) (by rw [hd]; exact h)]
          omega)
        clear h hd
        go_wp2
        go_round
        case rel => exact ⟨k + 1, by omega, .inl (by omega), by go_num, HB.out⟩
        case measure => simp [intOf]; omega
    · have HB := Lib.hid (show (⟨#[]⟩ : ByteArray) = bodyB b by
        refine bytes_ext ?_
        unfold bodyB
        rw [mkB_list]
        unfold bodyL
        rw [HC.out, List.drop_drop, List.drop_of_length_le (by rw [HL.out]; omega)])
      go_wp2
      go_ret
      exact ⟨ret_str HB.out, rfl⟩

def lists (l : List ByteArray) : List (List UInt8) := l.map fun b => b.data.toList
noncomputable def getB (t n : Nat) (l : List ByteArray) : ByteArray × Nat := (mkB (frameGet t n (lists l)).1, (frameGet t n (lists l)).2)
theorem getB_no {t n : Nat} {l : List ByteArray} (h : readL t n (lists l) = false) : getB t n l = (⟨#[]⟩, 0) := by
  unfold getB; rw [read_no h]; rfl
theorem getB_yes {t n : Nat} {l : List ByteArray} (h : readL t n (lists l) = true) : getB t n l = (mkB (bodiesL (lists l) (partsL ((lists l).headD []))), partsL ((lists l).headD [])) := by
  unfold getB; rw [read_yes h]
def catB (l : List ByteArray) (k : Nat) : ByteArray := mkB (bodiesL (lists l) k)
theorem catB_zero (l : List ByteArray) : catB l 0 = ⟨#[]⟩ := rfl
theorem catB_succ (l : List ByteArray) (k : Nat) (h : k < l.length) : catB l (k + 1) = catB l k ++ bodyB l[k] := by
  have hk : k < (lists l).length := by simpa [lists] using h
  apply bytes_ext
  unfold catB bodyB
  rw [mkB_list, ByteArray.data_append, Array.toList_append, mkB_list, mkB_list]
  unfold bodiesL
  rw [List.take_succ_eq_append_getElem hk, List.flatMap_append]
  simp [lists]
theorem catB_size (l : List ByteArray) : ∀ k, k ≤ l.length → (catB l k).size ≤ sumSize (l.take k)
  | 0, _ => by rw [catB_zero]; exact Nat.zero_le _
  | k + 1, h => by
    rw [catB_succ l k (by omega), ByteArray.size_append, sumSize_take l k (by omega)]
    have := catB_size l k (by omega)
    have := bodyB_size l[k]
    omega
theorem lists_head {l : List ByteArray} (h : 0 < l.length) : (lists l).headD [] = l[0].data.toList := by
  cases l with
  | nil => simp at h
  | cons a l => rfl
theorem lists_len (l : List ByteArray) : (lists l).length = l.length := by simp [lists]
theorem lists_putB (t n : Nat) (x : ByteArray) : lists (putB t n x) = putL t n x.data.toList := by
  unfold lists putB
  rw [List.map_map]
  conv => rhs; rw [← List.map_id (putL t n x.data.toList)]
  apply List.map_congr_left
  intro a _
  simp
theorem lists_inj {l m : List ByteArray} (h : lists l = lists m) : l = m := by
  unfold lists at h
  exact List.map_inj_right (fun a b e => bytes_ext e) |>.1 h
theorem lists_take (l : List ByteArray) (k : Nat) : (lists l).take k = lists (l.take k) := by simp [lists]
theorem putL_cat (t n : Nat) (l : List ByteArray) (k : Nat) : putL t n (bodiesL (lists l) k) = lists (putB t n (catB l k)) := by
  rw [lists_putB, catB, mkB_list]
theorem cat_len (l : List ByteArray) (k : Nat) : (bodiesL (lists l) k).length = (catB l k).size := by rw [catB, mkB_size]
/-- what the model looks at, of a list that is not empty -/
theorem read_eq {t n : Nat} {l : List ByteArray} {q : Nat} (h : 0 < l.length) (hq : partsL l[0].data.toList = q) :
    readL t n (lists l) = (decide (1 ≤ q) && decide (q ≤ l.length) && decide ((catB l q).size ≤ 2000) && decide (putB t n (catB l q) = l.take q)) := by
  unfold readL
  rw [lists_head h, hq, lists_len, cat_len, putL_cat, lists_take]
  have hne : lists l ≠ [] := by intro e; rw [← lists_len, e] at h; simp at h
  rw [decide_eq_true hne, Bool.true_and]
  congr 1
  exact decide_eq_decide.2 ⟨fun e => lists_inj e, fun e => congrArg lists e⟩
theorem getB_len (t n : Nat) {l : List ByteArray} {q : Nat} (h : 0 < l.length) (hq : partsL l[0].data.toList = q) (h1 : 1 ≤ q) (h2 : q ≤ l.length) (h3 : (catB l q).size ≤ 2000) (h4 : putB t n (catB l q) = l.take q) : getB t n l = (catB l q, q) := by
  rw [getB_yes (by rw [read_eq h hq, decide_eq_true h1, decide_eq_true h2, decide_eq_true h3, decide_eq_true h4]; rfl), lists_head h, hq]
  rfl
theorem ret_si {a b : ByteArray} {c d : Int} (h : a = b) (k : c = d) : Ending.returned (.tuple #[.string a, .int .i64 c]) = .returned (.tuple #[.string b, .int .i64 d]) := by rw [h, k]

def GetOut (t n : Nat) (l : List ByteArray) (w : World) (e : Ending) (w' : World) : Prop := e = .returned (.tuple #[.string (getB t n l).1, .int .i64 (getB t n l).2]) ∧ Below w.heap.size w w'
theorem getOut_no {t n : Nat} {l : List ByteArray} {w w' : World} (h : readL t n (lists l) = false) (b : Below w.heap.size w w') : GetOut t n l w (.returned (.tuple #[.string ⟨#[]⟩, .int .i64 0])) w' := by
  unfold GetOut; rw [getB_no h]; exact ⟨rfl, b⟩

set_option maxRecDepth 100000 in
set_option maxHeartbeats 2000000 in
theorem l3Get_any (t n : Nat) (ht : t < 100000000) (hn : n < 100000000) (a : Option Addr) (c : Nat) (l : List ByteArray) (w : World) (hl : StrS w a l) (hz : sumSize l ≤ 1048576) (hlen : l.length ≤ 1048576) :
    Calls Tryd.prog 34 #[.int .i64 t, .int .i64 n, .slice a l.length c] w (GetOut t n l w) := by
  by_cases h0 : l.length = 0
  · have HN := Lib.hid (show readL t n (lists l) = false by
      have : l = [] := List.eq_nil_of_length_eq_zero h0
      subst this; rfl)
    have q0 : ((l.length : Int) == 0) = true := by rw [h0]; rfl
    clear hl h0
    go_enter Tryd.func34, Tryd.ntmps34
    go_wp2
    go_ret2
    exact getOut_no HN.out (Below.refl _ _)
  · have hp : 0 < l.length := by omega
    obtain ⟨b, o, rfl, hcell⟩ := hl.2.2.resolve_left (fun e => by subst e; simp at hp)
    have q0 : ((l.length : Int) == 0) = false := by rw [beq_eq_false_iff_ne]; omega
    have c0 : w.cell? ⟨b, o, none⟩ = some (.string l[0]) := hcell 0 hp
    obtain ⟨q, hq⟩ : ∃ q, partsL l[0].data.toList = q := ⟨_, rfl⟩
    have HQ := Lib.hid hq
    have hs0 : l[0].size ≤ 1048576 := by
      have h1 := sumSize_take l 0 hp
      have h2 := sumSize_le l (0 + 1)
      have h3 : sumSize (l.take (0 + 1)) ≤ 1048576 := Nat.le_trans h2 hz
      rw [h1] at h3
      omega
    have HR := Lib.hid (read_eq (t := t) (n := n) hp hq)
    have HC := Lib.hid hcell
    have hlt : b < w.heap.size := by have := World.block_lt_of_cell? w _ c0; simpa using this
    have hpi : (0 : Int) < (l.length : Int) := by omega
    clear hl h0 hq hcell
    go_enter Tryd.func34, Tryd.ntmps34
    go_wp2_with fail
    refine (l3Parts_any l[0] hs0 _).mono ?_
    rintro e w1 ⟨rfl, b1⟩
    rw [HQ.out]
    have B1 := Lib.hid b1
    have z1 := b1.size
    clear c0
    by_cases hq0 : q = 0
    · have HN := Lib.hid (show readL t n (lists l) = false by rw [HR.out, hq0]; rfl)
      have q1 : ((q : Int) == 0) = true := by rw [hq0]; rfl
      clear hq0 b1
      go_wp2
      go_ret2
      exact getOut_no HN.out B1.out
    have q1 : ((q : Int) == 0) = false := by simp; omega
    by_cases hql : l.length < q
    · have HN := Lib.hid (show readL t n (lists l) = false by rw [HR.out, decide_eq_false (show ¬ q ≤ l.length by omega), Bool.and_false]; rfl)
      have q2 : (l.length : Int) < (q : Int) := by omega
      clear hq0 b1
      go_wp2
      go_ret2
      exact getOut_no HN.out B1.out
    have hqp : 1 ≤ q := by omega
    have hqi : (q : Int) ≤ (l.length : Int) := by omega
    have hq0i : (0 : Int) ≤ (q : Int) := by omega
    have hql2 : q ≤ l.length := by omega
    have hqd : decide (l.length < q) = false := decide_eq_false (by omega)
    have HC1 := Lib.hid (show ∀ j, (h : j < l.length) → w1.cell? ⟨b, o + j, none⟩ = some (.string l[j]) from fun j h => by rw [b1.cell (by simpa using hlt)]; exact HC.out j h)
    clear hq0 hql b1
    go_wp2
    go_loopg [9, 10] q (fun r v9 v10 wr => ∃ k : Nat, k + r = q ∧ v10 = .int .i64 k ∧ v9 = .string (catB l k) ∧ w1 = wr)
    case atStart => exact ⟨0, by omega, rfl, by rw [catB_zero], rfl⟩
    case round =>
      obtain ⟨k, hkr, rfl, rfl, rfl⟩ := hrel
      have hk : k ≤ q := by omega
      have HKR := Lib.hid hkr
      clear hkr
      have hcs := catB_size l k (by omega)
      have hcs2 := sumSize_le l k
      by_cases hlt2 : k < q
      · have c1 : w1.cell? ⟨b, o + k, none⟩ = some (.string l[k]) := HC1.out k (by omega)
        have HS := Lib.hid (catB_succ l k (by omega))
        have hbs := bodyB_size l[k]
        have hks : l[k].size ≤ 1048576 := by
          have := sumSize_take l k (by omega)
          have := sumSize_le l (k + 1)
          omega
        have hki : (k : Int) < (l.length : Int) := by omega
        have hk0 : (0 : Int) ≤ (k : Int) := by omega
        have hov : ¬ 9223372036854775807 < (catB l k).size + (bodyB l[k]).size := by omega
        go_wp2_with fail
        refine (l3Body_any l[k] (by unfold maxLen; omega) _).mono ?_
        rintro e w2 ⟨rfl, rfl⟩
        go_wp2
        go_roundg (gk - 1)
        case measure => have := HKR.out; omega
        case rel => exact ⟨k + 1, by have := HKR.out; omega, by go_num, by rw [HS.out], rfl⟩
      · obtain rfl : k = q := by omega
        obtain ⟨x, hx⟩ : ∃ x, x = catB l k := ⟨_, rfl⟩
        have hxs : x.size ≤ 1048576 := by rw [hx]; omega
        rw [← hx]
        rw [← hx, decide_eq_true hqp, decide_eq_true hql2] at HR
        have HX := Lib.hid hx
        have HG := Lib.hid (getB_len t n hp HQ.out hqp hql2)
        rw [← hx] at HG
        clear hx hcs hcs2
        go_wp2_with fail
        refine (l3Put_any t n ht hn x (by omega) _).mono ?_
        rintro e w2 ⟨v2, rfl, o2, b2⟩
        have B2 := Lib.hid (B1.out.trans (b2.mono z1))
        obtain ⟨va, vc, rfl⟩ := own_shpS o2
        have hpl := putB_len t n x
        have hpn : partsN x.size ≤ 1048576 := by unfold partsN; omega
        by_cases hPk : partsN x.size = k
        · have n1 : (((putB t n x).length : Int) != (k : Int)) = false := by rw [hpl, hPk]; simp
          by_cases h2000 : 2000 < x.size
          · have n2 : (2000 : Int) < (x.size : Int) := by omega
            have HN := Lib.hid (show readL t n (lists l) = false by rw [HR.out, decide_eq_false (show ¬ x.size ≤ 2000 by omega)]; simp)
            clear o2 b2 hpl hPk h2000
            go_wp2
            go_ret2
            exact getOut_no HN.out B2.out
          · have n2 : (x.size : Int) ≤ 2000 := by omega
            rw [decide_eq_true (show x.size ≤ 2000 by omega)] at HR
            replace HG := Lib.hid (HG.out (by omega))
            have hpk2 : (putB t n x).length = k := by rw [hpl, hPk]
            have SP := Lib.hid (own_str (by unfold maxLen; omega) (fun s hs => by
              obtain ⟨i, hi, rfl⟩ := List.getElem_of_mem hs
              rw [putB_get]
              rw [putB_len] at hi
              have h15 := parts_le (show x.size ≤ 2000 by omega)
              have h1 := blockB_size (p := i) (q := partsN x.size) ht hn (by omega) (by omega) (pieceB x i) x
              have h2 : (pieceB x i).size ≤ 140 := by unfold pieceB; rw [ByteArray.size_extract]; omega
              unfold maxLen; omega) o2)
            have HPK := Lib.hid hpk2
            obtain ⟨b2', o2', rfl, hc2⟩ := SP.out.2.2.resolve_left (fun e => by rw [e] at hpk2; simp at hpk2; omega)
            have HC2 := Lib.hid (show ∀ j, (h : j < l.length) → w2.cell? ⟨b, o + j, none⟩ = some (.string l[j]) from fun j h => by rw [b2.cell (by simp; omega)]; exact HC1.out j h)
            have HP2 := Lib.hid hc2
            clear o2 b2 hpl hPk h2000 hc2 hpk2
            go_wp2
            go_loopg [12] k (fun r v12 wr => ∃ j : Nat, j + r = k ∧ v12 = .int .i64 j ∧ (putB t n x).take j = l.take j ∧ ∃ m, wr = w2.drewN m)
            case atStart => exact ⟨0, by omega, rfl, rfl, 0, rfl⟩
            case round =>
              obtain ⟨j, hjr, rfl, hj, m, rfl⟩ := hrel
              have HJ := Lib.hid hj
              have HJR := Lib.hid hjr
              have BM := Lib.hid (show Below w.heap.size w (w2.drewN m) from B2.out.trans (below_drewN (Below.refl _ _) m))
              clear hj
              by_cases hjk : j < k
              · have hlt2 : j < (putB t n x).length := by rw [HPK.out]; exact hjk
                have c1 := HP2.out j hlt2
                have c2 := HC2.out j (by omega)
                have j0 : (0 : Int) ≤ (j : Int) := by omega
                have j1 : (j : Int) < (l.length : Int) := by omega
                have j2 : (j : Int) < ((putB t n x).length : Int) := by omega
                go_wp2
                go_quiet (fail)
                go_wp2
                · have h := str_ne_of (by assumption : (!(putB t n x)[j].toList == l[j].toList) = true)
                  have HN := Lib.hid (show readL t n (lists l) = false by
                    rw [HR.out, decide_eq_false (show ¬ putB t n x = l.take k from fun e => by
                      have e1 : (putB t n x)[j]? = (l.take k)[j]? := by rw [e]
                      rw [List.getElem?_eq_getElem hlt2, List.getElem?_take, if_pos hjk, List.getElem?_eq_getElem (show j < l.length by omega)] at e1
                      exact h (Option.some.inj e1))]
                    simp)
                  clear h
                  go_ret2
                  exact getOut_no HN.out (BM.out.trans (below_drewN (Below.refl _ _) _))
                · have h := str_eq_of (by assumption : (!(putB t n x)[j].toList == l[j].toList) = false)
                  have HT := Lib.hid (take_step hlt2 (show j < l.length by omega) HJ.out h)
                  clear h
                  go_roundg (gk - 1)
                  case measure => have := HJR.out; omega
                  case rel => exact ⟨j + 1, by have := HJR.out; omega, by go_num, HT.out, _, rfl⟩
              · have hje : j = k := by omega
                have HE := Lib.hid (HG.out (show putB t n x = l.take k by rw [← hje, ← HJ.out, List.take_of_length_le (by rw [HPK.out]; omega)]))
                clear hjr hje
                go_wp2
                go_ret2
                exact ⟨ret_si (by rw [HE.out]) (by rw [HE.out]), BM.out⟩
        · have n1 : (((putB t n x).length : Int) != (k : Int)) = true := by rw [hpl]; simp; omega
          have HN := Lib.hid (show readL t n (lists l) = false by
            rw [HR.out, decide_eq_false (show ¬ putB t n x = l.take k from fun e => by
              have := congrArg List.length e
              rw [hpl, List.length_take] at this
              omega)]
            simp)
          clear o2 b2 hpl hPk
          go_wp2
          go_ret2
          exact getOut_no HN.out B2.out

/-- what FrameGet answers -/
noncomputable def getI (t n : Int) (l : List ByteArray) : ByteArray × Nat := if inB t 0 99999999 && inB n 0 99999999 then getB t.toNat n.toNat l else (⟨#[]⟩, 0)
def GetOutI (t n : Int) (l : List ByteArray) (w : World) (e : Ending) (w' : World) : Prop := e = .returned (.tuple #[.string (getI t n l).1, .int .i64 (getI t n l).2]) ∧ Below w.heap.size w w'

set_option maxRecDepth 100000 in
set_option maxHeartbeats 1000000 in
theorem specFrameGet_any (t n : Int) (a : Option Addr) (c : Nat) (l : List ByteArray) (w : World) (hl : StrS w a l) (hz : sumSize l ≤ 1048576) (hlen : l.length ≤ 1048576) :
    Calls Tryd.prog 13 #[.int .i64 t, .int .i64 n, .slice a l.length c] w (GetOutI t n l w) := by
  have HX := Lib.hid hl
  clear hl
  cases h : (inB t 0 99999999 && inB n 0 99999999) with
  | false =>
    have HF := Lib.hid h
    have HG := Lib.hid (show getI t n l = (⟨#[]⟩, 0) by unfold getI; rw [h]; rfl)
    clear h
    go_enter Tryd.func13, Tryd.ntmps13
    go_wp2_with fail
    refine (fits_any _ _ _).mono ?_
    rintro e w1 ⟨rfl, rfl⟩
    rw [HF.out]
    go_wp2
    go_ret2
    exact ⟨ret_si (by rw [HG.out]) (by rw [HG.out]; rfl), Below.refl _ _⟩
  | true =>
    have HF := Lib.hid h
    have HG := Lib.hid (show getI t n l = getB t.toNat n.toNat l by unfold getI; rw [h]; rfl)
    simp only [inB, Bool.and_eq_true, decide_eq_true_eq] at h
    obtain ⟨⟨h1, h2⟩, h3, h4⟩ := h
    obtain ⟨x, rfl⟩ := Int.eq_ofNat_of_zero_le h1
    obtain ⟨y, rfl⟩ := Int.eq_ofNat_of_zero_le h3
    go_enter Tryd.func13, Tryd.ntmps13
    go_wp2_with fail
    refine (fits_any _ _ _).mono ?_
    rintro e w1 ⟨rfl, rfl⟩
    rw [HF.out]
    go_wp2_with fail
    refine (l3Get_any x y (by omega) (by omega) a c l _ HX.out hz hlen).mono ?_
    rintro e w1 ⟨rfl, b1⟩
    go_wp2
    go_ret2
    exact ⟨ret_si (by rw [HG.out]; rfl) (by rw [HG.out]; rfl), b1⟩
end Go.Proofs.YtakcmjnfkcoilaaDoor
