import Derived.Test.YtgjfflfldddebaaDoorFrameIs
import Derived.Test.YtgjfflfldddebaaDoorFrameJ
/- FrameGet of the program. -/
namespace Go.Proofs.YtgjfflfldddebaaDoor
open Go Go.RowKit

theorem block_has {t n q i : Nat} {x : List UInt8} {b : ByteArray} (h : b.data.toList = blockL t n q i x) : okP t n q i b = true ∧ pieceP t n q i b = mkB (pieceL x i) := by
  have hsz := size_of_list h
  have h16 := block_long t n q i x
  have hx : (b.extract 16 b.size).data.toList = (headI t n i q).data.toList ++ pieceL x i := by
    rw [drop_list, h, block_drop, headI_nat]
    simp [headB]
  obtain ⟨h1, h2⟩ := trim_of hx
  unfold okP pieceP
  rw [decide_eq_true (show 16 ≤ b.size by omega), h1]
  exact ⟨rfl, h2⟩
theorem putB_list (t n : Nat) (x : ByteArray) (i : Nat) (h : i < (putB t n x).length) : ((putB t n x)[i]).data.toList = blockL t n (partsN x.size) i x.data.toList := by
  have hl : x.data.toList.length = x.size := by simp
  simp only [putB, putL, List.getElem_map, List.getElem_range, hl]
theorem join_of (t n : Nat) (x : ByteArray) : joinI t n (putB t n x) = (x, true) := by
  have hl : x.data.toList.length = x.size := by simp
  have hlen := putB_len t n x
  have hb : ∀ i, (h : i < (putB t n x).length) → okP t n (putB t n x).length i (putB t n x)[i] = true ∧ pieceP t n (putB t n x).length i (putB t n x)[i] = mkB (pieceL x.data.toList i) := fun i h => by
    have h1 := putB_list t n x i h
    rw [← hlen] at h1
    exact block_has h1
  rw [joinI_yes (fun i hi => (hb i hi).1)]
  have hc : ∀ k, k ≤ (putB t n x).length → (catP t n (putB t n x).length (putB t n x) k).data.toList = (List.range k).flatMap (pieceL x.data.toList) := by
    intro k
    induction k with
    | zero => intro _; rfl
    | succ k ih =>
      intro h
      rw [catP_succ t n _ (show k < (putB t n x).length by omega), ByteArray.data_append, Array.toList_append, ih (by omega), (hb k (by omega)).2, mkB_list, List.range_succ, List.flatMap_append]
      simp
  congr 1
  apply bytes_ext
  rw [hc _ (Nat.le_refl _), hlen, ← hl, pieces_all]
theorem getI_of (t n : Int) (l : List ByteArray) :
    getI t n l = if (joinI t n (l.take (toldI t n l))).2 && isI t n (joinI t n (l.take (toldI t n l))).1 (l.take (toldI t n l)) then ((joinI t n (l.take (toldI t n l))).1, toldI t n l) else (⟨#[]⟩, 0) := by
  have hk := (toldI_le t n l).1
  generalize hkk : toldI t n l = k at hk ⊢
  split
  · next h =>
    rw [Bool.and_eq_true] at h
    obtain ⟨h1, h2⟩ := h
    generalize (joinI t n (l.take k)).1 = x at h2 ⊢
    unfold isI at h2
    rw [Bool.and_eq_true] at h2
    obtain ⟨h3, h4⟩ := h2
    have h4 := of_decide_eq_true h4
    simp only [frameOkB, Bool.and_eq_true, decide_eq_true_eq] at h3
    obtain ⟨⟨h5, h6⟩, h7⟩ := h3
    have hlen := congrArg List.length h4
    rw [putB_len, List.length_take] at hlen
    have hl : x.data.toList.length = x.size := by simp
    have hF : FrameIs t.toNat n.toNat x.data.toList (lists l) := by
      refine ⟨by omega, ?_⟩
      rw [hl, hlen, Nat.min_eq_left hk, lists_take, ← h4, lists_putB]
    unfold getI
    rw [h5, h6]
    show getB t.toNat n.toNat l = _
    unfold getB
    rw [frameGet_yes hF, hl, hlen, Nat.min_eq_left hk]
    show (mkB x.data.toList, k) = _
    rw [mkB_of]
  · next h =>
    unfold getI
    split
    · next h5 =>
      unfold getB
      rw [frameGet_no]
      · rfl
      · intro y hF
        apply h
        simp only [Bool.and_eq_true] at h5
        have hr1 := h5.1
        have hr2 := h5.2
        simp only [inB, decide_eq_true_eq] at hr1 hr2
        obtain ⟨a, rfl⟩ := Int.eq_ofNat_of_zero_le hr1.1
        obtain ⟨b, rfl⟩ := Int.eq_ofNat_of_zero_le hr2.1
        have h6 := told_of (t := a) (n := b) hF
        have h7 : k = partsN y.length := by rw [← hkk]; exact h6
        have h8 : l.take k = putB a b (mkB y) := by
          apply lists_inj
          rw [lists_putB, mkB_list, ← lists_take, h7]
          exact hF.2
        have h9 : joinI (a : Int) (b : Int) (l.take k) = (mkB y, true) := by rw [h8]; exact join_of a b (mkB y)
        show ((joinI (a : Int) (b : Int) (l.take k)).2 && isI (a : Int) (b : Int) (joinI (a : Int) (b : Int) (l.take k)).1 (l.take k)) = true
        rw [h9]
        show (true && isI (a : Int) (b : Int) (mkB y) (l.take k)) = true
        rw [h8]
        unfold isI frameOkB
        rw [show inB (a : Int) 0 99999999 = true from h5.1, show inB (b : Int) 0 99999999 = true from h5.2, decide_eq_true (show (mkB y).size ≤ 2000 by rw [mkB_size]; exact hF.1)]
        simp
    · rfl
theorem str_take {w : World} {a : Option Addr} {l : List ByteArray} (k : Nat) (h : StrS w a l) : StrS w a (l.take k) := by
  refine ⟨by have := h.1; rw [List.length_take]; omega, fun s hs => h.2.1 s (List.mem_of_mem_take hs), ?_⟩
  rcases h.2.2 with rfl | ⟨b, o, rfl, hc⟩
  · exact .inl (by simp)
  · refine .inr ⟨b, o, rfl, fun j hj => ?_⟩
    rw [List.length_take] at hj
    rw [hc j (by omega), List.getElem_take]

set_option maxRecDepth 100000 in
set_option maxHeartbeats 2000000 in
theorem implFrameGet_any (t n : Int) (ht : -9223372036854775808 ≤ t ∧ t ≤ 9223372036854775807) (hn : -9223372036854775808 ≤ n ∧ n ≤ 9223372036854775807) (a : Option Addr) (c : Nat) (l : List ByteArray) (w : World) (hl : StrS w a l) (hca : l.length ≤ c) (hlen : l.length ≤ 1048576) (hz : sumSize l ≤ 1048576)
    (hTab : FrT w) :
    Calls Tryd.prog 11 #[.int .i64 t, .int .i64 n, .slice a l.length c] w (GetOutI t n l w) := by
  have HTab := Lib.hid hTab
  have HX := Lib.hid hl
  obtain ⟨hk1, hk2⟩ := toldI_le t n l
  have HG := Lib.hid (getI_of t n l)
  clear hTab hl
  go_enter Tryd.func11, Tryd.ntmps11
  go_wp2_with fail
  refine (frameTold_any t n ht hn a c l _ HX.out hlen HTab.out.2).mono ?_
  rintro e w1 ⟨rfl, b1⟩
  have B1 := Lib.hid b1
  have z1 := b1.size
  generalize toldI t n l = k at HG hk1 hk2 ⊢
  have hk0 : (0 : Int) ≤ (k : Int) := by omega
  have hki : (k : Int) ≤ (l.length : Int) := by omega
  have hkc : (k : Int) ≤ (c : Int) := by omega
  obtain ⟨m, hm⟩ : ∃ m, m = l.take k := ⟨_, rfl⟩
  have hmk : m.length = k := by rw [hm, List.length_take]; omega
  have HS1 := Lib.hid (show StrS w1 a m by rw [hm]; exact str_take k (HX.out.below b1))
  have hzm : sumSize m ≤ 1048576 := by rw [hm]; have := sumSize_le l k; omega
  rw [← hm] at HG
  have HMK := Lib.hid hmk
  clear b1 hm hmk
  have T1 := Lib.hid (HTab.out.below B1.out)
  go_wp2_with fail
  refine (show Calls Tryd.prog 33 #[.int .i64 t, .int .i64 n, .slice a k c] w1 (JoinOut t n m w1) by
    have := frameJoin_any t n ht hn a c m w1 HS1.out (by rw [HMK.out]; omega) hzm T1.out.2
    rwa [HMK.out] at this).mono ?_
  rintro e w2 ⟨rfl, b2⟩
  have B2 := Lib.hid (B1.out.trans (b2.mono z1))
  have HS2 := Lib.hid (HS1.out.below b2)
  have hjs := joinI_size t n m
  generalize joinI t n m = J at HG hjs ⊢
  obtain ⟨x, ok⟩ := J
  clear b2
  cases ok with
  | false =>
    have HN := Lib.hid (show getI t n l = (⟨#[]⟩, 0) by rw [HG.out]; rfl)
    go_wp2
    go_ret2
    exact ⟨ret_si (by rw [HN.out]) (by rw [HN.out]; rfl), B2.out⟩
  | true =>
    have T2 := Lib.hid (HTab.out.below B2.out)
    go_wp2_with fail
    refine (show Calls Tryd.prog 34 #[.int .i64 t, .int .i64 n, .string x, .slice a k c] w2 (IsOut t n x m w2) by
      have := frameIs_any t n x (by have h : x.size ≤ sumSize m := hjs; unfold maxLen; omega) a c m w2 HS2.out T2.out
      rwa [HMK.out] at this).mono ?_
    rintro e w3 ⟨rfl, b3⟩
    have B3 := Lib.hid (B2.out.trans (b3.mono B2.out.size))
    clear b3
    cases hi : isI t n x m with
    | false =>
      have HN := Lib.hid (show getI t n l = (⟨#[]⟩, 0) by rw [HG.out]; simp only [hi]; rfl)
      clear hi
      go_wp2
      go_ret2
      exact ⟨ret_si (by rw [HN.out]) (by rw [HN.out]; rfl), B3.out⟩
    | true =>
      have HN := Lib.hid (show getI t n l = (x, k) by rw [HG.out]; simp only [hi]; rfl)
      clear hi
      go_wp2
      go_ret2
      exact ⟨ret_si (by rw [HN.out]) (by rw [HN.out]), B3.out⟩
end Go.Proofs.YtgjfflfldddebaaDoor
