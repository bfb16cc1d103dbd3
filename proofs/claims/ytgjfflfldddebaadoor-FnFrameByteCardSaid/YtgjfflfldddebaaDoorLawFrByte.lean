import Derived.Test.YtgjfflfldddebaaDoorFrameGet
import Derived.Test.YtgjfflfldddebaaDoorShape
import Derived.Test.YtgjfflfldddebaaDoorFramePI
import Derived.Test.YtgjfflfldddebaaDoorDrawFrGet
import Derived.Test.YtgjfflfldddebaaDoorDrawFrame
import Derived.Test.YtgjfflfldddebaaDoorWmW
import Derived.Test.YtgjfflfldddebaaDoorFrT
import Derived.Test.YtgjfflfldddebaaDoorByteP
import Derived.Deep.RegionHeld3
import Derived.WalkLawsBesides
/- The walk of FnFrameByte. -/
namespace Go.Proofs.YtgjfflfldddebaaDoor
open Go Go.RowKit

theorem colon_of : ∀ (a : List UInt8), (∀ d ∈ a, d ≠ 58) → ∀ y, colon (a ++ 58 :: y) = a.length
  | [], _, y => by simp [colon]
  | d :: a, h, y => by simp [colon, h d (by simp), colon_of a (fun e he => h e (by simp [he])) y]
theorem head_58 (t n p q : Nat) : ∃ a, headL t n p q = a ++ [58] ∧ ∀ d ∈ a, d ≠ 58 := by
  refine ⟨decL t ++ 32 :: (decL n ++ 32 :: (decL p ++ 32 :: decL q)), by simp [headL], ?_⟩
  intro d hd
  have a1 := all_ne (decL_dig t) no58
  have a2 := all_ne (decL_dig n) no58
  have a3 := all_ne (decL_dig p) no58
  have a4 := all_ne (decL_dig q) no58
  simp only [List.mem_append, List.mem_cons] at hd
  rcases hd with h | rfl | h | rfl | h | rfl | h
  · exact a1 d h
  · decide
  · exact a2 d h
  · decide
  · exact a3 d h
  · decide
  · exact a4 d h
/-- where the colon of a block stands, behind the sum -/
theorem colon_block (t n q i : Nat) (x : List UInt8) : colon ((blockL t n q i x).drop 16) + 1 = (headL t n i q).length := by
  obtain ⟨a, ha, h58⟩ := head_58 t n i q
  rw [block_drop, ha, List.append_assoc]
  show colon (a ++ 58 :: pieceL x i) + 1 = _
  rw [colon_of a h58, List.length_append]; rfl
theorem colon_is : ∀ (l : List UInt8) (j : Nat), j < l.length → j ≤ colon l → (l[j]? = some 58 ↔ j = colon l)
  | [], j, h, _ => absurd h (Nat.not_lt_zero _)
  | c :: l, 0, _, _ => by
    by_cases h : c = 58
    · simp [colon, h]
    · simp [colon, h]
  | c :: l, j + 1, hl, hj => by
    by_cases h : c = 58
    · simp [colon, h] at hj
    · simp only [colon, if_neg h] at hj ⊢
      have := colon_is l j (by simpa using hl) (by omega)
      simp only [List.getElem?_cons_succ, this]
      omega
theorem xor_one (z : UInt8) : bits .xor .u8 (z.toNat : Int) 1 = ((z ^^^ 1).toNat : Int) := by
  have h : ∀ n : Fin 256, bits .xor .u8 ((UInt8.ofFin n).toNat : Int) 1 = ((UInt8.ofFin n ^^^ 1).toNat : Int) := by decide +kernel
  exact h z.toFin
theorem frameOk_of {t n : Int} {x : ByteArray} {L : List ByteArray} (h : putI t n x = L) (hl : 0 < L.length) : frameOkB t n x = true := by
  cases h2 : frameOkB t n x with
  | true => rfl
  | false => rw [putI_no h2] at h; subst h; simp at hl
theorem sum_smallB {c : Nat} : ∀ {l : List ByteArray}, (∀ s ∈ l, s.size ≤ c) → sumSize l ≤ l.length * (c + 1)
  | [], _ => by simp [sumSize]
  | a :: r, h => by
    have h1 := h a (by simp)
    have h2 := sum_smallB (c := c) (l := r) (fun s hs => h s (by simp [hs]))
    unfold sumSize at h2 ⊢
    simp only [List.map_cons, List.sum_cons, List.length_cons, Nat.add_mul]
    omega
theorem implPut_isB {t n : Int} {x : ByteArray} {L : List ByteArray} (h : putI t n x = L) (hx : x.size ≤ maxLen) (w : World) (hTab : FrT w) : Calls Tryd.prog 8 #[.int .i64 t, .int .i64 n, .string x] w (OutS w L) := by
  subst h
  exact implFramePut_any t n x hx w hTab
theorem specPut_isB {t n : Int} {x : ByteArray} {L : List ByteArray} (h : putI t n x = L) (hx : x.size ≤ maxLen) (w : World) : Calls Tryd.prog 10 #[.int .i64 t, .int .i64 n, .string x] w (OutS w L) := by
  subst h
  exact specFramePut_any t n x hx w
theorem wmW_isB {a b : Option Addr} {ca cb m : Nat} {l : List ByteArray} (hm : l.length = m) (w : World) (hl : StrS w a l) (hm2 : StrS w b l) :
    Calls Tryd.prog 9 #[.slice a m ca, .slice b m cb] w fun e w' => e = .returned (.bool true) ∧ Below w.heap.size w w' := by
  subst hm
  exact wmWords_w a b ca cb l w hl hm2
theorem getI_inB {t n : Int} (ht : 0 ≤ t ∧ t ≤ 99999999) (hn : 0 ≤ n ∧ n ≤ 99999999) (l : List ByteArray) : getI t n l = getB t.toNat n.toNat l := by
  unfold getI inB
  rw [decide_eq_true ht, decide_eq_true hn]
  rfl
/-- what is read of blocks of which one has a bit turned -/
theorem byte_get {t n : Int} {x s : ByteArray} {L : List ByteArray} {k p q : Nat} {z : UInt8} {M : List UInt8} (hfr : frameOkB t n x = true) (hL : putB t.toNat n.toNat x = L) (hq : partsN x.size = q) (hk : k < q) (hsb : s.data.toList = blockL t.toNat n.toNat q k x.data.toList)
    (hp : p < s.data.toList.length) (hz : s.data.toList[p] = z) (hM : s.data.toList.set p (z ^^^ 1) = M) :
    getI t n (L.set k ⟨M.toArray⟩) = (⟨#[]⟩, 0) ∨ ∃ y : ByteArray, getI t n (L.set k ⟨M.toArray⟩) = (y, q) ∧ partsN y.size = q ∧ 16 + (headL t.toNat n.toNat k q).length ≤ p ∧ (shaL (headL t.toNat n.toNat k q ++ x.data.toList)).take 16 = (shaL (headL t.toNat n.toNat k q ++ y.data.toList)).take 16 ∧
      ∀ i, i < q → (lists (L.set k ⟨M.toArray⟩))[i]? = some (blockL t.toNat n.toNat q i y.data.toList) := by
  have h0 := hfr
  unfold frameOkB inB at h0
  simp only [Bool.and_eq_true, decide_eq_true_eq] at h0
  obtain ⟨⟨ht, hn⟩, hx⟩ := h0
  rw [getI_inB ht hn]
  have hxs : x.data.toList.length = x.size := rfl
  have e : lists (L.set k ⟨M.toArray⟩) = (putL t.toNat n.toNat x.data.toList).set k ((blockL t.toNat n.toNat (partsN x.data.toList.length) k x.data.toList).set p (z ^^^ 1)) := by
    rw [hxs, hq, ← hsb, hM, ← hL, ← lists_putB]
    simp [lists]
  by_cases hy : ∃ y, FrameIs t.toNat n.toNat y (lists (L.set k ⟨M.toArray⟩))
  · obtain ⟨y, hy⟩ := hy
    refine .inr ⟨mkB y, ?_⟩
    have hy2 := hy
    rw [e] at hy2
    have hb : blockL t.toNat n.toNat (partsN x.data.toList.length) k x.data.toList = s.data.toList := by rw [hxs, hq, hsb]
    obtain ⟨h1, h2, h3⟩ := frame_chg (c := z) (p := p) (by rw [hxs]; exact hx) (by rw [hxs, hq]; exact hk) (by rw [hb]; exact hp) (by simp only [hb]; exact hz) hy2
    rw [hxs, hq] at h1 h2 h3
    refine ⟨?_, by rw [mkB_size]; exact h1, h2, by rw [mkB_list]; exact h3, fun i hi => ?_⟩
    · unfold getB
      rw [frameGet_yes hy, h1]
    · rw [hy.get i (by rw [h1]; exact hi), h1, mkB_list]
  · refine .inl ?_
    unfold getB
    rw [frameGet_no (fun y h => hy ⟨y, h⟩)]
    rfl
/-- the colon of a block -/
theorem blk_colon {s : ByteArray} {t n q i C : Nat} {x : List UInt8} (h : s.data.toList = blockL t n q i x) (hC : 15 + (headL t n i q).length = C) :
    C < s.size ∧ 16 ≤ C ∧ (∀ hj : C < s.size, s[C] = 58) ∧ (∀ j (hj : j < s.size), j < C → 16 ≤ j → s[j] ≠ 58) ∧ s.extract 16 (C + 1) = headB t n i q ∧ s.extract (C + 1) s.size = mkB (pieceL x i) := by
  obtain ⟨a, ha, h58⟩ := head_58 t n i q
  have hal : (headL t n i q).length = a.length + 1 := by rw [ha]; simp
  have hls : s.data.toList.length = s.size := rfl
  have hlen : s.size = 16 + (headL t n i q).length + (pieceL x i).length := by rw [← hls, h, block_len]
  have h4 : 1 ≤ a.length := by
    have h1 : headL t n i q = decL t ++ 32 :: (decL n ++ 32 :: (decL i ++ 32 :: (decL q ++ [58]))) := rfl
    have h2 := congrArg List.length h1
    simp only [List.length_append, List.length_cons, List.length_nil] at h2
    omega
  have hd : s.data.toList.drop 16 = (a ++ [58]) ++ pieceL x i := by rw [h, block_drop, ha]
  have hat : ∀ j (hj : j < s.size), 16 ≤ j → s.data.toList[j]? = ((a ++ [58]) ++ pieceL x i)[j - 16]? := fun j hj h16 => by
    rw [← hd, List.getElem?_drop, show 16 + (j - 16) = j by omega]
  have hsj : ∀ j (hj : j < s.size), s.data.toList[j]? = some s[j] := fun j hj => by rw [List.getElem?_eq_getElem (show j < s.data.toList.length from hj)]; rfl
  refine ⟨by omega, by omega, fun hj => ?_, fun j hj hjC h16 => ?_, ?_, ?_⟩
  · have e := hat C hj (by omega)
    rw [hsj C hj, List.append_assoc, show C - 16 = a.length by omega, List.getElem?_append_right (Nat.le_refl _), Nat.sub_self] at e
    exact Option.some.inj e
  · have e := hat j hj h16
    rw [hsj j hj, List.append_assoc, List.getElem?_append_left (by omega), List.getElem?_eq_getElem (by omega)] at e
    rw [Option.some.inj e]
    exact h58 _ (List.getElem_mem _)
  · refine bytes_ext ?_
    show (s.extract 16 (C + 1)).data.toList = headL t n i q
    rw [Lib.extract_data]
    rw [hd, ← ha, show C + 1 - 16 = (headL t n i q).length by omega, List.take_left]
  · refine mkB_eq ?_
    rw [drop_list, show C + 1 = 16 + (headL t n i q).length by omega, ← List.drop_drop, hd, ← ha, List.drop_left]
theorem specHash_isB {s u : ByteArray} (hu : shaS s = u) (hm : s.size ≤ 549755813888) (w : World) :
    Calls Tryd.prog 12 #[.string s] w fun e w' => e = .returned (.string u) ∧ Below w.heap.size w w' := by
  subst hu
  exact specHash_any s hm w
theorem implGet_isB {l : List ByteArray} {m : Nat} (hm : l.length = m) {x : ByteArray} {k : Nat} {t n : Int} (hg : getI t n l = (x, k)) (ht : -9223372036854775808 ≤ t ∧ t ≤ 9223372036854775807) (hn : -9223372036854775808 ≤ n ∧ n ≤ 9223372036854775807) (a : Option Addr) (c : Nat) (w : World) (hl : StrS w a l) (hca : m ≤ c) (hlen : m ≤ 1048576) (hz : sumSize l ≤ 1048576) (hTab : FrT w) :
    Calls Tryd.prog 11 #[.int .i64 t, .int .i64 n, .slice a m c] w fun e w' => e = .returned (.tuple #[.string x, .int .i64 (k : Int)]) ∧ Below w.heap.size w w' := by
  subst hm
  have h := implFrameGet_any t n ht hn a c l w hl hca hlen hz hTab
  unfold GetOutI at h
  rw [hg] at h
  exact h
set_option maxRecDepth 100000 in
set_option maxHeartbeats 4000000 in
theorem fnFrameByteWalk0 (a0 : Option Addr) (c0 : Nat) (l0 : List UInt8) (hl0 : l0.length ≤ c0) (hc0 : c0 ≤ maxLen) (a : Option Addr) (c : Nat) (l : List UInt8) (hc : c ≤ maxLen) {w : World} (h0 : BytesS w a0 l0) (hTab : FrT w) :
    Calls Tryd.prog 3 #[.slice a0 l0.length c0, .slice a l.length c] w fun e w' => e = .returned (.bool true) ∧ Below w.heap.size w w' := by
  have hcl := hc
  have hcl0 := hc0
  unfold maxLen at hcl hcl0
  have HTab := Lib.hid hTab
  clear hTab
  by_cases hb : (1048576 : Int) < (l0.length : Int)
  · go_enter Tryd.func3, Tryd.ntmps3
    go_wp2
    go_ret
    exact ⟨rfl, Below.refl _ _⟩
  have hb1 : ¬ (1048576 : Int) < (l0.length : Int) := by omega
  clear hb
  by_cases hb : (1048576 : Int) < (l.length : Int)
  · go_enter Tryd.func3, Tryd.ntmps3
    go_wp2
    go_ret
    exact ⟨rfl, Below.refl _ _⟩
  have hb2 : ¬ (1048576 : Int) < (l.length : Int) := by omega
  clear hb
  go_enter Tryd.func3, Tryd.ntmps3
  go_wp2_with fail
  refine (drawFramePut_any a0 c0 l0 _ hl0 hc0 h0).mono ?_
  rintro e w1 ⟨t, n, x, rfl, ht, hn, hxs, b1⟩
  have hxm : x.size ≤ maxLen := by unfold maxLen; omega
  have z1 := b1.size
  have B1 := Lib.hid b1
  clear b1 h0
  obtain ⟨L, hL⟩ : ∃ L, putI t n x = L := ⟨_, rfl⟩
  have HL := Lib.hid hL
  obtain ⟨hLn, hLs⟩ := putI_small t n x
  rw [hL] at hLn hLs
  have HLS := Lib.hid hLs
  have HOK := Lib.hid (show ∀ s ∈ L, s.size ≤ maxLen from fun s hs => by have := hLs s hs; unfold maxLen; omega)
  clear hL hLs
  obtain ⟨q, hq⟩ : ∃ q, L.length = q := ⟨_, rfl⟩
  have HQ := Lib.hid hq
  rw [hq] at hLn
  clear hq
  go_wp2_with fail
  refine (implPut_isB HL.out hxm _ (HTab.out.below B1.out)).mono ?_
  rintro e w2 ⟨v2, rfl, o2, b2⟩
  obtain ⟨a2, c2, rfl⟩ := own_shape o2
  rw [HQ.out] at o2 ⊢
  have z2 := b2.size
  have O2 := Lib.hid o2
  have S2 := Lib.hid (own_str (by rw [HQ.out]; unfold maxLen; omega) HOK.out (by rw [HQ.out]; exact o2))
  have B2 := Lib.hid (B1.out.trans (b2.mono z1))
  clear o2 b2 B1
  go_wp2_with fail
  refine (specPut_isB HL.out hxm _).mono ?_
  rintro e w3 ⟨v3, rfl, o3, b3⟩
  obtain ⟨a3, c3, rfl⟩ := own_shape o3
  rw [HQ.out] at o3 ⊢
  have z3 := b3.size
  have S3 := Lib.hid (own_str (by rw [HQ.out]; unfold maxLen; omega) HOK.out (by rw [HQ.out]; exact o3))
  have O3 := Lib.hid (own_below O2.out b3)
  have S23 := Lib.hid (S2.out.below b3)
  have B3 := Lib.hid (B2.out.trans (b3.mono (by omega)))
  clear o3 b3 B2 O2 S2
  go_wp2_with fail
  refine (wmW_isB HQ.out _ S23.out S3.out).mono ?_
  rintro e w4 ⟨rfl, b4⟩
  have z4 := b4.size
  have O4 := Lib.hid (own_below O3.out b4)
  have S4 := Lib.hid (S23.out.below b4)
  have B4 := Lib.hid (B3.out.trans (b4.mono (by omega)))
  clear b4 B3 O3 S23 S3
  by_cases hq0 : q = 0
  · subst hq0
    go_wp2_with fail
    refine (specPut_isB HL.out hxm _).mono ?_
    rintro e w5 ⟨v5, rfl, o5, b5⟩
    obtain ⟨a5, c5, rfl⟩ := own_shape o5
    rw [HQ.out] at o5 ⊢
    have S5 := Lib.hid (own_str (by rw [HQ.out]; unfold maxLen; omega) HOK.out (by rw [HQ.out]; exact o5))
    have S45 := Lib.hid (S4.out.below b5)
    have B5 := Lib.hid (B4.out.trans (b5.mono (by omega)))
    have z5 := b5.size
    clear o5 b5
    go_wp2_with fail
    refine (wmW_isB HQ.out _ S45.out S5.out).mono ?_
    rintro e w6 ⟨rfl, b6⟩
    go_wp2
    go_ret
    exact ⟨rfl, B5.out.trans (b6.mono (by omega))⟩
  · have hqI : ¬ (q : Int) = 0 := by omega
    have hqB : ((q : Int) == 0) = false := by rw [beq_eq_false_iff_ne]; omega
    have hqC : (q == 0) = false := by rw [beq_eq_false_iff_ne]; omega
    obtain ⟨k, hk⟩ : ∃ k, l0.length % q = k := ⟨_, rfl⟩
    have hkq : k < q := by rw [← hk]; exact Nat.mod_lt _ (by omega)
    have hkI : (l0.length : Int) % (q : Int) = (k : Int) := by rw [← hk]; exact (Int.natCast_emod _ _).symm
    have hk0 : (0 : Int) ≤ (k : Int) := by omega
    have hkq2 : (k : Int) < (q : Int) := by omega
    clear hk
    obtain ⟨g2, rfl, hqc, hg2, hg2w⟩ := own_partsG O4.out (by omega)
    have hkL : k < L.length := by rw [HQ.out]; exact hkq
    obtain ⟨s, hs⟩ : ∃ s, L[k] = s := ⟨_, rfl⟩
    have hss : s.size ≤ 200 := by rw [← hs]; exact HLS.out _ (List.getElem_mem hkL)
    have HCK := Lib.hid (show ∀ W, Below w4.heap.size w4 W → W.cell? ⟨g2, k, none⟩ = some (.string s) from fun W hb => by
      have := O4.out.cells (g := g2) rfl k (.string s) (by rw [List.getElem?_map, List.getElem?_eq_getElem hkL, hs]; rfl)
      rw [addr_add] at this
      exact (hb.cell (p := ⟨g2, k, none⟩) hg2w).trans (by simpa using this))
    have ck := HCK.out w4 (Below.refl _ _)
    have hfr := frameOk_of HL.out (show 0 < L.length by omega)
    have HFR := Lib.hid hfr
    have HPB := Lib.hid (show putB t.toNat n.toNat x = L by rw [← HL.out, putI_yes hfr])
    have hq15 : partsN x.size = q := by rw [← HQ.out, ← HPB.out, putB_len]
    have HSB := Lib.hid (show s.data.toList = blockL t.toNat n.toNat q k x.data.toList by
      have h := putB_list t.toNat n.toNat x k (by rw [HPB.out]; exact hkL)
      rw [← hq15, ← h, ← hs]
      congr 2
      simp only [HPB.out])
    have hs17 : 17 ≤ s.size := by
      have h := congrArg List.length HSB.out
      rw [block_len] at h
      have h2 := colon_block t.toNat n.toNat q k x.data.toList
      have h3 : s.data.toList.length = s.size := rfl
      omega
    have HQP := Lib.hid hq15
    have HS := Lib.hid hs
    obtain ⟨ob, bb⟩ := ownsM_bytes (w := w4) (base := w4.heap.size) 5 s (Nat.le_refl _) (by unfold maxLen; omega)
    have kc := Lib.run_convert_string_bytes (P := Tryd.prog) w4 9 22 5 s Tryd.underlying9 Tryd.underlying22 Tryd.underlying5
    have BX := Lib.hid (show Box (Lib.bytesWorld w4 5 s) w4.heap.size (bCells s.data.toList) from box_bytes ob)
    have BB := Lib.hid bb
    have zb := bb.size
    have hgr := Lib.hid (grownCap_ge w4 s.size 0 5)
    obtain ⟨cap, hcap⟩ : ∃ cap, grownCap w4 s.size 0 5 = cap := ⟨_, rfl⟩
    rw [hcap] at kc hgr
    have hz8 : w4.heap.size < (Lib.bytesWorld w4 5 s).heap.size := by rw [Lib.bytesWorld_size]; omega
    generalize Lib.bytesWorld w4 5 s = w5 at BX BB kc zb hz8
    clear hs ob bb hcap hfr hq15 hgr
    obtain ⟨p, hp⟩ : ∃ p, l.length % s.size = p := ⟨_, rfl⟩
    have hps : p < s.size := by rw [← hp]; exact Nat.mod_lt _ (by omega)
    have hpI : (l.length : Int) % (s.size : Int) = (p : Int) := by rw [← hp]; exact (Int.natCast_emod _ _).symm
    have hp0 : (0 : Int) ≤ (p : Int) := by omega
    have hps2 : (p : Int) < (s.size : Int) := by omega
    have hss0 : ¬ (s.size : Int) = 0 := by omega
    clear hp
    obtain ⟨z, hz⟩ : ∃ z : UInt8, s.data.toList[p]'hps = z := ⟨_, rfl⟩
    have HZ := Lib.hid hz
    obtain ⟨yc, yf⟩ := BX.out p _ (bCells_get (show p < s.data.toList.length from hps))
    rw [hz] at yc
    have hxor := xor_one z
    obtain ⟨w6, hw6⟩ : ∃ w6, w5.setCell ⟨w4.heap.size, p, none⟩ (.int .u8 ((z.toNat ^^^ 1 : Nat) : Int)) = w6 := ⟨_, rfl⟩
    have HBW := Lib.hid (show Box w6 w4.heap.size (bCells (s.data.toList.set p (z ^^^ 1))) by
      have h := box_set BX.out p (.int .u8 ((z ^^^ 1).toNat : Int))
      rw [bCells_set, UInt8.toNat_xor] at h
      rw [← hw6]; exact h)
    have A6 : Below w4.heap.size w4 w6 := by rw [← hw6]; exact BB.out.setCell (Nat.le_refl _) _
    have z6 : w6.heap.size = w5.heap.size := by rw [← hw6, World.size_setCell]
    have HA6 := Lib.hid A6
    have O6 := Lib.hid (own_below O4.out A6)
    have S6 := Lib.hid (S4.out.below A6)
    obtain ⟨i0, hi, hz0, hz1, hz2⟩ := info_parts infoStrD
    have O0 := Lib.hid (show (w6.alloc (.cells #[] 9)).ownsRow w5.heap.size 9 1 (.slice (some ⟨w5.heap.size, 0, none⟩) 0 0) 0 [] by
      have h := World.ownsRow_made (e := 9) (size := 1) w6 #[] 0 (Nat.le_refl _) (by unfold maxLen; omega) rfl
      rwa [z6] at h)
    have SR := Lib.hid (show SrcS (w6.alloc (.cells #[] 9)) 1 (some ⟨g2, 0, none⟩) q (L.map .string) by
      have h := src_str (S6.out.below (below_alloc w6 (.cells #[] 9)))
      rwa [HQ.out] at h)
    obtain ⟨M, hM⟩ : ∃ M, s.data.toList.set p (z ^^^ 1) = M := ⟨_, rfl⟩
    rw [hM] at HBW
    have hML : M.length = s.size := by rw [← hM, List.length_set]; rfl
    have HM := Lib.hid hM
    clear hz A6 hM
    go_wp2_with (at_builtin; refine wpList_append_src _ rfl _ _ 25 rfl w5.heap.size 9 i0 (.string ⟨#[]⟩) 1 16 Tryd.underlying25 hi hz0 hz1 hz2 rfl (by decide) _ 0 [] rfl O0.out (some ⟨g2, 0, none⟩) q c2 (L.map .string) rfl SR.out (fun u hu => by obtain ⟨y, _, rfl⟩ := List.mem_map.1 hu; rfl) (by unfold maxLen; omega) (by omega) (by rw [World.size_alloc]; omega) ?_; intro v7 w7 o7 g7 _)
    have B7 := Lib.hid (show Below w6.heap.size w6 w7 from (below_alloc w6 _).grown g7 (by simp) (fun k hk => by have := (O0.out.lt k hk).1; omega))
    have O7 := Lib.hid (show w7.ownsRow w5.heap.size 9 1 v7 q (L.map .string) by have h := o7; rwa [Nat.zero_add, List.nil_append] at h)
    clear o7 g7
    obtain ⟨a7, c7, rfl⟩ := own_shape O7.out
    obtain ⟨g7, rfl, hqc7, hg7, hg7w⟩ := own_partsG O7.out (by omega)
    have HBW7 := Lib.hid (HBW.out.below B7.out)
    have hcv := run_convert_bytes_back (P := Tryd.prog) w7 22 9 5 ⟨w4.heap.size, 0, none⟩ cap M Tryd.underlying22 Tryd.underlying5 Tryd.underlying9 (fun i hi => by
      rw [addr_add, Nat.zero_add]
      exact (HBW7.out i _ (bCells_get hi)).1)
    rw [hML] at hcv
    obtain ⟨⟨vo, co⟩, fo⟩ := own_cells O7.out (Below.refl _ _) k (by omega)
    obtain ⟨w8, hw8⟩ : ∃ w8, w7.setCell ⟨g7, k, none⟩ (.string ⟨M.toArray⟩) = w8 := ⟨_, rfl⟩
    have O8 := Lib.hid (show w8.ownsRow w5.heap.size 9 1 (.slice (some ⟨g7, 0, none⟩) q c7) q ((L.set k ⟨M.toArray⟩).map .string) by
      rw [List.map_set, ← hw8]
      exact (O7.out.stored k (.string ⟨M.toArray⟩)).1)
    have B8 := Lib.hid (show Below w6.heap.size w6 w8 by rw [← hw8]; exact B7.out.setCell (by rw [z6]; exact hg7) _)
    clear hw6
    go_wp2_with fail
    rw [hcv]
    go_wp2_with fail
    have hfrg := byte_get HFR.out HPB.out HQP.out hkq HSB.out hps HZ.out HM.out
    obtain ⟨L8, hL8⟩ : ∃ L8, L.set k ⟨M.toArray⟩ = L8 := ⟨_, rfl⟩
    rw [hL8] at hfrg O8
    have hln8 : L8.length = q := by rw [← hL8, List.length_set, HQ.out]
    have hsm8 : ∀ y ∈ L8, y.size ≤ 200 := fun y hy => by
      rw [← hL8] at hy
      rcases List.mem_or_eq_of_mem_set hy with h | h
      · exact HLS.out y h
      · rw [h]; show M.toArray.size ≤ 200; rw [List.size_toArray, hML]; exact hss
    have HLN := Lib.hid hln8
    have HSM := Lib.hid hsm8
    have S8 := Lib.hid (own_str (by rw [hln8]; unfold maxLen; omega) (fun y hy => by have := hsm8 y hy; unfold maxLen; omega) (by rw [hln8]; exact O8.out))
    have hsum : sumSize L8 ≤ 1048576 := by
      have h := sum_smallB hsm8
      rw [hln8] at h
      have : q * (200 + 1) ≤ 15 * 201 := Nat.mul_le_mul hLn (Nat.le_refl _)
      omega
    have HSU := Lib.hid hsum
    have B48 := Lib.hid (HA6.out.trans (B8.out.mono (by omega)))
    have B08 := Lib.hid (B4.out.trans (B48.out.mono (by omega)))
    clear hL8 hln8 hsm8 hsum hxor yc yf kc hcv vo co fo hML
    obtain ⟨⟨Y, m⟩, hY⟩ : ∃ Y, getI t n L8 = Y := ⟨_, rfl⟩
    rw [hY] at hfrg
    have HY := Lib.hid hY
    have HFG := Lib.hid hfrg
    clear hY hfrg
    refine (implGet_isB HLN.out HY.out (by omega) (by omega) _ _ _ S8.out hqc7 (by omega) HSU.out (HTab.out.below B08.out)).mono ?_
    rintro e w9 ⟨rfl, b9⟩
    have B9 := Lib.hid (B48.out.trans (b9.mono (by have := B48.out.size; omega)))
    have S9 := Lib.hid (S8.out.below b9)
    have B09 := Lib.hid (B4.out.trans (B9.out.mono (by omega)))
    have ck9 := HCK.out w9 B9.out
    clear b9 ck
    obtain ⟨C, hC⟩ : ∃ C, 15 + (headL t.toNat n.toNat k q).length = C := ⟨_, rfl⟩
    obtain ⟨hCs, hC16, hC58, hCn, hCh, -⟩ := blk_colon HSB.out hC
    have HCC := Lib.hid hC
    have HC58 := Lib.hid hC58
    have HCN := Lib.hid hCn
    have HCH := Lib.hid hCh
    clear hC hC58 hCn hCh
    go_wp2_with fail
    go_loop [15] (fun i => ∃ j : Nat, 16 ≤ j ∧ j ≤ C ∧ i = .int .i64 j) (fun i => C - (intOf i).toNat)
    case atStart => exact ⟨16, Nat.le_refl _, hC16, rfl⟩
    case round =>
      obtain ⟨j, hj16, hjC, rfl⟩ := hrel
      have hjs : j < s.size := by omega
      have hjs2 : (j : Int) < (s.size : Int) := by omega
      have hj0 : (0 : Int) ≤ (j : Int) := by omega
      by_cases hjc : j = C
      · subst hjc
        have q1 : ((s[j].toNat : Int) == 58) = true := by rw [HC58.out hjs]; rfl
        have q2 : ((s[j].toNat : Int) != 58) = false := by rw [HC58.out hjs]; rfl
        rcases HFG.out with hE | ⟨y, hE, hyq, hpC, hsum, hgt⟩
        · obtain ⟨rfl, rfl⟩ := Prod.ext_iff.1 hE
          go_wp2
          go_ret
          exact ⟨rfl, B09.out⟩
        · obtain ⟨rfl, rfl⟩ := Prod.ext_iff.1 hE
          have hpj : ¬ (p : Int) ≤ (j : Int) := by have := HCC.out; omega
          have hpj2 : ¬ p ≤ j := by have := HCC.out; omega
          have HGT := Lib.hid hgt
          have HSUM := Lib.hid hsum
          have HYQ := Lib.hid hyq
          clear hgt hsum hE hpC hyq
          go_wp2_with fail
          have hYl : (mkB (Y.data.toList.take (140 * m))) = Y := by
            rw [List.take_of_length_le (by have h := parts_fit Y.size; rw [HYQ.out] at h; exact h), mkB_of]
          have HYL := Lib.hid hYl
          clear hYl
          obtain ⟨T, hT⟩ : ∃ T, t.toNat = T := ⟨_, rfl⟩
          obtain ⟨N, hN⟩ : ∃ N, n.toNat = N := ⟨_, rfl⟩
          rw [hT, hN] at HGT HSUM HCH HCC
          clear hT hN
          go_loop [16, 17] (fun o i => ∃ d : Nat, d ≤ m ∧ i = .int .i64 d ∧ o = .string (mkB (Y.data.toList.take (140 * d)))) (fun _ i => m - (intOf i).toNat)
          case atStart => exact ⟨0, Nat.zero_le _, rfl, by rw [Nat.mul_zero, List.take_zero]; rfl⟩
          case round =>
            obtain ⟨d, hd, rfl, rfl⟩ := hrel
            by_cases hlt : d < m
            · have hdL : d < L8.length := by rw [HLN.out]; exact hlt
              obtain ⟨sd, hsd⟩ : ∃ sd, L8[d] = sd := ⟨_, rfl⟩
              have hsdb : sd.data.toList = blockL T N m d Y.data.toList := by
                have h := HGT.out d hlt
                unfold lists at h
                rw [List.getElem?_map, List.getElem?_eq_getElem hdL, hsd] at h
                exact Option.some.inj h
              have cd : w9.cell? ⟨g7, d, none⟩ = some (.string sd) := by
                rcases S9.out.2.2 with h | ⟨b, o, e, h⟩
                · rw [h] at hdL; simp at hdL
                · cases e
                  have := h d hdL
                  rwa [Nat.zero_add, hsd] at this
              have hsds : sd.size ≤ 200 := by rw [← hsd]; exact HSM.out _ (List.getElem_mem hdL)
              obtain ⟨D, hD⟩ : ∃ D, 15 + (headL T N d m).length = D := ⟨_, rfl⟩
              obtain ⟨hDs, hD16, hD58, hDn, -, hDe⟩ := blk_colon hsdb hD
              have hd0 : (0 : Int) ≤ (d : Int) := by omega
              have hdm : (d : Int) < (m : Int) := by omega
              have HD58 := Lib.hid hD58
              have HDN := Lib.hid hDn
              have HDE := Lib.hid (show mkB (Y.data.toList.take (140 * d)) ++ sd.extract (D + 1) sd.size = mkB (Y.data.toList.take (140 * (d + 1))) by
                rw [hDe]
                refine bytes_ext ?_
                rw [ByteArray.data_append, Array.toList_append, mkB_list, mkB_list, mkB_list, show 140 * (d + 1) = 140 * d + 140 by omega, List.take_add]
                rfl)
              obtain ⟨E, hE⟩ : ∃ E, mkB (Y.data.toList.take (140 * d)) = E := ⟨_, rfl⟩
              have hES : E.size ≤ 3000 := by
                have h := parts_fit Y.size
                rw [HYQ.out] at h
                have h2 : (Y.data.toList.take (140 * d)).length ≤ Y.size := by rw [List.length_take]; exact Nat.min_le_right _ _
                rw [← hE, mkB_size]; omega
              rw [hE] at HDE ⊢
              clear hE hD hD58 hDn hDe hsdb hsd
              go_wp2_with fail
              go_loop [18] (fun i => ∃ f : Nat, 16 ≤ f ∧ f ≤ D ∧ i = .int .i64 f) (fun i => D - (intOf i).toNat)
              case atStart => exact ⟨16, Nat.le_refl _, hD16, rfl⟩
              case round =>
                obtain ⟨f, hf16, hfD, rfl⟩ := hrel
                have hfs : f < sd.size := by omega
                have hfs2 : (f : Int) < (sd.size : Int) := by omega
                have hf0 : (0 : Int) ≤ (f : Int) := by omega
                by_cases hfc : f = D
                · subst hfc
                  have q1 : ((sd[f].toNat : Int) == 58) = true := by rw [HD58.out hfs]; rfl
                  have q2 : ((sd[f].toNat : Int) != 58) = false := by rw [HD58.out hfs]; rfl
                  have e1 : (0 : Int) ≤ (f : Int) + 1 := by omega
                  have e2 : (f : Int) + 1 ≤ (sd.size : Int) := by omega
                  have e3 : ¬ 9223372036854775807 < E.size + (sd.size - (f + 1)) := by omega
                  go_wp2_with fail
                  go_round
                  case rel => exact ⟨d + 1, by omega, by go_num, by first | rfl | rw [HDE.out]⟩
                  case measure => simp [intOf]; omega
                · have hne := HDN.out f hfs (by omega) hf16
                  have q1 : ((sd[f].toNat : Int) == 58) = false := by
                    rw [beq_eq_false_iff_ne]
                    intro e
                    exact hne (UInt8.toNat_inj.1 (by simpa using (by omega : sd[f].toNat = 58)))
                  have q2 : ((sd[f].toNat : Int) != 58) = true := by simpa using q1
                  clear hne
                  go_wp2
                  go_round
                  case rel => exact ⟨f + 1, by omega, by omega, by go_num⟩
                  case measure => simp [intOf]; omega
            · obtain rfl : d = m := by omega
              rw [HYL.out]
              have e1 : (0 : Int) ≤ (j : Int) + 1 := by omega
              have e2 : (j : Int) + 1 ≤ (s.size : Int) := by omega
              have e3 : (16 : Int) ≤ (j : Int) + 1 := by omega
              go_wp2_with fail
              obtain ⟨u1, hu1⟩ : ∃ u, shaS (headB T N k d ++ x) = u := ⟨_, rfl⟩
              obtain ⟨u2, hu2⟩ : ∃ u, shaS (headB T N k d ++ Y) = u := ⟨_, rfl⟩
              have hs1 : u1.size = 64 := by rw [← hu1]; exact shaS_size _
              have hs2 : u2.size = 64 := by rw [← hu2]; exact shaS_size _
              have hue : u1.extract 0 16 = u2.extract 0 16 := by
                refine bytes_ext ?_
                rw [Lib.extract_data, Lib.extract_data]
                rw [← hu1, ← hu2]
                show ((shaL (headB T N k d ++ x).data.toList).drop 0).take 16 = ((shaL (headB T N k d ++ Y).data.toList).drop 0).take 16
                rw [ByteArray.data_append, ByteArray.data_append, Array.toList_append, Array.toList_append]
                exact HSUM.out
              have hq1 : ((u1.extract 0 16).toList == (u2.extract 0 16).toList) = true := by rw [hue]; simp
              have hhs : (headB T N k d).size ≤ 200 := by
                rw [← HCH.out, ByteArray.size_extract]; omega
              have hm1 : (headB T N k d ++ x).size ≤ 549755813888 := by rw [ByteArray.size_append]; omega
              have hYs : Y.size ≤ 3000 := by have h := parts_fit Y.size; rw [HYQ.out] at h; omega
              have hm2 : (headB T N k d ++ Y).size ≤ 549755813888 := by rw [ByteArray.size_append]; omega
              have hk1 : ¬ 9223372036854775807 < (headB T N k d).size + x.size := by omega
              have hk2 : ¬ 9223372036854775807 < (headB T N k d).size + Y.size := by omega
              have HU1 := Lib.hid hu1
              have HU2 := Lib.hid hu2
              clear hu1 hu2 hue
              try rw [HCH.out]
              go_region_held3 (fun W => Below w9.heap.size w9 W) (first | exact (Below.refl _ _).drew | exact C7 | exact C8)
                (first
                  | (go_at_call 12; refine (specHash_isB HU1.out hm1 _).mono ?_; rintro e w10 ⟨rfl, b10⟩; have C7 : Below w9.heap.size w9 w10 := (Below.refl _ _).drew.trans b10; have mk := C7)
                  | (go_at_call 12; refine (specHash_isB HU2.out hm2 _).mono ?_; rintro e w11 ⟨rfl, b11⟩; have C8 : Below w9.heap.size w9 w11 := C7.trans (b11.mono C7.size)))
              go_wp2
              go_ret
              exact ⟨rfl, B09.out.trans (C8.mono B09.out.size)⟩
      · have hne := HCN.out j hjs (by omega) hj16
        have q1 : ((s[j].toNat : Int) == 58) = false := by
          rw [beq_eq_false_iff_ne]
          intro e
          exact hne (UInt8.toNat_inj.1 (by simpa using (by omega : s[j].toNat = 58)))
        have q2 : ((s[j].toNat : Int) != 58) = true := by simpa using q1
        clear hne
        go_wp2
        go_round
        case rel => exact ⟨j + 1, by omega, by omega, by go_num⟩
        case measure => simp [intOf]; omega
theorem fnFrameByteWalk (a0 : Option Addr) (c0 : Nat) (l0 : List UInt8) (hl0 : l0.length ≤ c0) (hc0 : c0 ≤ maxLen) {w : World} (h0 : BytesS w a0 l0) (a : Option Addr) (c : Nat) (l : List UInt8) (_hl : l.length ≤ c) (hc : c ≤ maxLen) (_h : BytesS w a l) (h1 : HashT w) (h2 : Lib.TabIs Tryd.prog w "internal/strconv.uint64pow10" .u64 Lib.pow10Tab) :
    Calls Tryd.prog 3 #[.slice a0 l0.length c0, .slice a l.length c] w fun e w' => e = .returned (.bool true) ∧ Below w.heap.size w w' :=
  fnFrameByteWalk0 a0 c0 l0 hl0 hc0 a c l hc h0 ⟨h1, h2⟩
end Go.Proofs.YtgjfflfldddebaaDoor
