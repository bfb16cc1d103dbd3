import Derived.Test.YtgjfflfldddebaaDoorFrameGS
import Derived.Test.YtgjfflfldddebaaDoorFramePutI
import Derived.Test.YtgjfflfldddebaaDoorBuild
import Derived.Test.YtgjfflfldddebaaDoorCut
import Derived.Deep.RegionHeld3
/- FrameGet of the program: how many parts are told of, and the pieces put together. -/
namespace Go.Proofs.YtgjfflfldddebaaDoor
open Go Go.RowKit

def itoaB (n : Int) : ByteArray := ⟨(Lib.itoa n).toArray⟩
/-- what stands ahead of how many parts there are, in a first block -/
def aheadB (t n : Int) : ByteArray := itoaB t ++ ⟨#[32]⟩ ++ itoaB n ++ ⟨#[32, 48, 32]⟩
def trimB (s p : ByteArray) : ByteArray := ⟨(Lib.trimPrefix s.data.toList p.data.toList).toArray⟩
def hasB (s p : ByteArray) : Bool := Lib.hasPrefix s.data.toList p.data.toList
theorem cutPre_any (s p : ByteArray) (w : World) : Calls Tryd.prog 55 #[.string s, .string p] w fun e w' => e = .returned (.tuple #[.string (trimB s p), .bool (hasB s p)]) ∧ w = w' :=
  (Tryd.strings_CutPrefix s p w).mono fun _ _ ⟨h, k⟩ => ⟨h, k.symm⟩
theorem trimB_size (s p : ByteArray) : (trimB s p).size ≤ s.size := by
  show (Lib.trimPrefix s.data.toList p.data.toList).toArray.size ≤ _
  rw [List.size_toArray]
  unfold Lib.trimPrefix
  have h : s.data.toList.length = s.size := by simp
  split
  · rw [List.length_drop]; omega
  · omega
theorem trim_of {s p : ByteArray} {r : List UInt8} (h : s.data.toList = p.data.toList ++ r) : hasB s p = true ∧ trimB s p = mkB r := by
  have h1 : hasB s p = true := by
    unfold hasB Lib.hasPrefix
    rw [h, List.isPrefixOf_iff_prefix]
    exact List.prefix_append _ _
  refine ⟨h1, ?_⟩
  unfold trimB Lib.trimPrefix
  rw [show Lib.hasPrefix s.data.toList p.data.toList = true from h1, if_pos rfl, h, List.drop_left]
  rfl
/-- how many parts the first block tells of -/
def toldN (f : ByteArray) (m : Nat) : Nat := if numOk f.data.toList = true then (if numV f.data.toList ≤ m ∧ numV f.data.toList ≤ 15 then numV f.data.toList else 0) else 0
def toldI (t n : Int) (l : List ByteArray) : Nat :=
  if (l.headD ⟨#[]⟩).size < 16 then 0
  else if hasB ((l.headD ⟨#[]⟩).extract 16 (l.headD ⟨#[]⟩).size) (aheadB t n) = false then 0
  else toldN (cutA (trimB ((l.headD ⟨#[]⟩).extract 16 (l.headD ⟨#[]⟩).size) (aheadB t n))) l.length
theorem toldN_le (f : ByteArray) (m : Nat) : toldN f m ≤ m ∧ toldN f m ≤ 15 := by
  unfold toldN
  split
  · split <;> omega
  · omega
theorem toldI_le (t n : Int) (l : List ByteArray) : toldI t n l ≤ l.length ∧ toldI t n l ≤ 15 := by
  unfold toldI
  split
  · omega
  · split
    · omega
    · exact toldN_le _ _

theorem cutA_sz (s : ByteArray) : (cutA s).size ≤ s.size := by
  unfold cutA
  show (List.toArray _).size ≤ _
  rw [List.size_toArray, List.length_take]
  have : s.data.toList.length = s.size := by simp
  omega

set_option maxRecDepth 100000 in
set_option maxHeartbeats 2000000 in
theorem frameTold_any (t n : Int) (ht : -9223372036854775808 ≤ t ∧ t ≤ 9223372036854775807) (hn : -9223372036854775808 ≤ n ∧ n ≤ 9223372036854775807) (a : Option Addr) (c : Nat) (l : List ByteArray) (w : World) (hl : StrS w a l) (hlen : l.length ≤ 1048576)
    (htab : Lib.TabIs Tryd.prog w "internal/strconv.uint64pow10" .u64 Lib.pow10Tab) :
    Calls Tryd.prog 32 #[.int .i64 t, .int .i64 n, .slice a l.length c] w fun e w' => e = .returned (.int .i64 (toldI t n l)) ∧ Below w.heap.size w w' := by
  by_cases h0 : l.length = 0
  · have HN := Lib.hid (show toldI t n l = 0 by
      have : l = [] := List.eq_nil_of_length_eq_zero h0
      subst this; rfl)
    have q0 : ((l.length : Int) == 0) = true := by rw [h0]; rfl
    clear hl h0
    go_enter Tryd.func32, Tryd.ntmps32
    go_wp2
    go_ret
    exact ⟨ret_int (by rw [HN.out]; rfl), Below.refl _ _⟩
  have hp : 0 < l.length := by omega
  have hpi : (0 : Int) < (l.length : Int) := by omega
  obtain ⟨b, o, rfl, hcell⟩ := hl.2.2.resolve_left (fun e => by subst e; simp at hp)
  have hsz := hl.2.1 l[0] (List.getElem_mem _)
  unfold maxLen at hsz
  have q0 : ((l.length : Int) == 0) = false := by rw [beq_eq_false_iff_ne]; omega
  have c0 : w.cell? ⟨b, o, none⟩ = some (.string l[0]) := hcell 0 hp
  have HH := Lib.hid (hd_get (d := ⟨#[]⟩) hp)
  obtain ⟨b0, hb0⟩ : ∃ b0, b0 = l[0] := ⟨_, rfl⟩
  rw [← hb0] at HH hsz c0
  have HT := Lib.hid htab
  clear hl h0 hcell hb0 htab
  by_cases h16 : b0.size < 16
  · have h16i : (b0.size : Int) < 16 := by omega
    have HN := Lib.hid (show toldI t n l = 0 by unfold toldI; rw [← HH.out, if_pos h16])
    go_enter Tryd.func32, Tryd.ntmps32
    go_wp2
    go_ret
    exact ⟨ret_int (by rw [HN.out]; rfl), Below.refl _ _⟩
  have h16i : (16 : Int) ≤ (b0.size : Int) := by omega
  have hlt : b < w.heap.size := by have := World.block_lt_of_cell? w _ c0; simpa using this
  have z1 := itoa_size ht.1 ht.2
  have z2 := itoa_size hn.1 hn.2
  have HA := Lib.hid (show (⟨(Lib.itoa t).toArray⟩ : ByteArray) ++ ⟨#[32]⟩ ++ ⟨(Lib.itoa n).toArray⟩ ++ ⟨#[32, 48, 32]⟩ = aheadB t n from rfl)
  obtain ⟨x, hx⟩ : ∃ x, x = b0.extract 16 b0.size := ⟨_, rfl⟩
  have HX := Lib.hid hx
  have hxs : x.size ≤ b0.size := by rw [hx, ByteArray.size_extract]; omega
  have C0 := Lib.hid c0
  have HN0 := Lib.hid (show toldI t n l = if hasB x (aheadB t n) = false then 0 else toldN (cutA (trimB x (aheadB t n))) l.length by unfold toldI; rw [← HH.out, if_neg h16, hx])
  clear hx h16
  go_enter Tryd.func32, Tryd.ntmps32
  go_wp2_with fail
  refine (Tryd.strconv_Itoa t ht.1 ht.2 _ HT.out).mono ?_
  rintro e w1 ⟨rfl, k1, os1, rfl⟩
  have B1 := Lib.hid (below_grow w k1 os1)
  generalize Go.Sort.grow (w.drewN k1) os1 = w1 at B1 ⊢
  have T1 := Lib.hid (tab_below HT.out B1.out)
  generalize (⟨(Lib.itoa t).toArray⟩ : ByteArray) = d1 at HA z1 ⊢
  have f1 : ¬ 9223372036854775807 < d1.size + 1 := by omega
  go_wp2_with fail
  refine (Tryd.strconv_Itoa n hn.1 hn.2 _ T1.out).mono ?_
  rintro e w2 ⟨rfl, k2, os2, rfl⟩
  have b2 := below_grow w1 k2 os2
  generalize Go.Sort.grow (w1.drewN k2) os2 = w2 at b2 ⊢
  have B2 := Lib.hid (B1.out.trans (b2.mono B1.out.size))
  clear b2
  generalize (⟨(Lib.itoa n).toArray⟩ : ByteArray) = d2 at HA z2 ⊢
  have f2 : ¬ 9223372036854775807 < d1.size + 1 + d2.size := by omega
  have f3 : ¬ 9223372036854775807 < d1.size + 1 + d2.size + 3 := by omega
  replace c0 : w2.cell? ⟨b, o, none⟩ = some (.string b0) := by rw [B2.out.cell (by simpa using hlt)]; exact C0.out
  go_wp2_with fail
  rw [HA.out, ← HX.out]
  generalize aheadB t n = ah at HN0 ⊢
  refine (cutPre_any _ _ _).mono ?_
  rintro e w3 ⟨rfl, rfl⟩
  cases hh : hasB x ah with
  | false =>
    have HN := Lib.hid (show toldI t n l = 0 by rw [HN0.out, hh]; rfl)
    clear hh
    go_wp2
    go_ret
    exact ⟨ret_int (by rw [HN.out]; rfl), B2.out⟩
  | true =>
    have HN1 := Lib.hid (show toldI t n l = toldN (cutA (trimB x ah)) l.length by rw [HN0.out, hh]; rfl)
    have hts := trimB_size x ah
    generalize trimB x ah = r at HN1 hts ⊢
    clear hh HN0
    go_wp2_with fail
    refine (cut_any r _ (by unfold maxLen; omega)).mono ?_
    rintro e w3 ⟨rfl, m, rfl⟩
    have B3 := Lib.hid (show Below w.heap.size w (w2.drewN m) from B2.out.trans ((below_drewN (Below.refl _ _) m).mono B2.out.size))
    have hfs := cutA_sz r
    generalize cutA r = f at HN1 hfs ⊢
    generalize w2.drewN m = w3 at B3 ⊢
    clear c0
    go_wp2_with fail
    refine (implNum_any f _ (by unfold maxLen; omega)).mono ?_
    rintro e w4 ⟨rfl, rfl⟩
    have HN2 := Lib.hid (show toldI t n l = if numOk f.data.toList = true then (if numV f.data.toList ≤ l.length ∧ numV f.data.toList ≤ 15 then numV f.data.toList else 0) else 0 by rw [HN1.out]; rfl)
    cases hok : numOk f.data.toList with
    | false =>
      have HN := Lib.hid (show toldI t n l = 0 by rw [HN2.out, hok]; rfl)
      clear hok
      go_wp2
      go_ret
      exact ⟨ret_int (by rw [HN.out]; rfl), B3.out⟩
    | true =>
      have HP := Lib.hid (numP_yes hok)
      have HO := Lib.hid hok
      have hbd : numV f.data.toList < 100000000 := by
        have h1 := hok
        simp [numOk] at h1
        have h2 := numV_bound f.data.toList (by simpa using h1.2)
        have h3 := Nat.pow_le_pow_right (n := 10) (by omega) (show f.data.toList.length ≤ 8 by simpa using h1.1.1.2)
        omega
      rw [HP.out]
      rw [HO.out] at HN2
      generalize numV f.data.toList = v at HN2 hbd ⊢
      clear hok HP HO
      by_cases h1 : l.length < v
      · have HN := Lib.hid (show toldI t n l = 0 by rw [HN2.out, if_pos rfl, if_neg (by omega)])
        have q1 : (l.length : Int) < (v : Int) := by omega
        have q2 : decide (l.length < v) = true := decide_eq_true h1
        clear h1
        go_wp2
        go_ret
        exact ⟨ret_int (by rw [HN.out]; rfl), B3.out⟩
      · have q1 : (v : Int) ≤ (l.length : Int) := by omega
        have q2 : decide (l.length < v) = false := decide_eq_false h1
        by_cases h2 : 15 < v
        · have HN := Lib.hid (show toldI t n l = 0 by rw [HN2.out, if_pos rfl, if_neg (by omega)])
          have q3 : (15 : Int) < (v : Int) := by omega
          clear h1 h2
          go_wp2_with fail
          refine (frameParts_any 2000 (by omega) _).mono ?_
          rintro e w5 ⟨rfl, rfl⟩
          rw [show ((partsN 2000 : Nat) : Int) = 15 from rfl]
          go_wp2
          go_ret
          exact ⟨ret_int (by rw [HN.out]; rfl), B3.out⟩
        · have HN := Lib.hid (show toldI t n l = v by rw [HN2.out, if_pos rfl, if_pos (by omega)])
          have q3 : (v : Int) ≤ (15 : Int) := by omega
          clear h1 h2
          go_wp2_with fail
          refine (frameParts_any 2000 (by omega) _).mono ?_
          rintro e w5 ⟨rfl, rfl⟩
          rw [show ((partsN 2000 : Nat) : Int) = 15 from rfl]
          go_wp2
          go_ret
          exact ⟨ret_int (by rw [HN.out]), B3.out⟩

theorem headI_ahead (t n q : Int) : headI t n 0 q = aheadB t n ++ itoaB q ++ ⟨#[58]⟩ := by
  apply bytes_ext
  have h0 : Lib.itoa 0 = [48] := by
    unfold Lib.itoa
    rw [if_neg (by omega)]
    exact decL_small (n := 0) (by omega)
  simp [headI, aheadB, itoaB, h0]
theorem frame_block {t n : Nat} {x : List UInt8} {l : List ByteArray} (h : FrameIs t n x (lists l)) {i : Nat} (hi : i < partsN x.length) :
    ∃ hl : i < l.length, l[i].data.toList = blockL t n (partsN x.length) i x := by
  have h1 := h.get i hi
  have hl : i < l.length := by
    have := (List.getElem?_eq_some_iff.1 h1).1
    rwa [lists_len] at this
  refine ⟨hl, ?_⟩
  unfold lists at h1
  rw [List.getElem?_map, List.getElem?_eq_getElem hl] at h1
  exact Option.some.inj h1
theorem size_of_list {b : ByteArray} {y : List UInt8} (h : b.data.toList = y) : b.size = y.length := by rw [← h]; simp
theorem block_long (t n q i : Nat) (x : List UInt8) : 16 ≤ (blockL t n q i x).length := by rw [block_len]; omega
theorem told_of {t n : Nat} {x : List UInt8} {l : List ByteArray} (h : FrameIs t n x (lists l)) : toldI t n l = partsN x.length := by
  obtain ⟨hl, h0⟩ := frame_block h (parts_pos _)
  have hlen := h.len
  rw [lists_len] at hlen
  have hhd : l.headD ⟨#[]⟩ = l[0] := (hd_get hl).symm
  have hq15 := parts_le h.1
  have hq1 := parts_pos x.length
  generalize hq : partsN x.length = q at h0 hlen hq15 hq1 ⊢
  have hsz := size_of_list h0
  have h16 := block_long t n q 0 x
  have hx : (l[0].extract 16 l[0].size).data.toList = (aheadB t n).data.toList ++ (decL q ++ 58 :: pieceL x 0) := by
    rw [drop_list, h0, block_drop]
    have e : headL t n 0 q = (headB t n 0 q).data.toList := by simp [headB]
    rw [e, ← headI_nat t n 0 q]
    have e2 := headI_ahead (t : Int) n q
    rw [show (((0 : Nat) : Int)) = 0 from rfl, e2]
    have e3 : (itoaB (q : Int)).data.toList = decL q := by unfold itoaB; rw [itoa_decB]; simp [decB]
    simp [ByteArray.data_append, e3]
  obtain ⟨t1, t2⟩ := trim_of hx
  have hf : (cutA (trimB (l[0].extract 16 l[0].size) (aheadB t n))).data.toList = decL q := by
    rw [t2]
    unfold cutA
    rw [mkB_list, colon_dig (decL_dig q)]
    simp
  unfold toldI
  rw [hhd, if_neg (by omega), t1, if_neg (by simp)]
  unfold toldN
  rw [hf, if_pos (decL_ok (by omega)), decL_num, if_pos ⟨hlen, hq15⟩]

/-- whether a block can be the i-th of q -/
def okP (t n : Int) (q i : Nat) (b : ByteArray) : Bool := decide (16 ≤ b.size) && hasB (b.extract 16 b.size) (headI t n i q)
def pieceP (t n : Int) (q i : Nat) (b : ByteArray) : ByteArray := trimB (b.extract 16 b.size) (headI t n i q)
def catP (t n : Int) (q : Nat) (l : List ByteArray) : Nat → ByteArray
  | 0 => ⟨#[]⟩
  | k + 1 => catP t n q l k ++ pieceP t n q k (l.getD k ⟨#[]⟩)
theorem catP_succ (t n : Int) (q : Nat) {l : List ByteArray} {k : Nat} (h : k < l.length) : catP t n q l (k + 1) = catP t n q l k ++ pieceP t n q k l[k] := by
  rw [catP, List.getD_eq_getElem?_getD, List.getElem?_eq_getElem h]; rfl
theorem pieceP_size (t n : Int) (q i : Nat) (b : ByteArray) : (pieceP t n q i b).size ≤ b.size := by
  have := trimB_size (b.extract 16 b.size) (headI t n i q)
  rw [ByteArray.size_extract] at this
  unfold pieceP
  omega
theorem catP_size (t n : Int) (q : Nat) (l : List ByteArray) : ∀ k, k ≤ l.length → (catP t n q l k).size ≤ sumSize (l.take k)
  | 0, _ => Nat.zero_le _
  | k + 1, h => by
    rw [catP_succ t n q (show k < l.length by omega), ByteArray.size_append, sumSize_take l k (by omega)]
    have := catP_size t n q l k (by omega)
    have := pieceP_size t n q k l[k]
    omega
def joinOk (t n : Int) (l : List ByteArray) : Bool := (List.range l.length).all fun i => okP t n l.length i (l.getD i ⟨#[]⟩)
def joinI (t n : Int) (l : List ByteArray) : ByteArray × Bool := if joinOk t n l then (catP t n l.length l l.length, true) else (⟨#[]⟩, false)
theorem joinI_no {t n : Int} {l : List ByteArray} {i : Nat} (hi : i < l.length) (h : okP t n l.length i l[i] = false) : joinI t n l = (⟨#[]⟩, false) := by
  have : joinOk t n l = false := by
    unfold joinOk
    rw [List.all_eq_false]
    refine ⟨i, List.mem_range.2 hi, ?_⟩
    rw [List.getD_eq_getElem?_getD, List.getElem?_eq_getElem hi, Option.getD_some, h]
    simp
  unfold joinI
  rw [this]; rfl
theorem joinI_yes {t n : Int} {l : List ByteArray} (h : ∀ i, (hi : i < l.length) → okP t n l.length i l[i] = true) : joinI t n l = (catP t n l.length l l.length, true) := by
  have : joinOk t n l = true := by
    unfold joinOk
    rw [List.all_eq_true]
    intro i hi
    rw [List.mem_range] at hi
    rw [List.getD_eq_getElem?_getD, List.getElem?_eq_getElem hi, Option.getD_some]
    exact h i hi
  unfold joinI
  rw [this]; rfl
theorem joinI_size (t n : Int) (l : List ByteArray) : (joinI t n l).1.size ≤ sumSize l := by
  unfold joinI
  split
  · have := catP_size t n l.length l l.length (Nat.le_refl _)
    rwa [List.take_length] at this
  · exact Nat.zero_le _
end Go.Proofs.YtgjfflfldddebaaDoor
