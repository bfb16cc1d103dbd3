import Derived.Test.YtgjfflfldddebaaDoorFrameP
import Derived.Test.YtgjfflfldddebaaDoorHashS
import Derived.Test.YtgjfflfldddebaaDoorDec
import Derived.WalkSpells
import Derived.OwnWalk
import Derived.Deep.LoopGhost
/- Blocks of the model: l3Block, l3Put, FramePut. -/
namespace Go.Proofs.YtgjfflfldddebaaDoor
open Go Go.RowKit

def headB (t n p q : Nat) : ByteArray := ⟨(headL t n p q).toArray⟩
/-- a block of the bytes s, of a text -/
def blockB (t n p q : Nat) (s all : ByteArray) : ByteArray := ⟨((shaL (headL t n p q ++ all.data.toList)).take 16 ++ (headL t n p q ++ s.data.toList)).toArray⟩
theorem headB_eq (t n p q : Nat) : decB t ++ ⟨#[32]⟩ ++ decB n ++ ⟨#[32]⟩ ++ decB p ++ ⟨#[32]⟩ ++ decB q ++ ⟨#[58]⟩ = headB t n p q := by
  apply bytes_ext
  simp [headB, headL, decB, decL]
theorem headB_size {t n p q : Nat} (ht : t < 100000000) (hn : n < 100000000) (hp : p < 100) (hq : q < 100) : (headB t n p q).size ≤ 24 := by
  show (headL t n p q).toArray.size ≤ 24
  rw [List.size_toArray]; exact head_len ht hn hp hq
theorem headB_size8 {t n p q : Nat} (ht : t < 100000000) (hn : n < 100000000) (hp : p < 100000000) (hq : q < 100000000) : (headB t n p q).size ≤ 36 := by
  show (headL t n p q).toArray.size ≤ 36
  rw [List.size_toArray]
  have h1 := decL_len 7 t (by omega)
  have h2 := decL_len 7 n (by omega)
  have h3 := decL_len 7 p (by omega)
  have h4 := decL_len 7 q (by omega)
  simp only [headL, List.length_append, List.length_cons, List.length_nil]
  omega
theorem decB_le {n : Nat} (h : n < 100000000) : (decB n).size ≤ 8 := by
  show (Lib.decDigits n).toArray.size ≤ 8
  rw [List.size_toArray]; exact decL_len 7 n (by omega)
theorem blockB_eq (t n p q : Nat) (s all : ByteArray) : (shaS (headB t n p q ++ all)).extract 0 16 ++ headB t n p q ++ s = blockB t n p q s all := by
  apply bytes_ext
  rw [ByteArray.data_append, ByteArray.data_append, Array.toList_append, Array.toList_append, Lib.extract_data]
  simp [blockB, headB, shaS]
theorem blockB_size {t n p q : Nat} (ht : t < 100000000) (hn : n < 100000000) (hp : p < 100) (hq : q < 100) (s all : ByteArray) : (blockB t n p q s all).size ≤ 40 + s.size := by
  show (List.toArray _).size ≤ _
  rw [List.size_toArray, List.length_append, sixteen, List.length_append]
  have := head_len ht hn hp hq
  have e : s.data.toList.length = s.size := by simp
  omega

set_option maxRecDepth 100000 in
set_option maxHeartbeats 1000000 in
theorem l3Block_any (t n p q : Nat) (ht : t < 100000000) (hn : n < 100000000) (hp : p < 100000000) (hq : q < 100000000) (s all : ByteArray) (hs : s.size ≤ 1073741824) (ha : all.size ≤ 1073741824) (w : World) :
    Calls Tryd.prog 53 #[.int .i64 t, .int .i64 n, .int .i64 p, .int .i64 q, .string s, .string all] w fun e w' => e = .returned (.string (blockB t n p q s all)) ∧ Below w.heap.size w w' := by
  have HH := Lib.hid (headB_eq t n p q)
  have HB := Lib.hid (blockB_eq t n p q s all)
  have hhs := headB_size8 ht hn hp hq
  have d1s := decB_le ht
  have d2s := decB_le hn
  have d3s := decB_le (show p < 100000000 by omega)
  have d4s := decB_le (show q < 100000000 by omega)
  go_enter Tryd.func53, Tryd.ntmps53
  go_wp2_with fail
  refine (dec_any t w (by omega)).mono ?_
  rintro e w1 ⟨rfl, b1⟩
  have B1 := Lib.hid b1
  clear b1
  generalize decB t = d1 at HH d1s ⊢
  have f1 : ¬ 9223372036854775807 < d1.size + 1 := by omega
  go_wp2_with fail
  refine (dec_any n _ (by omega)).mono ?_
  rintro e w2 ⟨rfl, b2⟩
  have B2 := Lib.hid (B1.out.trans (b2.mono B1.out.size))
  clear b2
  generalize decB n = d2 at HH d2s ⊢
  have f2 : ¬ 9223372036854775807 < d1.size + 1 + d2.size := by omega
  have f3 : ¬ 9223372036854775807 < d1.size + 1 + d2.size + 1 := by omega
  go_wp2_with fail
  refine (dec_any p _ (by omega)).mono ?_
  rintro e w3 ⟨rfl, b3⟩
  have B3 := Lib.hid (B2.out.trans (b3.mono B2.out.size))
  clear b3
  generalize decB p = d3 at HH d3s ⊢
  have f4 : ¬ 9223372036854775807 < d1.size + 1 + d2.size + 1 + d3.size := by omega
  have f5 : ¬ 9223372036854775807 < d1.size + 1 + d2.size + 1 + d3.size + 1 := by omega
  go_wp2_with fail
  refine (dec_any q _ (by omega)).mono ?_
  rintro e w4 ⟨rfl, b4⟩
  have B4 := Lib.hid (B3.out.trans (b4.mono B3.out.size))
  clear b4
  generalize decB q = d4 at HH d4s ⊢
  have f6 : ¬ 9223372036854775807 < d1.size + 1 + d2.size + 1 + d3.size + 1 + d4.size := by omega
  have f7 : ¬ 9223372036854775807 < d1.size + 1 + d2.size + 1 + d3.size + 1 + d4.size + 1 := by omega
  go_wp2_with fail
  rw [HH.out]
  generalize headB t n p q = hd at HB hhs ⊢
  refine (specHash_any (hd ++ all) (by rw [ByteArray.size_append]; omega) _).mono ?_
  rintro e w5 ⟨rfl, b5⟩
  have B5 := Lib.hid (B4.out.trans (b5.mono B4.out.size))
  have hsz := shaS_size (hd ++ all)
  clear b5
  generalize shaS (hd ++ all) = sm at HB hsz ⊢
  have hex : (sm.extract 0 16).size = 16 := by rw [ByteArray.size_extract, hsz]; rfl
  have HE := Lib.hid hex
  have g1 : ¬ 9223372036854775807 < 16 + hd.size := by omega
  have g2 : ¬ 9223372036854775807 < 16 + hd.size + s.size := by omega
  clear hex
  go_wp2
  go_ret
  exact ⟨ret_str HB.out, B5.out⟩

/-- the blocks of a text -/
def putB (t n : Nat) (x : ByteArray) : List ByteArray := (putL t n x.data.toList).map fun l => ⟨l.toArray⟩
/-- the piece number i -/
def pieceB (x : ByteArray) (i : Nat) : ByteArray := x.extract (140 * i) (min (140 * i + 140) x.size)
theorem pieceB_list (x : ByteArray) (i : Nat) : (pieceB x i).data.toList = pieceL x.data.toList i := by
  unfold pieceB pieceL
  rw [Lib.extract_data]
  have hl : x.data.toList.length = x.size := by simp
  by_cases h : 140 * i + 140 ≤ x.size
  · rw [Nat.min_eq_left h, show 140 * i + 140 - 140 * i = 140 by omega]
  · rw [Nat.min_eq_right (by omega), List.take_of_length_le (by rw [List.length_drop, hl]; exact Nat.le_refl _), List.take_of_length_le (by rw [List.length_drop, hl]; omega)]
theorem putB_len (t n : Nat) (x : ByteArray) : (putB t n x).length = partsN x.size := by simp [putB, putL_len]
theorem putB_get (t n : Nat) (x : ByteArray) (i : Nat) (h : i < (putB t n x).length) : (putB t n x)[i] = blockB t n i (partsN x.size) (pieceB x i) x := by
  have hl : x.data.toList.length = x.size := by simp
  apply bytes_ext
  simp only [putB, putL, List.getElem_map, List.getElem_range, hl]
  simp [blockB, blockL, pieceB_list]
/-- it answers texts of its own -/
def OutS (w : World) (l : List ByteArray) (e : Ending) (w' : World) : Prop := ∃ v, e = .returned v ∧ w'.ownsRow w.heap.size 9 1 v l.length (l.map .string) ∧ Below w.heap.size w w'
theorem infoStrF : (Tryd.prog.info? 9).map (fun i => (i.zero, i.size, i.bytes)) = some (some (.string ⟨#[]⟩), 1, 16) := by kernel_rfl

theorem l3Piece_any (w : World) : Calls Tryd.prog 52 #[] w fun e w' => e = .returned (.int .i64 140) ∧ w = w' := by
  go_enter Tryd.func52, Tryd.ntmps52
  go_wp2
  go_ret
  exact ⟨rfl, rfl⟩
theorem cells_oneS (w : World) (x : Value) (e : TypeId) : ∀ j u, [x][j]? = some u → (w.alloc (.cells #[x] e)).cell? ((⟨w.heap.size, 0, none⟩ : Addr).add j) = some u := by
  intro j u hj
  rw [addr_add, Nat.zero_add]
  exact (Box.alloc w #[x] e j u hj).1
theorem own_shpS {w : World} {base : Nat} {e : TypeId} {size : Nat} {v : Value} {n : Nat} {xs : List Value} (h : w.ownsRow base e size v n xs) : ∃ a c, v = .slice a n c := by
  rcases h.2 with ⟨hv, hn⟩ | ⟨g, cap, cur, hv, _⟩
  · exact ⟨none, 0, by rw [hv, hn]⟩
  · exact ⟨_, _, hv⟩
set_option maxRecDepth 100000 in
set_option maxHeartbeats 2000000 in
theorem l3Put_any (t n : Nat) (ht : t < 100000000) (hn : n < 100000000) (x : ByteArray) (hx : x.size ≤ 1073741824) (w : World) :
    Calls Tryd.prog 31 #[.int .i64 t, .int .i64 n, .string x] w (OutS w (putB t n x)) := by
  obtain ⟨i0, hi, hz0, hz1, hz2⟩ := info_parts infoStrF
  have O0 := Lib.hid (World.ownsRow_made (e := 9) (size := 1) w #[] 0 (Nat.le_refl _) (by unfold maxLen; omega) rfl)
  have HL := Lib.hid (putB_len t n x)
  have HG := Lib.hid (putB_get t n x)
  obtain ⟨P, hP⟩ : ∃ P, P = partsN x.size := ⟨_, rfl⟩
  have hP1 : 1 ≤ P := by rw [hP]; exact parts_pos _
  have hP99 : P < 100000000 := by rw [hP]; unfold partsN; omega
  have hPe : P = max 1 ((x.size + 139) / 140) := hP
  rw [← hP] at HL HG
  have HP := Lib.hid hPe
  have hx0 : (0 : Int) ≤ (x.size : Int) := by omega
  have hxi : (x.size : Int) ≤ 1073741824 := by omega
  clear hP hPe
  go_enter Tryd.func31, Tryd.ntmps31
  by_cases h0 : x.size = 0
  · obtain rfl : P = 1 := by rw [HP.out, h0]; rfl
    have hPi : ((x.size : Int) + 140 - 1) / 140 = 0 := by omega
    have hPe : (((x.size : Int) + 140 - 1) / 140 == 0) = true := by rw [hPi]; rfl
    have HPI := Lib.hid hPi
    have HX0 := Lib.hid h0
    clear hPi h0
    go_wp2_with fail
    refine (l3Piece_any w).mono ?_
    rintro e w0 ⟨rfl, rfl⟩
    go_wp2_with fail
    rw [HPI.out]
    go_loopg [9, 10] 1 (fun q v v10 wr => ∃ i : Nat, i + q = 1 ∧ v10 = .int .i64 i ∧ wr.ownsRow w.heap.size 9 1 v i (((putB t n x).take i).map .string) ∧ Below w.heap.size w wr)
    case atStart => exact ⟨0, by omega, rfl, O0.out, below_alloc _ _⟩
    case round =>
      clear O0
      obtain ⟨i, hiq, rfl, ho, hbel⟩ := hrel
      have HO := Lib.hid ho
      have HB := Lib.hid hbel
      have hbz := hbel.size
      have HI := Lib.hid hiq
      by_cases hlt : i < 1
      · obtain ⟨va, vc, rfl⟩ := own_shpS ho
        clear ho hbel hiq
        have hli : (i : Int) < (1 : Int) := by omega
        have hi0 : (0 : Int) ≤ (i : Int) := by omega
        obtain ⟨a, ha⟩ : ∃ a, a = 140 * i := ⟨_, rfl⟩
        have ham : (i : Int) * 140 = (a : Int) := by omega
        have ham2 : ((i : Int) + 1) * 140 = (a : Int) + 140 := by omega
        have hax : a ≤ x.size := by have := HX0.out; omega
        have hai : (a : Int) ≤ (x.size : Int) := by omega
        have ha0 : (0 : Int) ≤ (a : Int) := by omega
        have hgi : i < (putB t n x).length := by rw [HL.out]; exact hlt
        have HGI := Lib.hid (HG.out i hgi)
        have HTK := Lib.hid (List.take_succ_eq_append_getElem hgi)
        have HPB := Lib.hid (show pieceB x i = x.extract a (min (a + 140) x.size) by unfold pieceB; rw [ha])
        clear ha
        have HPS := Lib.hid (show (pieceB x i).size ≤ 140 by rw [HPB.out, ByteArray.size_extract]; omega)
        go_wp2_with fail
        all_goals
          first
            | rw [show x.extract a (a + 140) = pieceB x i by rw [HPB.out, Nat.min_eq_left (by omega)]]
            | rw [show x.extract a x.size = pieceB x i by rw [HPB.out, Nat.min_eq_right (by omega)]]
          refine (l3Block_any t n i 1 ht hn (by omega) (by omega) (pieceB x i) x (by have := HPS.out; omega) (by omega) _).mono ?_
          rintro e w1 ⟨rfl, b1⟩
          rw [← HGI.out]
          have O1 := Lib.hid (own_below HO.out b1)
          have B1 := Lib.hid (HB.out.trans (b1.mono hbz))
          have z1 := B1.out.size
          clear b1
          go_wp2_with (at_builtin; refine wpList_append_own _ rfl _ _ 25 rfl w.heap.size 9 i0 (.string ⟨#[]⟩) 1 16 Tryd.underlying25 hi hz0 hz1 hz2 rfl (by decide) _ i _ rfl (O1.out.alloc _) ⟨w1.heap.size, 0, none⟩ 1 1 [.string (putB t n x)[i]] rfl rfl (cells_oneS _ _ _) (fun u hu => by simp at hu; subst hu; rfl) (by unfold maxLen; omega) (by omega) (by simp; omega) ?_; intro v2 w2 o2 g2 _)
          have B2 := Lib.hid (show Below w.heap.size w w2 from (B1.out.alloc z1 _).grown g2 (by simp; omega) (fun k hk => (O1.out.lt k hk).1))
          have O2 := Lib.hid (show w2.ownsRow w.heap.size 9 1 v2 (i + 1) (((putB t n x).take (i + 1)).map .string) by rw [HTK.out, List.map_append]; exact o2)
          clear o2 g2
          go_wp2
          go_roundg (gk - 1)
          case measure => have := HI.out; omega
          case rel => exact ⟨i + 1, by have := HI.out; omega, by go_num, O2.out, B2.out⟩
      · have hie : i = 1 := by omega
        have HE := Lib.hid (show (putB t n x).take i = putB t n x from List.take_of_length_le (by rw [HL.out]; omega))
        have HLE := Lib.hid (show (putB t n x).length = i by rw [HL.out, hie])
        have hli : (1 : Int) ≤ (i : Int) := by omega
        clear ho hbel hiq hie
        go_wp2
        go_ret
        exact ⟨_, rfl, by rw [HLE.out]; have := HO.out; rw [HE.out] at this; exact this, HB.out⟩
  · have hPn : (x.size + 139) / 140 = P := by rw [HP.out]; omega
    have hPi : ((x.size : Int) + 140 - 1) / 140 = (P : Int) := by omega
    have hPe : (((x.size : Int) + 140 - 1) / 140 == 0) = false := by rw [hPi]; simp; omega
    have HPI := Lib.hid hPi
    clear hPi
    have hP1i : (1 : Int) ≤ (P : Int) := by omega
    have HPN := Lib.hid hPn
    clear hPn
    go_wp2_with fail
    refine (l3Piece_any w).mono ?_
    rintro e w0 ⟨rfl, rfl⟩
    go_wp2_with fail
    rw [HPI.out]
    go_loopg [9, 10] P (fun q v v10 wr => ∃ i : Nat, i + q = P ∧ v10 = .int .i64 i ∧ wr.ownsRow w.heap.size 9 1 v i (((putB t n x).take i).map .string) ∧ Below w.heap.size w wr)
    case atStart => exact ⟨0, by omega, rfl, O0.out, below_alloc _ _⟩
    case round =>
      clear O0
      obtain ⟨i, hiq, rfl, ho, hbel⟩ := hrel
      have HO := Lib.hid ho
      have HB := Lib.hid hbel
      have hbz := hbel.size
      have HI := Lib.hid hiq
      by_cases hlt : i < P
      · obtain ⟨va, vc, rfl⟩ := own_shpS ho
        clear ho hbel hiq
        have hli : (i : Int) < (P : Int) := by omega
        have hi0 : (0 : Int) ≤ (i : Int) := by omega
        obtain ⟨a, ha⟩ : ∃ a, a = 140 * i := ⟨_, rfl⟩
        have ham : (i : Int) * 140 = (a : Int) := by omega
        have ham2 : ((i : Int) + 1) * 140 = (a : Int) + 140 := by omega
        have hax : a ≤ x.size := by have := HPN.out; omega
        have hai : (a : Int) ≤ (x.size : Int) := by omega
        have ha0 : (0 : Int) ≤ (a : Int) := by omega
        have hgi : i < (putB t n x).length := by rw [HL.out]; exact hlt
        have HGI := Lib.hid (HG.out i hgi)
        have HTK := Lib.hid (List.take_succ_eq_append_getElem hgi)
        have HPB := Lib.hid (show pieceB x i = x.extract a (min (a + 140) x.size) by unfold pieceB; rw [ha])
        clear ha
        have HPS := Lib.hid (show (pieceB x i).size ≤ 140 by rw [HPB.out, ByteArray.size_extract]; omega)
        go_wp2_with fail
        all_goals
          first
            | rw [show x.extract a (a + 140) = pieceB x i by rw [HPB.out, Nat.min_eq_left (by omega)]]
            | rw [show x.extract a x.size = pieceB x i by rw [HPB.out, Nat.min_eq_right (by omega)]]
          refine (l3Block_any t n i P ht hn (by omega) (by omega) (pieceB x i) x (by have := HPS.out; omega) (by omega) _).mono ?_
          rintro e w1 ⟨rfl, b1⟩
          rw [← HGI.out]
          have O1 := Lib.hid (own_below HO.out b1)
          have B1 := Lib.hid (HB.out.trans (b1.mono hbz))
          have z1 := B1.out.size
          clear b1
          go_wp2_with (at_builtin; refine wpList_append_own _ rfl _ _ 25 rfl w.heap.size 9 i0 (.string ⟨#[]⟩) 1 16 Tryd.underlying25 hi hz0 hz1 hz2 rfl (by decide) _ i _ rfl (O1.out.alloc _) ⟨w1.heap.size, 0, none⟩ 1 1 [.string (putB t n x)[i]] rfl rfl (cells_oneS _ _ _) (fun u hu => by simp at hu; subst hu; rfl) (by unfold maxLen; omega) (by omega) (by simp; omega) ?_; intro v2 w2 o2 g2 _)
          have B2 := Lib.hid (show Below w.heap.size w w2 from (B1.out.alloc z1 _).grown g2 (by simp; omega) (fun k hk => (O1.out.lt k hk).1))
          have O2 := Lib.hid (show w2.ownsRow w.heap.size 9 1 v2 (i + 1) (((putB t n x).take (i + 1)).map .string) by rw [HTK.out, List.map_append]; exact o2)
          clear o2 g2
          go_wp2
          go_roundg (gk - 1)
          case measure => have := HI.out; omega
          case rel => exact ⟨i + 1, by have := HI.out; omega, by go_num, O2.out, B2.out⟩
      · have hie : i = P := by omega
        subst hie
        have HE := Lib.hid (show (putB t n x).take i = putB t n x from List.take_of_length_le (by rw [HL.out]; exact Nat.le_refl _))
        clear ho hbel hiq
        go_wp2
        go_ret
        exact ⟨_, rfl, by rw [HL.out]; have := HO.out; rw [HE.out] at this; exact this, HB.out⟩
end Go.Proofs.YtgjfflfldddebaaDoor
