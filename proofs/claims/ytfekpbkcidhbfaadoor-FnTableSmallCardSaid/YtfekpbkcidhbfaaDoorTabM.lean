import Derived.Test.YtfekpbkcidhbfaaDoorTabS
import Derived.Test.YtfekpbkcidhbfaaDoorBloomM
import Derived.Test.YtfekpbkcidhbfaaDoorTabs
/- TableMake of both sides. -/
namespace Go.Proofs.YtfekpbkcidhbfaaDoor
open Go Go.RowKit

theorem app_nilT (a : ByteArray) : a ++ (⟨#[]⟩ : ByteArray) = a := ba_ext' (by simp [ByteArray.data_append])
theorem infoStrT : (Tryd.prog.info? 9).map (fun i => (i.zero, i.size, i.bytes)) = some (some (.string ⟨#[]⟩), 1, 16) := by kernel_rfl
theorem cells_oneT (w : World) (x : Value) (e : TypeId) : ∀ j u, [x][j]? = some u → (w.alloc (.cells #[x] e)).cell? ((⟨w.heap.size, 0, none⟩ : Addr).add j) = some u := by
  intro j u h
  cases j with
  | zero => simp at h; subst h; exact (Box.alloc w #[x] e 0 _ rfl).1
  | succ j => simp at h
theorem own_shpT {w : World} {base : Nat} {e : TypeId} {size : Nat} {v : Value} {n : Nat} {xs : List Value} (h : w.ownsRow base e size v n xs) : ∃ a c, v = .slice a n c := by
  rcases h.2 with ⟨hv, h0⟩ | ⟨g, cap, cur, hv, _⟩
  · exact ⟨none, 0, by rw [hv, h0]⟩
  · exact ⟨_, _, hv⟩
theorem keysE_take {l : List EntryD} {k : Nat} (h : k < l.length) : keysE (l.take (k + 1)) = keysE (l.take k) ++ [l[k].1] := by
  unfold keysE
  rw [List.take_succ_eq_append_getElem h, List.map_append]
  rfl
set_option maxRecDepth 100000 in
set_option maxHeartbeats 2000000 in
theorem l5Keys_any (a : Option Addr) (ca : Nat) (l : List EntryD) (w : World) (hn : l.length ≤ 1048576) (hl : ElS 4 encEntry w a l) :
    Calls Tryd.prog 28 #[.slice a l.length ca] w fun e w' => ∃ v, e = .returned v ∧ w'.ownsRow w.heap.size 9 1 v (keysE l).length ((keysE l).map .string) ∧ Below w.heap.size w w' := by
  obtain ⟨i0, hi, hz0, hz1, hz2⟩ := info_parts infoStrT
  have HL := Lib.hid hl
  have O0 := Lib.hid (World.ownsRow_made (e := 9) (size := 1) w #[] 0 (Nat.le_refl _) (by unfold maxLen; omega) rfl)
  clear hl
  go_enter Tryd.func28, Tryd.ntmps28
  go_wp2
  go_loopg [3, 4] l.length (fun q v3 v4 wr => ∃ k : Nat, k + q = l.length ∧ v4 = .int .i64 k ∧ wr.ownsRow w.heap.size 9 1 v3 (keysE (l.take k)).length ((keysE (l.take k)).map .string) ∧ Below w.heap.size w wr)
  case atStart => exact ⟨0, by omega, rfl, O0.out, below_alloc _ _⟩
  case round =>
    clear O0
    obtain ⟨k, hk, rfl, ho, hb⟩ := hrel
    obtain ⟨va, vc, rfl⟩ := own_shpT ho
    have HK := Lib.hid hk
    have HO := Lib.hid ho
    have HB := Lib.hid hb
    have hbz := hb.size
    clear hk ho hb
    have hlen : (keysE (l.take k)).length ≤ 1048576 := by unfold keysE; rw [List.length_map, List.length_take]; omega
    by_cases hlt : k < l.length
    · have hl0 : l ≠ [] := fun e => by rw [e] at hlt; simp at hlt
      obtain ⟨ba, oa, rfl, hc⟩ := HL.out.2.resolve_left hl0
      obtain ⟨c0, -⟩ := cellsEntry HB.out hc k hlt
      have i1 : (k : Int) < (l.length : Int) := by omega
      have i2 : (0 : Int) ≤ (k : Int) := by omega
      have HN := Lib.hid (keysE_take hlt)
      obtain ⟨d, hd⟩ : ∃ d, keysE (l.take k) = d := ⟨_, rfl⟩
      rw [hd] at HN HO hlen
      rw [hd]
      obtain ⟨x, hx⟩ : ∃ x, l[k].1 = x := ⟨_, rfl⟩
      rw [hx] at c0 HN
      clear hc hd hx hl0
      go_wp2_with (at_builtin; refine wpList_append_own _ rfl _ _ 57 rfl w.heap.size 9 i0 (.string ⟨#[]⟩) 1 16 Tryd.underlying57 hi hz0 hz1 hz2 rfl (by decide) _ d.length _ rfl (HO.out.alloc _) ⟨wr.heap.size, 0, none⟩ 1 1 [.string x] rfl rfl (cells_oneT _ _ _) (fun u hu => by simp at hu; subst hu; rfl) (by unfold maxLen; omega) (by omega) (by simp; omega) ?_; intro v2 w2 o2 g2 _)
      have B2 := Lib.hid (show Below w.heap.size w w2 from (HB.out.alloc hbz _).grown g2 (by simp; omega) (fun k hk => (HO.out.lt k hk).1))
      have O2 := Lib.hid (show w2.ownsRow w.heap.size 9 1 v2 (d ++ [x]).length ((d ++ [x]).map .string) by rw [List.length_append, List.map_append]; exact o2)
      clear o2 g2 c0
      go_wp2
      go_roundg (gk - 1)
      case measure => have := HK.out; omega
      case rel => exact ⟨k + 1, by have := HK.out; omega, by go_num, by rw [HN.out]; exact O2.out, B2.out⟩
    · have hke : k = l.length := by have := HK.out; omega
      have i1 : ¬ (k : Int) < (l.length : Int) := by omega
      have HF := Lib.hid (show keysE (l.take k) = keysE l by rw [List.take_of_length_le (by omega)])
      clear hke
      go_wp2
      go_ret
      exact ⟨_, rfl, by rw [← HF.out]; exact HO.out, HB.out⟩
theorem linesTo_size {l : List EntryD} (h : entsB l = true) : ∀ k, k ≤ l.length → (linesTo l k).size ≤ 118 * k
  | 0, _ => by unfold linesTo; exact Nat.le_refl _
  | k + 1, hk => by
    have ih := linesTo_size h k (by omega)
    unfold linesTo
    rw [ByteArray.size_append]
    have hg : l.getD k (⟨#[]⟩, 0, false, ⟨#[]⟩) = l[k]'(by omega) := by simp [List.getD_eq_getElem?_getD, show k < l.length from hk]
    rw [hg]
    have he := (entsB_at h).2.1 k hk
    have := lineB_size (lastK l k) he
    have := ent_bounds he
    omega
theorem headB_size {l : List EntryD} (h : l.length ≤ 240) : (headB l).size ≤ 27 := by
  have hd : (decI (l.length : Nat)).size ≤ 3 := decI_small (k := 2) (by omega)
  have hbs := bloomB_size (bitK (keysE l))
  unfold headB headA spB nlB
  simp only [ByteArray.size_append]
  rw [hbs]
  show 6 + _ + 1 + 16 + 1 ≤ 27
  omega
theorem lastK_size {l : List EntryD} (h : entsB l = true) {k : Nat} (hk : k < l.length) : (lastK l k).size ≤ 24 := by
  unfold lastK
  split
  · decide
  · have hg : l.getD (k - 1) (⟨#[]⟩, 0, false, ⟨#[]⟩) = l[k-1]'(by omega) := by simp [List.getD_eq_getElem?_getD, show k - 1 < l.length by omega]
    rw [hg]
    exact (ent_bounds ((entsB_at h).2.1 (k-1) (by omega))).1
theorem linesTo_next {l : List EntryD} {k : Nat} (h : k < l.length) : linesTo l (k + 1) = linesTo l k ++ lineB (lastK l k) l[k] := by
  rw [linesTo]
  simp [List.getD_eq_getElem?_getD, h]
theorem lastK_zero {l : List EntryD} {k : Nat} (h : k % 4 = 0) : lastK l k = ⟨#[]⟩ := by unfold lastK; rw [if_pos h]
theorem lastK_pos {l : List EntryD} {k j : Nat} (h : ¬ k % 4 = 0) (hj : j = k - 1) (hk : j < l.length) : lastK l k = l[j].1 := by
  unfold lastK
  rw [if_neg h, ← hj]
  simp [List.getD_eq_getElem?_getD, hk]
set_option maxRecDepth 100000 in
set_option maxHeartbeats 4000000 in
theorem l5Make_any (a : Option Addr) (ca : Nat) (l : List EntryD) (w : World) (hl : ElS 4 encEntry w a l) (h : entsB l = true) :
    Calls Tryd.prog 13 #[.slice a l.length ca] w fun e w' => e = .returned (.string (tableB l)) ∧ Below w.heap.size w w' := by
  have hn := (entsB_at h).1
  have HL := Lib.hid hl
  have HE := Lib.hid h
  have HZ := Lib.hid (fun s (hs : s ∈ keysE l) => show s.size ≤ 549755813888 by
    obtain ⟨x, hx, rfl⟩ := List.mem_map.1 hs
    obtain ⟨j, hj, rfl⟩ := List.getElem_of_mem hx
    have := (ent_bounds ((entsB_at h).2.1 j hj)).1
    omega)
  have hklen : (keysE l).length = l.length := by unfold keysE; rw [List.length_map]
  have HKL := Lib.hid hklen
  obtain ⟨d, hd⟩ : ∃ d, decI (l.length : Nat) = d := ⟨_, rfl⟩
  obtain ⟨bt, hbt⟩ : ∃ b, bloomB (bitK (keysE l)) = b := ⟨_, rfl⟩
  have sd : d.size ≤ 21 := by rw [← hd]; exact decI_size (by omega) (by omega)
  have sb : bt.size = 16 := by rw [← hbt]; exact bloomB_size _
  have HH := Lib.hid (show headB l = ⟨#[116, 97, 98, 108, 101, 32]⟩ ++ d ++ ⟨#[32]⟩ ++ bt ++ ⟨#[10]⟩ by unfold headB headA spB nlB; rw [hd, hbt])
  have HD := Lib.hid (fun W => decS_any (n := (l.length : Int)) (by omega) (by omega) W)
  rw [hd] at HD
  have HBT := Lib.hid hbt
  have f1 : ¬ 9223372036854775807 < 6 + d.size := by omega
  have f2 : ¬ 9223372036854775807 < 6 + d.size + 1 := by omega
  have f3 : ¬ 9223372036854775807 < 6 + d.size + 1 + bt.size := by omega
  have f4 : ¬ 9223372036854775807 < 6 + d.size + 1 + bt.size + 1 := by omega
  clear hl h hd hbt hklen
  go_enter Tryd.func13, Tryd.ntmps13
  go_wp2_with fail
  refine (HD.out _).mono ?_
  rintro e w1 ⟨rfl, b1⟩
  have B1 := Lib.hid b1
  clear b1
  go_wp2_with fail
  refine (l5Keys_any a ca l w1 (by omega) (HL.out.below B1.out)).mono ?_
  rintro e w2 ⟨v, rfl, o, b⟩
  obtain ⟨va, vc, rfl⟩ := own_shpT o
  have B2 := Lib.hid (B1.out.trans (b.mono B1.out.size))
  have S2 := Lib.hid (own_str (by rw [HKL.out]; unfold maxLen; omega) (fun s hs => Nat.le_trans (HZ.out s hs) (by unfold maxLen; omega)) o)
  clear o b
  go_wp2_with fail
  refine (specBloomMake_any va vc (keysE l) w2 S2.out HZ.out (by rw [HKL.out]; omega)).mono ?_
  rw [HBT.out]
  rintro e w3 ⟨rfl, b⟩
  have B3 := Lib.hid (B2.out.trans (b.mono B2.out.size))
  clear b
  go_wp2
  obtain ⟨hd, hhd⟩ : ∃ hd, headB l = hd := ⟨_, rfl⟩
  have sh : hd.size ≤ 27 := by rw [← hhd]; exact headB_size hn
  have HHD := Lib.hid hhd
  rw [← HH.out, hhd]
  clear hhd f1 f2 f3 f4
  go_loopg [3, 4, 5] l.length (fun q v3 v4 v5 wr => ∃ k : Nat, k + q = l.length ∧ v4 = .int .i64 k ∧ v3 = .string (hd ++ linesTo l k) ∧ Below w.heap.size w wr)
  case atStart => exact ⟨0, by omega, rfl, by rw [show linesTo l 0 = ⟨#[]⟩ from rfl, app_nilT], B3.out⟩
  case round =>
    clear B3
    obtain ⟨k, hk, rfl, rfl, hb⟩ := hrel
    have HK := Lib.hid hk
    have HB := Lib.hid hb
    clear hk hb
    by_cases hlt : k < l.length
    · have hl0 : l ≠ [] := fun e => by rw [e] at hlt; simp at hlt
      obtain ⟨ba, oa, rfl, hc⟩ := HL.out.2.resolve_left hl0
      obtain ⟨c0, c1, c2, c3⟩ := cellsEntry HB.out hc k hlt
      have KC := Lib.hid hc
      have i1 : (k : Int) < (l.length : Int) := by omega
      have i2 : (0 : Int) ≤ (k : Int) := by omega
      have HN := Lib.hid (linesTo_next hlt)
      have HEK := Lib.hid ((entsB_at HE.out).2.1 k hlt)
      have sl := linesTo_size HE.out k (by omega)
      have sll := lineB_size (lastK l k) HEK.out
      have seb := ent_bounds HEK.out
      have HLS := Lib.hid (lastK_size HE.out hlt)
      obtain ⟨t, ht⟩ : ∃ t, linesTo l k = t := ⟨_, rfl⟩
      rw [ht] at HN sl
      rw [ht]
      by_cases hr : k % 4 = 0
      · have HLZ := Lib.hid (lastK_zero (l := l) hr)
        rw [HLZ.out] at HN sll HLS
        obtain ⟨ln, hln⟩ : ∃ ln, lineB ⟨#[]⟩ l[k] = ln := ⟨_, rfl⟩
        rw [hln] at HN sll
        have HLN := Lib.hid hln
        have i3 : ((k : Int)).tmod 4 = 0 := by rw [Int.tmod_eq_emod_of_nonneg (by omega)]; omega
        have i4 : (k : Int) % 4 = 0 := by omega
        have f1 : ¬ 9223372036854775807 < hd.size + t.size + ln.size := by omega
        clear hc ht hl0 hln hr seb
        go_wp2_with fail
        refine (lineS_any ⟨#[]⟩ l[k].1 l[k].2.1 l[k].2.2.1 l[k].2.2.2 (by decide) HEK.out _).mono ?_
        rw [show lineB ⟨#[]⟩ (l[k].1, l[k].2.1, l[k].2.2.1, l[k].2.2.2) = ln from HLN.out]
        rintro e w5 ⟨rfl, b⟩
        have B5 := Lib.hid (HB.out.trans (b.mono HB.out.size))
        clear b c0 c1 c2 c3
        go_wp2
        go_roundg (gk - 1)
        case measure => have := HK.out; omega
        case rel => exact ⟨k + 1, by have := HK.out; omega, by go_num, by rw [HN.out, ByteArray.append_assoc], B5.out⟩
      · obtain ⟨j, hj⟩ : ∃ j, j = k - 1 := ⟨_, rfl⟩
        have hjl : j < l.length := by omega
        have HLZ := Lib.hid (lastK_pos (l := l) hr hj hjl)
        obtain ⟨e0, -⟩ := cellsEntry HB.out KC.out j hjl
        rw [HLZ.out] at HN sll HLS
        obtain ⟨la, hla⟩ : ∃ la, l[j].1 = la := ⟨_, rfl⟩
        rw [hla] at HN sll HLS e0
        obtain ⟨ln, hln⟩ : ∃ ln, lineB la l[k] = ln := ⟨_, rfl⟩
        rw [hln] at HN sll
        have HLN := Lib.hid hln
        have i3 : (0 : Int) < ((k : Int)).tmod 4 := by rw [Int.tmod_eq_emod_of_nonneg (by omega)]; omega
        have i4 : (0 : Int) < (k : Int) % 4 := by omega
        have i5 : (k : Int) - 1 = (j : Int) := by omega
        have i6 : (0 : Int) ≤ (j : Int) := by omega
        have i7 : (j : Int) < (l.length : Int) := by omega
        have f1 : ¬ 9223372036854775807 < hd.size + t.size + ln.size := by omega
        clear hc ht hl0 hln hr seb hj hla
        go_wp2_with fail
        refine (lineS_any la l[k].1 l[k].2.1 l[k].2.2.1 l[k].2.2.2 HLS.out HEK.out _).mono ?_
        rw [show lineB la (l[k].1, l[k].2.1, l[k].2.2.1, l[k].2.2.2) = ln from HLN.out]
        rintro e w5 ⟨rfl, b⟩
        have B5 := Lib.hid (HB.out.trans (b.mono HB.out.size))
        clear b c0 c1 c2 c3 e0
        go_wp2
        go_roundg (gk - 1)
        case measure => have := HK.out; omega
        case rel => exact ⟨k + 1, by have := HK.out; omega, by go_num, by rw [HN.out, ByteArray.append_assoc], B5.out⟩
    · have hke : k = l.length := by have := HK.out; omega
      have i1 : ¬ (k : Int) < (l.length : Int) := by omega
      have HF := Lib.hid (show tableB l = hd ++ linesTo l k by unfold tableB; rw [HHD.out, hke])
      clear hke
      go_wp2
      go_ret
      exact ⟨by rw [HF.out]; rfl, HB.out⟩
theorem specTable_any (a : Option Addr) (ca : Nat) (l : List EntryD) (w : World) (hl : ElS 4 encEntry w a l) (hok : ∀ x ∈ l, OkEntry x) :
    Calls Tryd.prog 6 #[.slice a l.length ca] w fun e w' => e = .returned (.string (tableV l)) ∧ Below w.heap.size w w' := by
  cases h : entsB l with
  | false =>
    have HN := Lib.hid (tableV_no h)
    have H := Lib.hid h
    clear h
    go_enter Tryd.func6, Tryd.ntmps6
    go_wp2_with fail
    refine (specEntries_any _ _ l _ hl hok).mono ?_
    rintro e w1 ⟨rfl, b1⟩
    rw [H.out]
    go_wp2
    go_ret
    exact ⟨by rw [HN.out]; rfl, b1⟩
  | true =>
    have H := Lib.hid h
    have st : (tableB l).size ≤ 100000 := by
      have h1 := headB_size (entsB_at h).1
      have h2 := linesTo_size h l.length (Nat.le_refl _)
      have h3 := (entsB_at h).1
      unfold tableB
      rw [ByteArray.size_append]
      omega
    by_cases hb : (tableB l).size ≤ 7000
    · have HN := Lib.hid (tableV_yes h hb)
      obtain ⟨t, ht⟩ : ∃ t, tableB l = t := ⟨_, rfl⟩
      have HT := Lib.hid ht
      rw [ht] at hb st HN
      have i1 : ¬ (7000 : Int) < (t.size : Int) := by omega
      clear h ht
      go_enter Tryd.func6, Tryd.ntmps6
      go_wp2_with fail
      refine (specEntries_any _ _ l _ hl hok).mono ?_
      rintro e w1 ⟨rfl, b1⟩
      rw [H.out]
      go_wp2_with fail
      refine (l5Make_any _ _ l _ (hl.below b1) H.out).mono ?_
      rw [HT.out]
      rintro e w2 ⟨rfl, b2⟩
      go_wp2
      go_ret
      exact ⟨by rw [HN.out]; rfl, b1.trans (b2.mono b1.size)⟩
    · have HN := Lib.hid (tableV_long h hb)
      obtain ⟨t, ht⟩ : ∃ t, tableB l = t := ⟨_, rfl⟩
      have HT := Lib.hid ht
      rw [ht] at hb st
      have i1 : (7000 : Int) < (t.size : Int) := by omega
      clear h ht
      go_enter Tryd.func6, Tryd.ntmps6
      go_wp2_with fail
      refine (specEntries_any _ _ l _ hl hok).mono ?_
      rintro e w1 ⟨rfl, b1⟩
      rw [H.out]
      go_wp2_with fail
      refine (l5Make_any _ _ l _ (hl.below b1) H.out).mono ?_
      rw [HT.out]
      rintro e w2 ⟨rfl, b2⟩
      go_wp2
      go_ret
      exact ⟨by rw [HN.out]; rfl, b1.trans (b2.mono b1.size)⟩
end Go.Proofs.YtfekpbkcidhbfaaDoor
