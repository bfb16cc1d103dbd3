import Derived.Test.YteejabpohnfoaaaDoorMemPutI
import Derived.Test.YteejabpohnfoaaaDoorApp
import Derived.Test.YteejabpohnfoaaaDoorDrawEnts
/- MemJoin of both sides. -/
namespace Go.Proofs.YteejabpohnfoaaaDoor
open Go Go.RowKit

def joinOk (a b : List EntryD) : Bool := entsB a && entsB b && entsB (joinE a b)
def joinL (a b : List EntryD) : List EntryD := if joinOk a b = true then joinE a b else []
theorem joinL_no {a b : List EntryD} (h : joinOk a b = false) : [] = joinL a b := by unfold joinL; rw [h]; rfl
theorem joinL_yes {a b : List EntryD} (h : joinOk a b = true) : joinE a b = joinL a b := by unfold joinL; rw [h]; rfl
theorem join_ok {a b : List EntryD} (ha : ∀ x ∈ a, OkEntry x) (hb : ∀ x ∈ b, OkEntry x) : ∀ x ∈ joinE a b, OkEntry x := fun x hx => (joinE_mem hx).elim (hb x) (ha x)
set_option maxRecDepth 100000 in
set_option maxHeartbeats 2000000 in
theorem specJoinE_any (a b : Option Addr) (ca cb : Nat) (l m : List EntryD) (w : World) (hl : ElS 4 encEntry w a l) (hm : ElS 4 encEntry w b m) (h1 : l.length ≤ 240) (h2 : m.length ≤ 240) :
    Calls Tryd.prog 36 #[.slice a l.length ca, .slice b m.length cb] w (OwnE w (joinE l m)) := by
  obtain ⟨i0, hi, hz0, hz1, hz2⟩ := info_parts infoEntry
  have HM := Lib.hid hm
  have O0 := Lib.hid (World.ownsRow_made (e := 31) (size := 4) w #[] 0 (Nat.le_refl _) (by unfold maxLen; omega) rfl)
  have SR := Lib.hid (src_el encEntry_len (by decide) (hl.below (below_alloc w (.cells #[] 31))))
  clear hl hm
  go_enter Tryd.func36, Tryd.ntmps36
  go_wp2_with (at_builtin; refine wpList_append_src _ rfl _ _ 27 rfl w.heap.size 31 i0 (.agg #[.string ⟨#[]⟩, .int .i64 0, .bool false, .string ⟨#[]⟩]) 4 48 Tryd.underlying27 hi hz0 hz1 hz2 rfl (by decide) _ 0 [] rfl O0.out a l.length ca (l.flatMap encEntry) rfl SR.out (fun u hu => one_ents hu) (by unfold maxLen; omega) (by omega) (by simp) ?_; intro v2 w2 o2 g2 _)
  have B2 := Lib.hid (show Below w.heap.size w w2 from (below_alloc w _).grown g2 (by simp) (fun k hk => (O0.out.lt k hk).1))
  have O2 := Lib.hid (show w2.ownsRow w.heap.size 31 4 v2 (joinE l (m.take 0)).length ((joinE l (m.take 0)).flatMap encEntry) by have h := o2; rwa [Nat.zero_add, List.nil_append] at h)
  clear o2 g2
  go_wp2
  go_loopg [5, 6] m.length (fun q v5 v6 wr => ∃ k : Nat, k + q = m.length ∧ v6 = .int .i64 k ∧ wr.ownsRow w.heap.size 31 4 v5 (joinE l (m.take k)).length ((joinE l (m.take k)).flatMap encEntry) ∧ Below w.heap.size w wr)
  case atStart => exact ⟨0, by omega, rfl, O2.out, B2.out⟩
  case round =>
    clear B2 O2 O0 SR
    obtain ⟨k, hk, rfl, ho, hb⟩ := hrel
    obtain ⟨g, cg, rfl⟩ := own_shape ho
    have HK := Lib.hid hk
    have HO := Lib.hid ho
    have HB := Lib.hid hb
    have hJ : (joinE l (m.take k)).length ≤ 480 := by
      have := joinE_len l (m.take k)
      have := List.length_take_le k m
      omega
    clear hk ho hb
    by_cases hlt : k < m.length
    · have hm0 : m ≠ [] := fun e => by rw [e] at hlt; simp at hlt
      obtain ⟨ba, oa, rfl, hc⟩ := HM.out.2.resolve_left hm0
      obtain ⟨c0, c1, c2, c3⟩ := cellsEntry HB.out hc k hlt
      have i1 : (k : Int) < (m.length : Int) := by omega
      have i2 : (0 : Int) ≤ (k : Int) := by omega
      have HC := Lib.hid hc
      have HJ := Lib.hid (joinE_take (L := l) hlt)
      have KC := Lib.hid (show ∀ W, Below w.heap.size w W → _ from fun W hW => cellsEntry hW hc k hlt)
      obtain ⟨J, hJe⟩ : ∃ J, joinE l (m.take k) = J := ⟨_, rfl⟩
      rw [hJe] at HO HJ hJ
      rw [hJe]
      obtain ⟨⟨x0, x1, x2, x3⟩, hx⟩ : ∃ x, m[k] = x := ⟨_, rfl⟩
      rw [hx] at c0 c1 c2 c3 HJ KC
      dsimp only at c0 c1 c2 c3 KC
      clear hc hx hm0 hJe
      go_wp2_with fail
      refine (specHas_any _ _ J x0 x1 x2 x3 _ (own_el encEntry_len (by unfold maxLen; omega) HO.out)).mono ?_
      rintro e w3 ⟨rfl, b3⟩
      have B3 := Lib.hid (HB.out.trans (b3.mono HB.out.size))
      have O3 := Lib.hid (own_below HO.out b3)
      clear c0 c1 c2 c3 b3
      cases hh : hasE J (x0, x1, x2, x3) with
      | true =>
        have HN := Lib.hid (show joinE l (m.take (k + 1)) = J by rw [HJ.out]; unfold addE; rw [if_pos hh])
        clear hh
        go_wp2
        go_roundg (gk - 1)
        case measure => have := HK.out; omega
        case rel => exact ⟨k + 1, by have := HK.out; omega, by go_num, by rw [HN.out]; exact O3.out, B3.out⟩
      | false =>
        have HN := Lib.hid (show joinE l (m.take (k + 1)) = putE J (x0, x1, x2, x3) by rw [HJ.out]; unfold addE; rw [if_neg (by rw [hh]; exact Bool.false_ne_true)])
        obtain ⟨c0, c1, c2, c3⟩ := KC.out _ B3.out
        clear hh
        go_wp2_with fail
        refine (specPut_any _ _ J x0 x1 x2 x3 _ (by omega) (own_cap O3.out) (own_el encEntry_len (by unfold maxLen; omega) O3.out)).mono ?_
        rintro e w4 ⟨v, rfl, o4, b4⟩
        have B4 := Lib.hid (B3.out.trans (b4.mono B3.out.size))
        have O4 := Lib.hid (own_mono B3.out.size o4)
        clear c0 c1 c2 c3 o4 b4
        go_wp2
        go_roundg (gk - 1)
        case measure => have := HK.out; omega
        case rel => exact ⟨k + 1, by have := HK.out; omega, by go_num, by rw [HN.out]; exact O4.out, B4.out⟩
    · have hke : k = m.length := by have := HK.out; omega
      have i1 : ¬ (k : Int) < (m.length : Int) := by omega
      have HF := Lib.hid (show joinE l (m.take k) = joinE l m by rw [List.take_of_length_le (by omega)])
      clear hke
      go_wp2
      go_ret
      exact ⟨_, rfl, by rw [← HF.out]; exact HO.out, HB.out⟩
set_option maxRecDepth 100000 in
set_option maxHeartbeats 2000000 in
theorem specMemJoin_any (a b : Option Addr) (ca cb : Nat) (l m : List EntryD) (w : World) (hl : ElS 4 encEntry w a l) (hm : ElS 4 encEntry w b m) (hok : ∀ x ∈ l, OkEntry x) (hok2 : ∀ x ∈ m, OkEntry x) :
    Calls Tryd.prog 17 #[.slice a l.length ca, .slice b m.length cb] w (OwnEB w (joinL l m) (joinOk l m)) := by
  have HX := Lib.hid hl
  have HM := Lib.hid hm
  clear hl hm
  cases h1 : entsB l with
  | false =>
    have HP := Lib.hid (show joinOk l m = false by unfold joinOk; rw [h1]; rfl)
    have H1 := Lib.hid h1
    clear h1
    go_enter Tryd.func17, Tryd.ntmps17
    go_wp2_with fail
    refine (specEntries_any _ _ l _ HX.out hok).mono ?_
    rintro e w2 ⟨rfl, b2⟩
    rw [H1.out]
    have B2 := Lib.hid b2
    clear b2
    go_wp2
    go_ret2
    exact OwnEB.of (L := []) ⟨.slice (some ⟨w2.heap.size, 0, none⟩) 0 0, rfl, own_lit0 w2 31 4 w2.heap.size rfl B2.out.size, B2.out.alloc B2.out.size _⟩ (joinL_no HP.out) HP.out.symm
  | true =>
    have H1 := Lib.hid h1
    have hle := (entsB_at h1).1
    cases h2 : entsB m with
    | false =>
      have HP := Lib.hid (show joinOk l m = false by unfold joinOk; rw [h1, h2]; rfl)
      have H2 := Lib.hid h2
      clear h1 h2
      go_enter Tryd.func17, Tryd.ntmps17
      go_wp2_with fail
      refine (specEntries_any _ _ l _ HX.out hok).mono ?_
      rintro e w2 ⟨rfl, b2⟩
      rw [H1.out]
      have B2 := Lib.hid b2
      clear b2
      go_wp2_with fail
      refine (specEntries_any _ _ m _ (HM.out.below B2.out) hok2).mono ?_
      rintro e w3 ⟨rfl, b3⟩
      rw [H2.out]
      have B3 := Lib.hid (B2.out.trans (b3.mono B2.out.size))
      clear b3
      go_wp2
      go_ret2
      exact OwnEB.of (L := []) ⟨.slice (some ⟨w3.heap.size, 0, none⟩) 0 0, rfl, own_lit0 w3 31 4 w3.heap.size rfl B3.out.size, B3.out.alloc B3.out.size _⟩ (joinL_no HP.out) HP.out.symm
    | true =>
      have H2 := Lib.hid h2
      have hme := (entsB_at h2).1
      have HJO := Lib.hid (show joinOk l m = entsB (joinE l m) by unfold joinOk; rw [h1, h2]; rfl)
      have hJ : (joinE l m).length ≤ 480 := by have := joinE_len l m; omega
      have HOK := Lib.hid (join_ok hok hok2)
      clear h1 h2
      obtain ⟨J, hJe⟩ : ∃ J, joinE l m = J := ⟨_, rfl⟩
      rw [hJe] at HJO hJ HOK
      have HJE := Lib.hid hJe
      clear hJe
      go_enter Tryd.func17, Tryd.ntmps17
      go_wp2_with fail
      refine (specEntries_any _ _ l _ HX.out hok).mono ?_
      rintro e w2 ⟨rfl, b2⟩
      rw [H1.out]
      have B2 := Lib.hid b2
      clear b2
      go_wp2_with fail
      refine (specEntries_any _ _ m _ (HM.out.below B2.out) hok2).mono ?_
      rintro e w3 ⟨rfl, b3⟩
      rw [H2.out]
      have B3 := Lib.hid (B2.out.trans (b3.mono B2.out.size))
      clear b3
      go_wp2_with fail
      refine (specJoinE_any _ _ ca cb l m _ (HX.out.below B3.out) (HM.out.below B3.out) hle hme).mono ?_
      rw [HJE.out]
      rintro e w4 ⟨v, rfl, o4, b4⟩
      obtain ⟨g, cg, rfl⟩ := own_shape o4
      have B4 := Lib.hid (B3.out.trans (b4.mono B3.out.size))
      have O4 := Lib.hid (own_mono B3.out.size o4)
      clear o4 b4
      go_wp2_with fail
      refine (specEntries_any _ _ J _ (own_el encEntry_len (by unfold maxLen; omega) O4.out) HOK.out).mono ?_
      rintro e w5 ⟨rfl, b5⟩
      have B5 := Lib.hid (B4.out.trans (b5.mono B4.out.size))
      have O5 := Lib.hid (own_below O4.out b5)
      clear b5
      cases h5 : entsB J with
      | false =>
        have HP := Lib.hid (show joinOk l m = false by rw [HJO.out, h5])
        clear h5
        go_wp2
        go_ret2
        exact OwnEB.of (L := []) ⟨.slice (some ⟨w5.heap.size, 0, none⟩) 0 0, rfl, own_lit0 w5 31 4 w5.heap.size rfl B5.out.size, B5.out.alloc B5.out.size _⟩ (joinL_no HP.out) HP.out.symm
      | true =>
        have HP := Lib.hid (show joinOk l m = true by rw [HJO.out, h5])
        clear h5
        go_wp2
        go_ret2
        exact OwnEB.of ⟨_, rfl, O5.out, B5.out⟩ (by rw [← HJE.out]; exact joinL_yes HP.out) HP.out.symm
set_option maxRecDepth 100000 in
set_option maxHeartbeats 2000000 in
theorem implMemJoin_any (a b : Option Addr) (ca cb : Nat) (l m : List EntryD) (w : World) (hl : ElS 4 encEntry w a l) (hm : ElS 4 encEntry w b m) (hok : ∀ x ∈ l, OkEntry x) (hok2 : ∀ x ∈ m, OkEntry x) (ht : HashT w) :
    Calls Tryd.prog 18 #[.slice a l.length ca, .slice b m.length cb] w (OwnEB w (joinL l m) (joinOk l m)) := by
  have HX := Lib.hid hl
  have HM := Lib.hid hm
  have HT := Lib.hid ht
  clear hl hm ht
  cases h1 : entsB l with
  | false =>
    have HP := Lib.hid (show joinOk l m = false by unfold joinOk; rw [h1]; rfl)
    have H1 := Lib.hid h1
    clear h1
    go_enter Tryd.func18, Tryd.ntmps18
    go_wp2_with fail
    refine (implEntries_any _ _ l _ HX.out hok).mono ?_
    rintro e w2 ⟨rfl, b2⟩
    rw [H1.out]
    have B2 := Lib.hid b2
    clear b2
    go_wp2
    go_ret2
    exact OwnEB.of (L := []) ⟨.slice none 0 0, rfl, World.ownsRow_nil _ _ _ _, B2.out⟩ (joinL_no HP.out) HP.out.symm
  | true =>
    have H1 := Lib.hid h1
    have hle := (entsB_at h1).1
    cases h2 : entsB m with
    | false =>
      have HP := Lib.hid (show joinOk l m = false by unfold joinOk; rw [h1, h2]; rfl)
      have H2 := Lib.hid h2
      clear h1 h2
      go_enter Tryd.func18, Tryd.ntmps18
      go_wp2_with fail
      refine (implEntries_any _ _ l _ HX.out hok).mono ?_
      rintro e w2 ⟨rfl, b2⟩
      rw [H1.out]
      have B2 := Lib.hid b2
      clear b2
      go_wp2_with fail
      refine (implEntries_any _ _ m _ (HM.out.below B2.out) hok2).mono ?_
      rintro e w3 ⟨rfl, b3⟩
      rw [H2.out]
      have B3 := Lib.hid (B2.out.trans (b3.mono B2.out.size))
      clear b3
      go_wp2
      go_ret2
      exact OwnEB.of (L := []) ⟨.slice none 0 0, rfl, World.ownsRow_nil _ _ _ _, B3.out⟩ (joinL_no HP.out) HP.out.symm
    | true =>
      have H2 := Lib.hid h2
      have hme := (entsB_at h2).1
      have HJO := Lib.hid (show joinOk l m = entsB (joinE l m) by unfold joinOk; rw [h1, h2]; rfl)
      have hJ : (joinE l m).length ≤ 480 := by have := joinE_len l m; omega
      have HOK := Lib.hid (join_ok hok hok2)
      have HSL := Lib.hid (srt_of h1)
      have HZ := Lib.hid (ent_size h2)
      clear h2
      go_enter Tryd.func18, Tryd.ntmps18
      go_wp2_with fail
      refine (implEntries_any _ _ l _ HX.out hok).mono ?_
      rintro e w2 ⟨rfl, b2⟩
      rw [H1.out]
      have B2 := Lib.hid b2
      clear b2
      go_wp2_with fail
      refine (implEntries_any _ _ m _ (HM.out.below B2.out) hok2).mono ?_
      rintro e w3 ⟨rfl, b3⟩
      rw [H2.out]
      have B3 := Lib.hid (B2.out.trans (b3.mono B2.out.size))
      clear b3
      go_wp2_with fail
      refine (start_any a ca l _ (HX.out.below B3.out) h1 (HT.out.below B3.out)).mono ?_
      rintro e w4 ⟨hb, rfl, hs4, b4⟩
      have S4 := Lib.hid (show SkipL w3.heap.size hb w4 (joinE l (m.take 0)) from hs4)
      have B4 := Lib.hid (B3.out.trans (b4.mono B3.out.size))
      have Z3 := Lib.hid B3.out.size
      have Z4 := Lib.hid b4.size
      clear hs4 b4 h1
      go_wp2
      go_loopg [22] m.length (fun q v22 wr => ∃ k : Nat, k + q = m.length ∧ v22 = .int .i64 k ∧ SkipL w3.heap.size hb wr (joinE l (m.take k)) ∧ Below w.heap.size w wr ∧ w3.heap.size ≤ wr.heap.size)
      case atStart => exact ⟨0, by omega, rfl, S4.out, B4.out, Z4.out⟩
      case round =>
        clear B4 S4
        obtain ⟨k, hk, rfl, hs, hbw, hz⟩ := hrel
        have HK := Lib.hid hk
        have HS := Lib.hid hs
        have HB := Lib.hid hbw
        have HZ3 := Lib.hid hz
        clear hk hs hbw hz
        by_cases hlt : k < m.length
        · have hm0 : m ≠ [] := fun e => by rw [e] at hlt; simp at hlt
          obtain ⟨ba, oa, rfl, hc⟩ := HM.out.2.resolve_left hm0
          obtain ⟨c0, c1, c2, c3⟩ := cellsEntry HB.out hc k hlt
          have i1 : (k : Int) < (m.length : Int) := by omega
          have i2 : (0 : Int) ≤ (k : Int) := by omega
          have HMZ := Lib.hid (HZ.out m[k] (List.getElem_mem _))
          have HJ := Lib.hid (joinE_take (L := l) hlt)
          obtain ⟨⟨x0, x1, x2, x3⟩, hx⟩ : ∃ x, m[k] = x := ⟨_, rfl⟩
          rw [hx] at c0 c1 c2 c3 HMZ HJ
          dsimp only at c0 c1 c2 c3 HMZ
          clear hc hx hm0
          go_wp2_with fail
          have SK := Lib.hid (HS.out.below (below_alloc wr (.cells #[.string x0, .int .i64 x1, .bool x2, .string x3] 31)))
          have BB := Lib.hid (HB.out.alloc HB.out.size (.cells #[.string x0, .int .i64 x1, .bool x2, .string x3] 31))
          have ZZ := Lib.hid (show w3.heap.size ≤ (wr.alloc (.cells #[.string x0, .int .i64 x1, .bool x2, .string x3] 31)).heap.size by rw [World.size_alloc]; have := HZ3.out; omega)
          refine (put_list w3.heap.size hb _ x0 x1 x2 x3 _ ZZ.out SK.out (srt_join HSL.out _) (by have := HMZ.out; omega) (HT.out.below BB.out)).mono ?_
          rintro en w5 ⟨rfl, hs5, b5⟩
          have S5 := Lib.hid hs5
          have B5 := Lib.hid (BB.out.trans (b5.mono Z3.out))
          have Z5 := Lib.hid (Nat.le_trans ZZ.out b5.size)
          clear hs5 b5 c0 c1 c2 c3
          go_wp2
          go_roundg (gk - 1)
          case measure => have := HK.out; omega
          case rel => exact ⟨k + 1, by have := HK.out; omega, by go_num, by rw [HJ.out]; exact S5.out, B5.out, Z5.out⟩
        · have hke : k = m.length := by have := HK.out; omega
          have i1 : ¬ (k : Int) < (m.length : Int) := by omega
          have S6 := Lib.hid (show SkipL w3.heap.size hb wr (joinE l m) by have h := HS.out; rwa [List.take_of_length_le (by omega)] at h)
          clear hke HS
          obtain ⟨J, hJe⟩ : ∃ J, joinE l m = J := ⟨_, rfl⟩
          rw [hJe] at HJO hJ HOK S6
          have HJE := Lib.hid hJe
          clear hJe
          go_wp2_with fail
          refine (allMk_any hb wr).mono ?_
          rintro e w6 ⟨rfl, hw6⟩
          have B56 := show Below wr.heap.size wr w6 by rw [hw6]; exact below_alloc _ _
          have C6 := Lib.hid (show w6.cell? ⟨wr.heap.size, 0, none⟩ = some (.pointer (some ⟨hb, 0, none⟩)) by rw [hw6]; exact (Box.alloc wr #[.pointer (some ⟨hb, 0, none⟩)] 52 0 _ rfl).1)
          have S7 := Lib.hid (S6.out.below B56)
          have B6 := Lib.hid (HB.out.trans (B56.mono HB.out.size))
          clear hw6 B56
          go_wp2_with fail
          refine (collect_any wr.heap.size hb J (by omega) w6 C6.out w3.heap.size S7.out).mono ?_
          rintro e w7 ⟨v, rfl, o7, b7⟩
          obtain ⟨g, cg, rfl⟩ := own_shape o7
          have O7 := Lib.hid (own_mono B6.out.size o7)
          have B7 := Lib.hid (B6.out.trans (b7.mono B6.out.size))
          clear o7 b7
          go_wp2_with fail
          refine (implEntries_any _ _ J _ (own_el encEntry_len (by unfold maxLen; omega) O7.out) HOK.out).mono ?_
          rintro e w8 ⟨rfl, b8⟩
          have B8 := Lib.hid (B7.out.trans (b8.mono B7.out.size))
          have O8 := Lib.hid (own_below O7.out b8)
          clear b8
          cases h5 : entsB J with
          | false =>
            have HP := Lib.hid (show joinOk l m = false by rw [HJO.out, h5])
            clear h5
            go_wp2
            go_ret2
            exact OwnEB.of (L := []) ⟨.slice none 0 0, rfl, World.ownsRow_nil _ _ _ _, B8.out⟩ (joinL_no HP.out) HP.out.symm
          | true =>
            have HP := Lib.hid (show joinOk l m = true by rw [HJO.out, h5])
            clear h5
            go_wp2
            go_ret2
            exact OwnEB.of ⟨_, rfl, O8.out, B8.out⟩ (by rw [← HJE.out]; exact joinL_yes HP.out) HP.out.symm
end Go.Proofs.YteejabpohnfoaaaDoor
