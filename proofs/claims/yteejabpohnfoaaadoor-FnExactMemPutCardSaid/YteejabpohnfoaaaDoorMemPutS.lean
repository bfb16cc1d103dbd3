import Derived.Test.YteejabpohnfoaaaDoorMemPutI
import Derived.Test.YteejabpohnfoaaaDoorApp
/- MemPut and MemJoin of the model. -/
namespace Go.Proofs.YteejabpohnfoaaaDoor
open Go Go.RowKit

set_option maxRecDepth 100000 in
set_option maxHeartbeats 2000000 in
theorem specMemPut_any (a : Option Addr) (ca : Nat) (l : List EntryD) (x0 : ByteArray) (x1 : Int) (x2 : Bool) (x3 : ByteArray) (w : World) (hlen : l.length ≤ 1048576) (hcap : l.length ≤ ca) (hl : ElS 4 encEntry w a l) (hok : ∀ x ∈ l, OkEntry x) (s0 : x0.size ≤ maxLen) (s3 : x3.size ≤ maxLen) :
    Calls Tryd.prog 10 #[.slice a l.length ca, .agg #[.string x0, .int .i64 x1, .bool x2, .string x3]] w (OwnEB w (putL l (x0, x1, x2, x3)) (putOk l (x0, x1, x2, x3))) := by
  obtain ⟨i0, hi, hz0, hz1, hz2⟩ := info_parts infoEntry
  have HX := Lib.hid hl
  clear hl
  obtain ⟨w1, hw1⟩ : ∃ W, w.alloc (.cells #[.string x0, .int .i64 x1, .bool x2, .string x3] 31) = W := ⟨_, rfl⟩
  have BX := Lib.hid (show Box w1 w.heap.size [.string x0, .int .i64 x1, .bool x2, .string x3] by rw [← hw1]; exact Box.alloc w _ _)
  have B1 := Lib.hid (show Below w.heap.size w w1 by rw [← hw1]; exact below_alloc _ _)
  have KS := Lib.hid (show ∀ W, Below w1.heap.size w1 W → Below w.heap.size w W ∧ W.cell? ⟨w.heap.size, 0, none⟩ = some (.string x0) ∧ W.cell? ⟨w.heap.size, 1, none⟩ = some (.int .i64 x1) ∧ W.cell? ⟨w.heap.size, 2, none⟩ = some (.bool x2) ∧ W.cell? ⟨w.heap.size, 3, none⟩ = some (.string x3) from fun W hb => by
    have q := BX.out.below hb
    exact ⟨B1.out.trans (hb.mono B1.out.size), (q 0 _ rfl).1, (q 1 _ rfl).1, (q 2 _ rfl).1, (q 3 _ rfl).1⟩)
  cases h1 : entsB l with
  | false =>
    have HP := Lib.hid (show putOk l (x0, x1, x2, x3) = false by unfold putOk; rw [h1]; rfl)
    have H1 := Lib.hid h1
    clear h1
    go_enter Tryd.func10, Tryd.ntmps10
    go_wp2_with fail
    clear hw1
    refine (specEntries_any _ _ l _ (HX.out.below B1.out) hok).mono ?_
    rintro e w2 ⟨rfl, b2⟩
    rw [H1.out]
    obtain ⟨B2, d0, d1, d2, d3⟩ := KS.out _ b2
    have HB2 := Lib.hid B2
    clear B2
    have O0 := Lib.hid (World.ownsRow_made (e := 31) (size := 4) w2 #[] 0 (Nat.le_refl _) (by unfold maxLen; omega) rfl)
    have SR := Lib.hid (src_el encEntry_len (by decide) ((HX.out.below HB2.out).below (below_alloc w2 (.cells #[] 31))))
    go_wp2_with (at_builtin; refine wpList_append_src _ rfl _ _ 27 rfl w2.heap.size 31 i0 (.agg #[.string ⟨#[]⟩, .int .i64 0, .bool false, .string ⟨#[]⟩]) 4 48 Tryd.underlying27 hi hz0 hz1 hz2 rfl (by decide) _ 0 [] rfl O0.out a l.length ca (l.flatMap encEntry) rfl SR.out (fun u hu => one_ents hu) (by unfold maxLen; omega) (by omega) (by simp) ?_; intro v2 wz o2 g2 _)
    have BZ := Lib.hid ((HB2.out).trans ((show Below w2.heap.size w2 wz from (below_alloc w2 _).grown g2 (by simp) (fun k hk => (O0.out.lt k hk).1)).mono (HB2.out).size))
    have OZ := Lib.hid (show wz.ownsRow w.heap.size 31 4 v2 l.length (l.flatMap encEntry) from own_mono (HB2.out).size (by have h := o2; rwa [Nat.zero_add, List.nil_append] at h))
    clear o2 g2
    go_wp2
    go_ret2
    exact OwnEB.of ⟨v2, rfl, OZ.out, BZ.out⟩ (putL_no HP.out) HP.out.symm
  | true =>
    have H1 := Lib.hid h1
    have hle := (entsB_at h1).1
    cases h2 : entB (x0, x1, x2, x3) with
    | false =>
      have HP := Lib.hid (show putOk l (x0, x1, x2, x3) = false by unfold putOk; rw [h1, h2]; rfl)
      have H2 := Lib.hid h2
      clear h1 h2
      go_enter Tryd.func10, Tryd.ntmps10
      go_wp2_with fail
      clear hw1
      refine (specEntries_any _ _ l _ (HX.out.below B1.out) hok).mono ?_
      rintro e w2 ⟨rfl, b2⟩
      rw [H1.out]
      obtain ⟨B2, d0, d1, d2, d3⟩ := KS.out _ b2
      have HB2 := Lib.hid B2
      clear B2
      go_wp2_with fail
      refine (specOk_any x0 x1 x2 x3 _ s0 s3).mono ?_
      rintro e w3 ⟨rfl, b3⟩
      rw [H2.out]
      obtain ⟨B3, d0, d1, d2, d3⟩ := KS.out _ (b2.trans (b3.mono b2.size))
      have HB3 := Lib.hid B3
      clear B3 b3 b2
      have O0 := Lib.hid (World.ownsRow_made (e := 31) (size := 4) w3 #[] 0 (Nat.le_refl _) (by unfold maxLen; omega) rfl)
      have SR := Lib.hid (src_el encEntry_len (by decide) ((HX.out.below HB3.out).below (below_alloc w3 (.cells #[] 31))))
      go_wp2_with (at_builtin; refine wpList_append_src _ rfl _ _ 27 rfl w3.heap.size 31 i0 (.agg #[.string ⟨#[]⟩, .int .i64 0, .bool false, .string ⟨#[]⟩]) 4 48 Tryd.underlying27 hi hz0 hz1 hz2 rfl (by decide) _ 0 [] rfl O0.out a l.length ca (l.flatMap encEntry) rfl SR.out (fun u hu => one_ents hu) (by unfold maxLen; omega) (by omega) (by simp) ?_; intro v2 wz o2 g2 _)
      have BZ := Lib.hid ((HB3.out).trans ((show Below w3.heap.size w3 wz from (below_alloc w3 _).grown g2 (by simp) (fun k hk => (O0.out.lt k hk).1)).mono (HB3.out).size))
      have OZ := Lib.hid (show wz.ownsRow w.heap.size 31 4 v2 l.length (l.flatMap encEntry) from own_mono (HB3.out).size (by have h := o2; rwa [Nat.zero_add, List.nil_append] at h))
      clear o2 g2
      go_wp2
      go_ret2
      exact OwnEB.of ⟨v2, rfl, OZ.out, BZ.out⟩ (putL_no HP.out) HP.out.symm
    | true =>
      have H2 := Lib.hid h2
      cases h4 : hasE l (x0, x1, x2, x3) with
      | true =>
        have HP := Lib.hid (show putOk l (x0, x1, x2, x3) = false by unfold putOk; rw [h1, h2, h4]; simp)
        have H4 := Lib.hid h4
        clear h1 h2 h4
        go_enter Tryd.func10, Tryd.ntmps10
        go_wp2_with fail
        clear hw1
        refine (specEntries_any _ _ l _ (HX.out.below B1.out) hok).mono ?_
        rintro e w2 ⟨rfl, b2⟩
        rw [H1.out]
        obtain ⟨B2, d0, d1, d2, d3⟩ := KS.out _ b2
        have HB2 := Lib.hid B2
        clear B2
        go_wp2_with fail
        refine (specOk_any x0 x1 x2 x3 _ s0 s3).mono ?_
        rintro e w3 ⟨rfl, b3⟩
        rw [H2.out]
        obtain ⟨B3, e0, e1, e2, e3⟩ := KS.out _ (b2.trans (b3.mono b2.size))
        have HB3 := Lib.hid B3
        have b13 := b2.trans (b3.mono b2.size)
        clear B3 b3 b2 d0 d1 d2 d3
        go_wp2_with fail
        refine (specHas_any a ca l x0 x1 x2 x3 _ (HX.out.below HB3.out)).mono ?_
        rintro e w4 ⟨rfl, b4⟩
        rw [H4.out]
        have HB4 := Lib.hid (HB3.out.trans (b4.mono HB3.out.size))
        clear b4 b13 e0 e1 e2 e3
        have O0 := Lib.hid (World.ownsRow_made (e := 31) (size := 4) w4 #[] 0 (Nat.le_refl _) (by unfold maxLen; omega) rfl)
        have SR := Lib.hid (src_el encEntry_len (by decide) ((HX.out.below HB4.out).below (below_alloc w4 (.cells #[] 31))))
        go_wp2_with (at_builtin; refine wpList_append_src _ rfl _ _ 27 rfl w4.heap.size 31 i0 (.agg #[.string ⟨#[]⟩, .int .i64 0, .bool false, .string ⟨#[]⟩]) 4 48 Tryd.underlying27 hi hz0 hz1 hz2 rfl (by decide) _ 0 [] rfl O0.out a l.length ca (l.flatMap encEntry) rfl SR.out (fun u hu => one_ents hu) (by unfold maxLen; omega) (by omega) (by simp) ?_; intro v2 wz o2 g2 _)
        have BZ := Lib.hid ((HB4.out).trans ((show Below w4.heap.size w4 wz from (below_alloc w4 _).grown g2 (by simp) (fun k hk => (O0.out.lt k hk).1)).mono (HB4.out).size))
        have OZ := Lib.hid (show wz.ownsRow w.heap.size 31 4 v2 l.length (l.flatMap encEntry) from own_mono (HB4.out).size (by have h := o2; rwa [Nat.zero_add, List.nil_append] at h))
        clear o2 g2
        go_wp2
        go_ret2
        exact OwnEB.of ⟨v2, rfl, OZ.out, BZ.out⟩ (putL_no HP.out) HP.out.symm
      | false =>
        have H4 := Lib.hid h4
        by_cases h3 : l.length = 240
        · have HP := Lib.hid (show putOk l (x0, x1, x2, x3) = false by unfold putOk; rw [h1, h2, h4, decide_eq_false (by omega)]; rfl)
          have i3 : (240 : Int) ≤ (l.length : Int) := by omega
          have I3 := Lib.hid i3
          clear h1 h2 h4 h3 i3
          go_enter Tryd.func10, Tryd.ntmps10
          go_wp2_with fail
          clear hw1
          refine (specEntries_any _ _ l _ (HX.out.below B1.out) hok).mono ?_
          rintro e w2 ⟨rfl, b2⟩
          rw [H1.out]
          obtain ⟨B2, d0, d1, d2, d3⟩ := KS.out _ b2
          clear B2
          go_wp2_with fail
          refine (specOk_any x0 x1 x2 x3 _ s0 s3).mono ?_
          rintro e w3 ⟨rfl, b3⟩
          rw [H2.out]
          obtain ⟨B3, e0, e1, e2, e3⟩ := KS.out _ (b2.trans (b3.mono b2.size))
          have HB3 := Lib.hid B3
          clear B3 b3 b2 d0 d1 d2 d3
          go_wp2_with fail
          refine (specHas_any a ca l x0 x1 x2 x3 _ (HX.out.below HB3.out)).mono ?_
          rintro e w4 ⟨rfl, b4⟩
          rw [H4.out]
          have HB4 := Lib.hid (HB3.out.trans (b4.mono HB3.out.size))
          have i3 := I3.out
          clear b4 e0 e1 e2 e3
          have O0 := Lib.hid (World.ownsRow_made (e := 31) (size := 4) w4 #[] 0 (Nat.le_refl _) (by unfold maxLen; omega) rfl)
          have SR := Lib.hid (src_el encEntry_len (by decide) ((HX.out.below HB4.out).below (below_alloc w4 (.cells #[] 31))))
          go_wp2_with (at_builtin; refine wpList_append_src _ rfl _ _ 27 rfl w4.heap.size 31 i0 (.agg #[.string ⟨#[]⟩, .int .i64 0, .bool false, .string ⟨#[]⟩]) 4 48 Tryd.underlying27 hi hz0 hz1 hz2 rfl (by decide) _ 0 [] rfl O0.out a l.length ca (l.flatMap encEntry) rfl SR.out (fun u hu => one_ents hu) (by unfold maxLen; omega) (by omega) (by simp) ?_; intro v2 wz o2 g2 _)
          have BZ := Lib.hid ((HB4.out).trans ((show Below w4.heap.size w4 wz from (below_alloc w4 _).grown g2 (by simp) (fun k hk => (O0.out.lt k hk).1)).mono (HB4.out).size))
          have OZ := Lib.hid (show wz.ownsRow w.heap.size 31 4 v2 l.length (l.flatMap encEntry) from own_mono (HB4.out).size (by have h := o2; rwa [Nat.zero_add, List.nil_append] at h))
          clear o2 g2
          go_wp2
          go_ret2
          exact OwnEB.of ⟨v2, rfl, OZ.out, BZ.out⟩ (putL_no HP.out) HP.out.symm
        · have HP := Lib.hid (show putOk l (x0, x1, x2, x3) = true by unfold putOk; rw [h1, h2, h4, decide_eq_true (by omega)]; rfl)
          have i3 : ¬ (240 : Int) ≤ (l.length : Int) := by omega
          have I3 := Lib.hid i3
          clear h1 h2 h4 h3 i3
          go_enter Tryd.func10, Tryd.ntmps10
          go_wp2_with fail
          clear hw1
          refine (specEntries_any _ _ l _ (HX.out.below B1.out) hok).mono ?_
          rintro e w2 ⟨rfl, b2⟩
          rw [H1.out]
          obtain ⟨B2, d0, d1, d2, d3⟩ := KS.out _ b2
          clear B2
          go_wp2_with fail
          refine (specOk_any x0 x1 x2 x3 _ s0 s3).mono ?_
          rintro e w3 ⟨rfl, b3⟩
          rw [H2.out]
          obtain ⟨B3, e0, e1, e2, e3⟩ := KS.out _ (b2.trans (b3.mono b2.size))
          have HB3 := Lib.hid B3
          have b13 := Lib.hid (b2.trans (b3.mono b2.size))
          clear B3 b3 b2 d0 d1 d2 d3
          go_wp2_with fail
          refine (specHas_any a ca l x0 x1 x2 x3 _ (HX.out.below HB3.out)).mono ?_
          rintro e w4 ⟨rfl, b4⟩
          rw [H4.out]
          obtain ⟨B4, f0, f1, f2, f3⟩ := KS.out _ (b13.out.trans (b4.mono b13.out.size))
          have HB4 := Lib.hid B4
          have i3 := I3.out
          clear b4 e0 e1 e2 e3 B4
          go_wp2_with fail
          refine (specPut_any a ca l x0 x1 x2 x3 _ hlen hcap (HX.out.below HB4.out)).mono ?_
          rintro e w5 ⟨v, rfl, o5, b5⟩
          have O5 := Lib.hid (own_mono HB4.out.size o5)
          have B5 := Lib.hid (HB4.out.trans (b5.mono HB4.out.size))
          clear o5 b5 f0 f1 f2 f3 i3
          go_wp2
          go_ret2
          exact OwnEB.of ⟨v, rfl, O5.out, B5.out⟩ (putL_yes HP.out) HP.out.symm
end Go.Proofs.YteejabpohnfoaaaDoor
