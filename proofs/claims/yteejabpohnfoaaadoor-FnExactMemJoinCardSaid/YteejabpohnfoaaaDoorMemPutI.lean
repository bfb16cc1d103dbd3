import Derived.Test.YteejabpohnfoaaaDoorSkipD
import Derived.Test.YteejabpohnfoaaaDoorCloneEnt
import Derived.Test.YteejabpohnfoaaaDoorHasPut
/- MemPut and MemJoin of both sides. -/
namespace Go.Proofs.YteejabpohnfoaaaDoor
open Go Go.RowKit

def OwnEB (w : World) (L : List EntryD) (b : Bool) (e : Ending) (w' : World) : Prop := ∃ v, e = .returned (.tuple #[v, .bool b]) ∧ w'.ownsRow w.heap.size 31 4 v L.length (L.flatMap encEntry) ∧ Below w.heap.size w w'
theorem OwnEB.of {w w' : World} {L M : List EntryD} {b c : Bool} {e : Ending} (h : OwnEB w L b e w') (h1 : L = M) (h2 : b = c) : OwnEB w M c e w' := by subst h1; subst h2; exact h
def putOk (l : List EntryD) (e : EntryD) : Bool := entsB l && entB e && decide (l.length < 240) && !hasE l e
def putL (l : List EntryD) (e : EntryD) : List EntryD := if putOk l e = true then putE l e else l
theorem putL_no {l : List EntryD} {e : EntryD} (h : putOk l e = false) : l = putL l e := by unfold putL; rw [h]; rfl
theorem putL_yes {l : List EntryD} {e : EntryD} (h : putOk l e = true) : putE l e = putL l e := by unfold putL; rw [h]; rfl
set_option maxRecDepth 100000 in
set_option maxHeartbeats 2000000 in
theorem implPut_any (a : Option Addr) (ca : Nat) (l : List EntryD) (x0 : ByteArray) (x1 : Int) (x2 : Bool) (x3 : ByteArray) (w : World) (hlen : l.length ≤ 1048576) (hl : ElS 4 encEntry w a l) (hok : ∀ x ∈ l, OkEntry x) (s0 : x0.size ≤ maxLen) (s3 : x3.size ≤ maxLen) (hn : a = none → l.length = 0 ∧ ca = 0) (ht : HashT w) :
    Calls Tryd.prog 13 #[.slice a l.length ca, .agg #[.string x0, .int .i64 x1, .bool x2, .string x3]] w (OwnEB w (putL l (x0, x1, x2, x3)) (putOk l (x0, x1, x2, x3))) := by
  have HX := Lib.hid hl
  have HT := Lib.hid ht
  clear hl ht
  obtain ⟨w1, hw1⟩ : ∃ W, w.alloc (.cells #[.string x0, .int .i64 x1, .bool x2, .string x3] 31) = W := ⟨_, rfl⟩
  have BX := Lib.hid (show Box w1 w.heap.size [.string x0, .int .i64 x1, .bool x2, .string x3] by rw [← hw1]; exact Box.alloc w _ _)
  have B1 := Lib.hid (show Below w.heap.size w w1 by rw [← hw1]; exact below_alloc _ _)
  have KS := Lib.hid (show ∀ W, Below w1.heap.size w1 W → Below w.heap.size w W ∧ W.cell? ⟨w.heap.size, 0, none⟩ = some (.string x0) ∧ W.cell? ⟨w.heap.size, 1, none⟩ = some (.int .i64 x1) ∧ W.cell? ⟨w.heap.size, 2, none⟩ = some (.bool x2) ∧ W.cell? ⟨w.heap.size, 3, none⟩ = some (.string x3) from fun W hb => by
    have q := BX.out.below hb
    exact ⟨B1.out.trans (hb.mono B1.out.size), (q 0 _ rfl).1, (q 1 _ rfl).1, (q 2 _ rfl).1, (q 3 _ rfl).1⟩)
  cases h1 : entsB l with
  | false =>
    have HP := Lib.hid (show putOk l (x0, x1, x2, x3) = false by unfold putOk; rw [h1]; rfl)
    have H1 := Lib.hid h1
    clear h1
    go_enter Tryd.func13, Tryd.ntmps13
    go_wp2_with fail
    clear hw1
    refine (implEntries_any _ _ l _ (HX.out.below B1.out) hok).mono ?_
    rintro e w2 ⟨rfl, b2⟩
    rw [H1.out]
    obtain ⟨B2, d0, d1, d2, d3⟩ := KS.out _ b2
    have HB2 := Lib.hid B2
    clear B2
    go_wp2_with fail
    refine (cloneEnt_any a ca l _ (HX.out.below HB2.out) hlen hn).mono ?_
    rintro e w3 ⟨v, rfl, o3, b3⟩
    have O3 := Lib.hid (own_mono HB2.out.size o3)
    have B3 := Lib.hid (HB2.out.trans (b3.mono HB2.out.size))
    clear o3 b3 d0 d1 d2 d3
    go_wp2
    go_ret2
    exact OwnEB.of ⟨v, rfl, O3.out, B3.out⟩ (putL_no HP.out) HP.out.symm
  | true =>
    have H1 := Lib.hid h1
    cases h2 : entB (x0, x1, x2, x3) with
    | false =>
      have HP := Lib.hid (show putOk l (x0, x1, x2, x3) = false by unfold putOk; rw [h1, h2]; rfl)
      have H2 := Lib.hid h2
      clear h1 h2
      go_enter Tryd.func13, Tryd.ntmps13
      go_wp2_with fail
      clear hw1
      refine (implEntries_any _ _ l _ (HX.out.below B1.out) hok).mono ?_
      rintro e w2 ⟨rfl, b2⟩
      rw [H1.out]
      obtain ⟨B2, d0, d1, d2, d3⟩ := KS.out _ b2
      have HB2 := Lib.hid B2
      clear B2
      go_wp2_with fail
      refine (implOk_any x0 x1 x2 x3 _ s0 s3).mono ?_
      rintro e w3 ⟨rfl, b3⟩
      rw [H2.out]
      have HB3 := Lib.hid (HB2.out.trans (b3.mono HB2.out.size))
      clear b3 b2 d0 d1 d2 d3
      go_wp2_with fail
      refine (cloneEnt_any a ca l _ (HX.out.below HB3.out) hlen hn).mono ?_
      rintro e w4 ⟨v, rfl, o4, b4⟩
      have O4 := Lib.hid (own_mono HB3.out.size o4)
      have B4 := Lib.hid (HB3.out.trans (b4.mono HB3.out.size))
      clear o4 b4
      go_wp2
      go_ret2
      exact OwnEB.of ⟨v, rfl, O4.out, B4.out⟩ (putL_no HP.out) HP.out.symm
    | true =>
      have H2 := Lib.hid h2
      have hle := (entsB_at h1).1
      have HSR := Lib.hid (srt_of h1)
      by_cases h3 : l.length = 240
      · have HP := Lib.hid (show putOk l (x0, x1, x2, x3) = false by unfold putOk; rw [h1, h2, decide_eq_false (by omega)]; rfl)
        have i3 : (l.length : Int) = 240 := by omega
        have I3 := Lib.hid i3
        have H3 := Lib.hid h3
        clear h1 h2 h3 i3
        go_enter Tryd.func13, Tryd.ntmps13
        go_wp2_with fail
        clear hw1
        refine (implEntries_any _ _ l _ (HX.out.below B1.out) hok).mono ?_
        rintro e w2 ⟨rfl, b2⟩
        rw [H1.out]
        obtain ⟨B2, d0, d1, d2, d3⟩ := KS.out _ b2
        have HB2 := Lib.hid B2
        clear B2
        go_wp2_with fail
        refine (implOk_any x0 x1 x2 x3 _ s0 s3).mono ?_
        rintro e w3 ⟨rfl, b3⟩
        rw [H2.out]
        have HB3 := Lib.hid (HB2.out.trans (b3.mono HB2.out.size))
        clear b3 b2 d0 d1 d2 d3
        have i3 := I3.out
        go_wp2_with fail
        refine (cloneEnt_any a ca l _ (HX.out.below HB3.out) hlen hn).mono ?_
        rintro e w4 ⟨v, rfl, o4, b4⟩
        have O4 := Lib.hid (own_mono HB3.out.size o4)
        have B4 := Lib.hid (HB3.out.trans (b4.mono HB3.out.size))
        clear o4 b4 i3
        go_wp2
        go_ret2
        exact OwnEB.of ⟨v, rfl, O4.out, B4.out⟩ (putL_no HP.out) HP.out.symm
      · have i3 : ¬ (l.length : Int) = 240 := by omega
        have HPO := Lib.hid (show putOk l (x0, x1, x2, x3) = !hasE l (x0, x1, x2, x3) by unfold putOk; rw [h1, h2, decide_eq_true (by omega)]; simp)
        have HPL := Lib.hid (show addE l (x0, x1, x2, x3) = putL l (x0, x1, x2, x3) by
          unfold addE putL
          rw [HPO.out]
          cases hasE l (x0, x1, x2, x3) <;> rfl)
        have HLN := Lib.hid (show (addE l (x0, x1, x2, x3)).length ≤ 1000 by
          unfold addE
          split
          · omega
          · rw [putE_len]; omega)
        have HZ := Lib.hid (show x0.size ≤ 549755813888 by
          have h := h2
          unfold entB keyB inB at h
          simp only [Bool.and_eq_true, decide_eq_true_eq] at h
          omega)
        clear h2 h3
        go_enter Tryd.func13, Tryd.ntmps13
        go_wp2_with fail
        clear hw1
        refine (implEntries_any _ _ l _ (HX.out.below B1.out) hok).mono ?_
        rintro e w2 ⟨rfl, b2⟩
        rw [H1.out]
        obtain ⟨B2, d0, d1, d2, d3⟩ := KS.out _ b2
        have HB2 := Lib.hid B2
        clear B2
        go_wp2_with fail
        refine (implOk_any x0 x1 x2 x3 _ s0 s3).mono ?_
        rintro e w3 ⟨rfl, b3⟩
        rw [H2.out]
        have HB3 := Lib.hid (HB2.out.trans (b3.mono HB2.out.size))
        have BX3 := Lib.hid ((BX.out.below b2).below b3)
        clear b3 b2 d0 d1 d2 d3
        go_wp2_with fail
        refine (start_any a ca l _ (HX.out.below HB3.out) h1 (HT.out.below HB3.out)).mono ?_
        rintro e w4 ⟨hb, rfl, hs4, b4⟩
        have S4 := Lib.hid hs4
        have B4 := Lib.hid (HB3.out.trans (b4.mono HB3.out.size))
        have bx4 := BX3.out.below b4
        have Z4 := Lib.hid b4.size
        obtain ⟨⟨d0, -⟩, ⟨d1, -⟩, ⟨d2, -⟩, d3, -⟩ := show _ ∧ _ ∧ _ ∧ _ from ⟨bx4 0 _ rfl, bx4 1 _ rfl, bx4 2 _ rfl, bx4 3 _ rfl⟩
        clear hs4 b4 bx4 h1
        go_wp2_with fail
        refine (put_list w3.heap.size hb l x0 x1 x2 x3 w4 Z4.out S4.out HSR.out HZ.out (HT.out.below B4.out)).mono ?_
        rintro e w5 ⟨rfl, hs5, b5⟩
        have S5 := Lib.hid hs5
        have B5 := Lib.hid (B4.out.trans (b5.mono HB3.out.size))
        obtain ⟨r, hr⟩ : ∃ r, (!hasE l (x0, x1, x2, x3)) = r := ⟨_, rfl⟩
        have HR := Lib.hid hr
        rw [hr]
        clear hs5 b5 hr d0 d1 d2 d3
        go_wp2_with fail
        refine (allMk_any hb w5).mono ?_
        rintro e w6 ⟨rfl, hw6⟩
        have B56 := show Below w5.heap.size w5 w6 by rw [hw6]; exact below_alloc _ _
        have C6 := Lib.hid (show w6.cell? ⟨w5.heap.size, 0, none⟩ = some (.pointer (some ⟨hb, 0, none⟩)) by rw [hw6]; exact (Box.alloc w5 #[.pointer (some ⟨hb, 0, none⟩)] 52 0 _ rfl).1)
        have S6 := Lib.hid (S5.out.below B56)
        have B6 := Lib.hid (B5.out.trans (B56.mono B5.out.size))
        clear hw6 B56
        go_wp2_with fail
        refine (collect_any w5.heap.size hb _ HLN.out w6 C6.out w3.heap.size S6.out).mono ?_
        rintro e w7 ⟨v, rfl, o7, b7⟩
        have O7 := Lib.hid (own_mono B6.out.size o7)
        have B7 := Lib.hid (B6.out.trans (b7.mono B6.out.size))
        clear o7 b7
        go_wp2
        go_ret2
        exact OwnEB.of ⟨v, rfl, O7.out, B7.out⟩ HPL.out (by rw [HPO.out, HR.out])
end Go.Proofs.YteejabpohnfoaaaDoor
