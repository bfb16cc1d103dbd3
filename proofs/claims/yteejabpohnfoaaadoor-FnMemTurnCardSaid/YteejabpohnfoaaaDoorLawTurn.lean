import Derived.Test.YteejabpohnfoaaaDoorDrawPut
import Derived.Test.YteejabpohnfoaaaDoorPutLawP
import Derived.Test.YteejabpohnfoaaaDoorWmE
/- The walk of FnMemTurn. -/
namespace Go.Proofs.YteejabpohnfoaaaDoor
open Go Go.RowKit

theorem putL_okE {L : List EntryD} {e : EntryD} (h : ∀ x ∈ L, OkEntry x) (he : OkEntry e) : ∀ x ∈ putL L e, OkEntry x := by
  unfold putL
  split
  · intro x hx
    rcases putE_mem hx with rfl | hx
    · exact he
    · exact h x hx
  · exact h
theorem putL_le (L : List EntryD) (e : EntryD) : (putL L e).length ≤ L.length + 1 := by
  unfold putL
  split
  · rw [putE_len]; omega
  · omega
theorem putL_t {L : List EntryD} {e : EntryD} (h : putOk L e = true) : putL L e = putE L e := by unfold putL; rw [h]; rfl
set_option maxRecDepth 100000 in
set_option maxHeartbeats 4000000 in
theorem fnMemTurnWalk (a : Option Addr) (c : Nat) (l : List UInt8) (hl : l.length ≤ c) (hc : c ≤ maxLen) {w : World} (h : BytesS w a l) (a' : Option Addr) (c' : Nat) (l' : List UInt8) (hl' : l'.length ≤ c') (hc' : c' ≤ maxLen) (h' : BytesS w a' l') (ht : HashT w) :
    Calls Tryd.prog 6 #[.slice a l.length c, .slice a' l'.length c'] w fun e w' => e = .returned (.bool true) ∧ Below w.heap.size w w' := by
  have hcl := hc
  have hcl' := hc'
  unfold maxLen at hcl hcl'
  have HT := Lib.hid ht
  have HB' := Lib.hid h'
  clear ht h'
  by_cases hb : (1048576 : Int) < (l.length : Int)
  · go_enter Tryd.func6, Tryd.ntmps6
    go_wp2
    go_ret
    exact ⟨rfl, Below.refl _ _⟩
  have hb' : ¬ (1048576 : Int) < (l.length : Int) := hb
  clear hb
  by_cases hb : (1048576 : Int) < (l'.length : Int)
  · go_enter Tryd.func6, Tryd.ntmps6
    go_wp2
    go_ret
    exact ⟨rfl, Below.refl _ _⟩
  have hb2 : ¬ (1048576 : Int) < (l'.length : Int) := hb
  clear hb
  go_enter Tryd.func6, Tryd.ntmps6
  go_wp2_with fail
  refine (drawPut_any a c l _ hl hc h).mono ?_
  rintro e w1 ⟨b1, cb1, L, ⟨x0, x1, x2, x3⟩, rfl, e1, hcb, hE, hn1, -, sz0, sz3, -, -, B1⟩
  dsimp only at sz0 sz3 ⊢
  have HE := Lib.hid hE.ok
  have E1 := Lib.hid e1
  have G1 := Lib.hid B1
  have hxo : OkEntry (x0, x1, x2, x3) := ⟨by show x0.size ≤ maxLen; unfold maxLen; omega, by show x3.size ≤ maxLen; unfold maxLen; omega⟩
  clear e1 hE B1
  obtain ⟨w2, hw2⟩ : ∃ W, w1.alloc (.cells #[.string x0, .int .i64 x1, .bool x2, .string x3] 31) = W := ⟨_, rfl⟩
  have b12 : Below w1.heap.size w1 w2 := by rw [← hw2]; exact below_alloc _ _
  have BX := Lib.hid (show Box w2 w1.heap.size [.string x0, .int .i64 x1, .bool x2, .string x3] by rw [← hw2]; exact Box.alloc w1 _ _)
  have E2 := Lib.hid (E1.out.below b12)
  have G2 := Lib.hid (G1.out.trans (b12.mono G1.out.size))
  clear b12 E1 G1
  go_wp2_with fail
  clear hw2
  refine (drawPut_any a' c' l' w2 hl' hc' (bytes_below G2.out HB'.out)).mono ?_
  rintro e w3 ⟨b3, cb3, L3, ⟨y0, y1, y2, y3⟩, rfl, -, -, -, -, -, tz0, tz3, -, -, B3⟩
  dsimp only at tz0 tz3 ⊢
  have hyo : OkEntry (y0, y1, y2, y3) := ⟨by show y0.size ≤ maxLen; unfold maxLen; omega, by show y3.size ≤ maxLen; unfold maxLen; omega⟩
  have E3 := Lib.hid (E2.out.below B3)
  have BX3 := Lib.hid (BX.out.below B3)
  have G3 := Lib.hid (G2.out.trans (B3.mono G2.out.size))
  clear B3 E2 BX G2
  obtain ⟨w4, hw4⟩ : ∃ W, w3.alloc (.cells #[.string y0, .int .i64 y1, .bool y2, .string y3] 31) = W := ⟨_, rfl⟩
  have b34 : Below w3.heap.size w3 w4 := by rw [← hw4]; exact below_alloc _ _
  have BY := Lib.hid (show Box w4 w3.heap.size [.string y0, .int .i64 y1, .bool y2, .string y3] by rw [← hw4]; exact Box.alloc w3 _ _)
  have BX4 := Lib.hid (BX3.out.below b34)
  have E := Lib.hid (E3.out.below b34)
  have G4 := Lib.hid (G3.out.trans (b34.mono G3.out.size))
  clear b34 E3 BX3 G3
  have KS := Lib.hid (show ∀ W, Below w4.heap.size w4 W → W.cell? ⟨w1.heap.size, 0, none⟩ = some (.string x0) ∧ W.cell? ⟨w1.heap.size, 1, none⟩ = some (.int .i64 x1) ∧ W.cell? ⟨w1.heap.size, 2, none⟩ = some (.bool x2) ∧ W.cell? ⟨w1.heap.size, 3, none⟩ = some (.string x3) ∧ W.cell? ⟨w3.heap.size, 0, none⟩ = some (.string y0) ∧ W.cell? ⟨w3.heap.size, 1, none⟩ = some (.int .i64 y1) ∧ W.cell? ⟨w3.heap.size, 2, none⟩ = some (.bool y2) ∧ W.cell? ⟨w3.heap.size, 3, none⟩ = some (.string y3) from fun W hb => by
    have q := BX4.out.below hb
    have q' := BY.out.below hb
    exact ⟨(q 0 _ rfl).1, (q 1 _ rfl).1, (q 2 _ rfl).1, (q 3 _ rfl).1, (q' 0 _ rfl).1, (q' 1 _ rfl).1, (q' 2 _ rfl).1, (q' 3 _ rfl).1⟩)
  have H4 := Lib.hid (Below.refl w4.heap.size w4)
  obtain ⟨R, hR⟩ : ∃ R, putL L (x0, x1, x2, x3) = R := ⟨_, rfl⟩
  obtain ⟨RB, hRB⟩ : ∃ RB, putOk L (x0, x1, x2, x3) = RB := ⟨_, rfl⟩
  have HR := Lib.hid hR
  have HRB := Lib.hid hRB
  have hRn : R.length ≤ 242 := by rw [← hR]; have := putL_le L (x0, x1, x2, x3); omega
  have HRO := Lib.hid (show ∀ x ∈ R, OkEntry x by rw [← hR]; exact putL_okE HE.out hxo)
  have hbb : (RB != RB) = false := by simp
  have hbe : (RB == RB) = true := by simp
  clear hR hRB
  obtain ⟨d0, d1, d2, d3, f0, f1, f2, f3⟩ := KS.out _ H4.out
  go_wp2_with fail
  clear hw4 d0 d1 d2 d3 f0 f1 f2 f3
  refine (implPut_any _ _ L x0 x1 x2 x3 _ (by omega) E.out HE.out hxo.1 hxo.2 (HT.out.below G4.out)).mono ?_
  rintro e w5 ⟨v5, rfl, o, b⟩
  rw [HR.out] at o
  rw [HRB.out]
  obtain ⟨a5, c5, rfl⟩ := own_shape o
  have X := Lib.hid (own_el encEntry_len (by unfold maxLen; omega) o)
  clear o
  have H5 := Lib.hid (H4.out.trans (b.mono H4.out.size))
  replace E := Lib.hid (E.out.below b)
  clear b
  obtain ⟨d0, d1, d2, d3, f0, f1, f2, f3⟩ := KS.out _ H5.out
  go_wp2_with fail
  clear d0 d1 d2 d3 f0 f1 f2 f3
  refine (specMemPut_any _ _ L x0 x1 x2 x3 _ (by omega) hcb E.out HE.out hxo.1 hxo.2).mono ?_
  rintro e w6 ⟨v6, rfl, o, b⟩
  rw [HR.out] at o
  rw [HRB.out]
  obtain ⟨a6, c6, rfl⟩ := own_shape o
  have Y := Lib.hid (own_el encEntry_len (by unfold maxLen; omega) o)
  clear o
  have H6 := Lib.hid (H5.out.trans (b.mono H5.out.size))
  replace E := Lib.hid (E.out.below b)
  replace X := Lib.hid (X.out.below b)
  clear b
  go_wp2_with fail
  refine (wmEnts_any _ _ _ _ R _ (by omega) X.out Y.out).mono ?_
  rintro e w7 ⟨rfl, b⟩
  have H7 := Lib.hid (H6.out.trans (b.mono H6.out.size))
  replace E := Lib.hid (E.out.below b)
  replace X := Lib.hid (X.out.below b)
  replace Y := Lib.hid (Y.out.below b)
  clear b
  cases RB with
  | false =>
    go_wp2_with fail
    refine (wmEnts_any _ _ _ _ R _ (by omega) X.out Y.out).mono ?_
    rintro e w8 ⟨rfl, b⟩
    have G8 := Lib.hid (G4.out.trans ((H7.out.trans (b.mono H7.out.size)).mono G4.out.size))
    clear b
    go_wp2
    go_ret
    exact ⟨rfl, G8.out⟩
  | true =>
    clear Y
    have HRE := Lib.hid (HR.out.symm.trans (putL_t HRB.out))
    obtain ⟨R2, hR2⟩ : ∃ R2, putL R (y0, y1, y2, y3) = R2 := ⟨_, rfl⟩
    obtain ⟨B2, hB2⟩ : ∃ B2, putOk R (y0, y1, y2, y3) = B2 := ⟨_, rfl⟩
    obtain ⟨R3, hR3⟩ : ∃ R3, putL L (y0, y1, y2, y3) = R3 := ⟨_, rfl⟩
    obtain ⟨B3, hB3⟩ : ∃ B3, putOk L (y0, y1, y2, y3) = B3 := ⟨_, rfl⟩
    obtain ⟨R4, hR4⟩ : ∃ R4, putL R3 (x0, x1, x2, x3) = R4 := ⟨_, rfl⟩
    obtain ⟨B4, hB4⟩ : ∃ B4, putOk R3 (x0, x1, x2, x3) = B4 := ⟨_, rfl⟩
    have n2 : R2.length ≤ 243 := by rw [← hR2]; have := putL_le R (y0, y1, y2, y3); omega
    have n3 : R3.length ≤ 242 := by rw [← hR3]; have := putL_le L (y0, y1, y2, y3); omega
    have n4 : R4.length ≤ 243 := by rw [← hR4]; have := putL_le R3 (x0, x1, x2, x3); omega
    have O2 := Lib.hid (show ∀ x ∈ R2, OkEntry x by rw [← hR2]; exact putL_okE HRO.out hyo)
    have O3 := Lib.hid (show ∀ x ∈ R3, OkEntry x by rw [← hR3]; exact putL_okE HE.out hyo)
    have T := Lib.hid (show B2 = true → B3 = true ∧ B4 = true ∧ R4 = R2 ∧ entsB R2 = true by
      intro q
      rw [q, HRE.out] at hB2
      obtain ⟨p1, p2, p3⟩ := put_turn HRB.out hB2
      have r3 := putL_t p1
      rw [hR3] at r3
      rw [← r3] at p2
      refine ⟨hB3.symm.trans p1, hB4.symm.trans p2, ?_, ?_⟩
      · rw [← hR4, putL_t p2, ← hR2, HRE.out, putL_t hB2, p3, r3]
      · rw [← hR2, HRE.out, putL_t hB2]
        exact put_ents hB2)
    have Q2 := Lib.hid hR2
    have Q3 := Lib.hid hR3
    have Q4 := Lib.hid hR4
    have S2 := Lib.hid hB2
    have S3 := Lib.hid hB3
    have S4 := Lib.hid hB4
    clear hR2 hR3 hR4 hB2 hB3 hB4
    obtain ⟨d0, d1, d2, d3, f0, f1, f2, f3⟩ := KS.out _ H7.out
    go_wp2_with fail
    clear d0 d1 d2 d3 f0 f1 f2 f3
    refine (implPut_any _ _ R y0 y1 y2 y3 _ (by omega) X.out HRO.out hyo.1 hyo.2 (HT.out.below (G4.out.trans (H7.out.mono G4.out.size)))).mono ?_
    rintro e w8 ⟨v8, rfl, o, b⟩
    rw [Q2.out] at o
    rw [S2.out]
    obtain ⟨a8, c8, rfl⟩ := own_shape o
    have P2 := Lib.hid (own_el encEntry_len (by unfold maxLen; omega) o)
    clear o
    have H8 := Lib.hid (H7.out.trans (b.mono H7.out.size))
    replace E := Lib.hid (E.out.below b)
    replace X := Lib.hid (X.out.below b)
    clear b
    obtain ⟨d0, d1, d2, d3, f0, f1, f2, f3⟩ := KS.out _ H8.out
    go_wp2_with fail
    clear d0 d1 d2 d3 f0 f1 f2 f3
    refine (implPut_any _ _ L y0 y1 y2 y3 _ (by omega) E.out HE.out hyo.1 hyo.2 (HT.out.below (G4.out.trans (H8.out.mono G4.out.size)))).mono ?_
    rintro e w9 ⟨v9, rfl, o, b⟩
    rw [Q3.out] at o
    rw [S3.out]
    obtain ⟨a9, c9, rfl⟩ := own_shape o
    have P3 := Lib.hid (own_el encEntry_len (by unfold maxLen; omega) o)
    clear o
    have H9 := Lib.hid (H8.out.trans (b.mono H8.out.size))
    replace E := Lib.hid (E.out.below b)
    replace X := Lib.hid (X.out.below b)
    replace P2 := Lib.hid (P2.out.below b)
    clear b
    obtain ⟨d0, d1, d2, d3, f0, f1, f2, f3⟩ := KS.out _ H9.out
    go_wp2_with fail
    clear d0 d1 d2 d3 f0 f1 f2 f3
    refine (implPut_any _ _ R3 x0 x1 x2 x3 _ (by omega) P3.out O3.out hxo.1 hxo.2 (HT.out.below (G4.out.trans (H9.out.mono G4.out.size)))).mono ?_
    rintro e w10 ⟨v10, rfl, o, b⟩
    rw [Q4.out] at o
    rw [S4.out]
    obtain ⟨a10, c10, rfl⟩ := own_shape o
    have P4 := Lib.hid (own_el encEntry_len (by unfold maxLen; omega) o)
    clear o
    have H10 := Lib.hid (H9.out.trans (b.mono H9.out.size))
    replace E := Lib.hid (E.out.below b)
    replace X := Lib.hid (X.out.below b)
    replace P2 := Lib.hid (P2.out.below b)
    replace P3 := Lib.hid (P3.out.below b)
    clear b
    cases B2 with
    | false =>
      go_wp2
      go_ret
      exact ⟨rfl, (G4.out.trans (H10.out.mono G4.out.size))⟩
    | true =>
      obtain ⟨rfl, rfl, h4, h5⟩ := T.out rfl
      have H5' := Lib.hid h5
      have P5 := Lib.hid (show ElS 4 encEntry w10 a10 R2 by rw [← h4]; exact P4.out)
      rw [h4]
      clear h5 h4 P4
      go_wp2_with fail
      refine (wmEnts_any _ _ _ _ R2 _ (by omega) P2.out P5.out).mono ?_
      rintro e w11 ⟨rfl, b⟩
      have P6 := Lib.hid (P2.out.below b)
      have H11 := Lib.hid (H10.out.trans (b.mono H10.out.size))
      clear b
      go_wp2_with fail
      refine (implEntries_any _ _ R2 _ P6.out O2.out).mono ?_
      rintro e w12 ⟨rfl, b⟩
      rw [H5'.out]
      have H12 := Lib.hid (H11.out.trans (b.mono H11.out.size))
      clear b
      go_wp2
      go_ret
      exact ⟨rfl, (G4.out.trans (H12.out.mono G4.out.size))⟩
end Go.Proofs.YteejabpohnfoaaaDoor
