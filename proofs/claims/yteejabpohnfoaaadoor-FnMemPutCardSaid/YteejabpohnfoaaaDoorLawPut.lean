import Derived.Test.YteejabpohnfoaaaDoorDrawPut
import Derived.Test.YteejabpohnfoaaaDoorPutLawP
import Derived.Test.YteejabpohnfoaaaDoorWmE
/- The walk of FnMemPut. -/
namespace Go.Proofs.YteejabpohnfoaaaDoor
open Go Go.RowKit


set_option maxRecDepth 100000 in
set_option maxHeartbeats 4000000 in
theorem fnMemPutWalk (a : Option Addr) (c : Nat) (l : List UInt8) (hl : l.length ≤ c) (hc : c ≤ maxLen) {w : World} (h : BytesS w a l) (ht : HashT w) :
    Calls Tryd.prog 5 #[.slice a l.length c] w fun e w' => e = .returned (.bool true) ∧ Below w.heap.size w w' := by
  have hcl := hc
  unfold maxLen at hcl
  have HT := Lib.hid ht
  clear ht
  by_cases hb : (1048576 : Int) < (l.length : Int)
  · go_enter Tryd.func5, Tryd.ntmps5
    go_wp2
    go_ret
    exact ⟨rfl, Below.refl _ _⟩
  have hb' : (l.length : Int) ≤ 1048576 := by omega
  clear hb
  go_enter Tryd.func5, Tryd.ntmps5
  go_wp2_with fail
  refine (drawPut_any a c l _ hl hc h).mono ?_
  rintro e w1 ⟨b1, cb1, L, ⟨x0, x1, x2, x3⟩, rfl, e1, hcb, hE, hn1, hzz, sz0, sz3, q0, q1, B1⟩
  dsimp only at hzz sz0 sz3 q0 q1 ⊢
  have HE := Lib.hid hE.ok
  obtain ⟨w2, hw2⟩ : ∃ W, w1.alloc (.cells #[.string x0, .int .i64 x1, .bool x2, .string x3] 31) = W := ⟨_, rfl⟩
  have b12 : Below w1.heap.size w1 w2 := by rw [← hw2]; exact below_alloc _ _
  have KS := Lib.hid (show ∀ W, Below w2.heap.size w2 W → W.cell? ⟨w1.heap.size, 0, none⟩ = some (.string x0) ∧ W.cell? ⟨w1.heap.size, 1, none⟩ = some (.int .i64 x1) ∧ W.cell? ⟨w1.heap.size, 2, none⟩ = some (.bool x2) ∧ W.cell? ⟨w1.heap.size, 3, none⟩ = some (.string x3) from fun W hb => by
    have q := (show Box w2 w1.heap.size [.string x0, .int .i64 x1, .bool x2, .string x3] by rw [← hw2]; exact Box.alloc w1 _ _).below hb
    exact ⟨(q 0 _ rfl).1, (q 1 _ rfl).1, (q 2 _ rfl).1, (q 3 _ rfl).1⟩)
  have E := Lib.hid (e1.below b12)
  have H2 := Lib.hid (Below.refl w2.heap.size w2)
  have G2 := Lib.hid (B1.trans (b12.mono B1.size))
  have m0 : x0.size ≤ maxLen := by unfold maxLen; omega
  have m3 : x3.size ≤ maxLen := by unfold maxLen; omega
  clear e1 hE B1 b12
  obtain ⟨R, hR⟩ : ∃ R, putL L (x0, x1, x2, x3) = R := ⟨_, rfl⟩
  obtain ⟨RB, hRB⟩ : ∃ RB, putOk L (x0, x1, x2, x3) = RB := ⟨_, rfl⟩
  have HR := Lib.hid hR
  have HRB := Lib.hid hRB
  have hRn : R.length ≤ 242 := by
    rw [← hR]
    unfold putL
    split
    · rw [putE_len]; omega
    · omega
  have hRok : ∀ x ∈ R, OkEntry x := by
    rw [← hR]
    unfold putL
    split
    · intro x hx
      rcases putE_mem hx with rfl | hx
      · exact ⟨m0, m3⟩
      · exact HE.out x hx
    · exact HE.out
  have HRO := Lib.hid hRok
  have hbb : (RB != RB) = false := by simp
  clear hR hRB hRok
  obtain ⟨d0, d1, d2, d3⟩ := KS.out _ H2.out
  go_wp2_with fail
  clear hw2 d0 d1 d2 d3
  refine (implPut_any _ _ L x0 x1 x2 x3 _ (by omega) E.out HE.out m0 m3 (HT.out.below G2.out)).mono ?_
  rintro e w3 ⟨v3, rfl, o, b⟩
  rw [HR.out] at o
  rw [HRB.out]
  obtain ⟨a3, c3, rfl⟩ := own_shape o
  have X := Lib.hid (own_el encEntry_len (by unfold maxLen; omega) o)
  clear o
  have H3 := Lib.hid (H2.out.trans (b.mono H2.out.size))
  replace E := Lib.hid (E.out.below b)
  clear b
  obtain ⟨d0, d1, d2, d3⟩ := KS.out _ H3.out
  go_wp2_with fail
  clear d0 d1 d2 d3
  refine (specMemPut_any _ _ L x0 x1 x2 x3 _ (by omega) hcb E.out HE.out m0 m3).mono ?_
  rintro e w4 ⟨v4, rfl, o, b⟩
  rw [HR.out] at o
  rw [HRB.out]
  obtain ⟨a4, c4, rfl⟩ := own_shape o
  have Y := Lib.hid (own_el encEntry_len (by unfold maxLen; omega) o)
  clear o
  have H4 := Lib.hid (H3.out.trans (b.mono H3.out.size))
  replace E := Lib.hid (E.out.below b)
  replace X := Lib.hid (X.out.below b)
  clear b
  go_wp2_with fail
  refine (wmEnts_any _ _ _ _ R _ (by omega) X.out Y.out).mono ?_
  rintro e w5 ⟨rfl, b⟩
  have H5 := Lib.hid (H4.out.trans (b.mono H4.out.size))
  replace E := Lib.hid (E.out.below b)
  replace X := Lib.hid (X.out.below b)
  replace Y := Lib.hid (Y.out.below b)
  clear b
  clear Y
  obtain ⟨EB, hEB⟩ : ∃ EB, entsB L = EB := ⟨_, rfl⟩
  have HEB := Lib.hid hEB
  have hee : (EB != EB) = false := by simp
  clear hEB
  go_wp2_with fail
  refine (implEntries_any _ _ L _ E.out HE.out).mono ?_
  rintro e w6 ⟨rfl, b⟩
  rw [HEB.out]
  have H6 := Lib.hid (H5.out.trans (b.mono H5.out.size))
  replace E := Lib.hid (E.out.below b)
  replace X := Lib.hid (X.out.below b)
  clear b
  go_wp2_with fail
  refine (specEntries_any _ _ L _ E.out HE.out).mono ?_
  rintro e w7 ⟨rfl, b⟩
  rw [HEB.out]
  have H7 := Lib.hid (H6.out.trans (b.mono H6.out.size))
  replace E := Lib.hid (E.out.below b)
  replace X := Lib.hid (X.out.below b)
  clear b
  cases RB with
  | false =>
    have HRL := Lib.hid (show R = L by rw [← HR.out]; unfold putL; rw [HRB.out]; rfl)
    have X2 := Lib.hid (show ElS 4 encEntry w7 a3 L by have h := X.out; rwa [HRL.out] at h)
    rw [HRL.out]
    clear X
    go_wp2_with fail
    refine (wmEnts_any _ _ _ _ L _ (by omega) X2.out E.out).mono ?_
    rintro e w8 ⟨rfl, b⟩
    have G8 := Lib.hid (G2.out.trans ((H7.out.trans (b.mono H7.out.size)).mono G2.out.size))
    clear b
    go_wp2
    go_ret
    exact ⟨rfl, G8.out⟩
  | true =>
    have HRE := Lib.hid (show R = putE L (x0, x1, x2, x3) by rw [← HR.out]; unfold putL; rw [HRB.out]; rfl)
    have hlen : (R.length : Int) = (L.length : Int) + 1 := by rw [HRE.out, putE_len]; omega
    have HLEN := Lib.hid hlen
    have HS1 := Lib.hid (put_seen HRB.out)
    have HS2 := Lib.hid (put_else HRB.out (tells_old (x0, x1, x2, x3)))
    have HS3 := Lib.hid (put_else HRB.out (tells_zz (e := (x0, x1, x2, x3)) hzz 9))
    rw [← HRE.out] at HS1 HS2 HS3
    obtain ⟨p1, hp1⟩ : ∃ v, getVV L x0 (x1 - 1) = v := ⟨_, rfl⟩
    obtain ⟨p2, hp2⟩ : ∃ v, getBB L x0 (x1 - 1) = v := ⟨_, rfl⟩
    obtain ⟨p3, hp3⟩ : ∃ v, getVV L ⟨#[122, 122]⟩ 9 = v := ⟨_, rfl⟩
    obtain ⟨p4, hp4⟩ : ∃ v, getBB L ⟨#[122, 122]⟩ 9 = v := ⟨_, rfl⟩
    have A1 := Lib.hid hp1
    have A2 := Lib.hid hp2
    have A3 := Lib.hid hp3
    have A4 := Lib.hid hp4
    have C1 := Lib.hid (HS2.out.1.trans hp1)
    have C2 := Lib.hid (HS2.out.2.trans hp2)
    have C3 := Lib.hid (HS3.out.1.trans hp3)
    have C4 := Lib.hid (HS3.out.2.trans hp4)
    have D1 := Lib.hid HS1.out.1
    have D2 := Lib.hid HS1.out.2
    have hsw : IntKind.i64.wrap (x1 - 1) = x1 - 1 := by rw [IntKind.wrap_i64]; omega
    clear hp1 hp2 hp3 hp4 HS1 HS2 HS3 hlen
    obtain ⟨d0, d1, d2, d3⟩ := KS.out _ H7.out
    go_wp2_with fail
    refine (implGet_any _ _ R x0 x1 _ (by omega) X.out HRO.out).mono ?_
    rintro e w8 ⟨rfl, b⟩
    rw [D1.out, D2.out]
    clear d0 d1 d2 d3
    have H8 := Lib.hid (H7.out.trans (b.mono H7.out.size))
    replace E := Lib.hid (E.out.below b)
    replace X := Lib.hid (X.out.below b)
    clear b
    obtain ⟨d0, d1, d2, d3⟩ := KS.out _ H8.out
    go_wp2_with fail
    refine (implGet_any _ _ R x0 (x1 - 1) _ (by omega) X.out HRO.out).mono ?_
    rintro e w9 ⟨rfl, b⟩
    rw [C1.out, C2.out]
    clear d0 d1 d2 d3
    have H9 := Lib.hid (H8.out.trans (b.mono H8.out.size))
    replace E := Lib.hid (E.out.below b)
    replace X := Lib.hid (X.out.below b)
    clear b
    obtain ⟨d0, d1, d2, d3⟩ := KS.out _ H9.out
    go_wp2_with fail
    refine (implGet_any _ _ L x0 (x1 - 1) _ (by omega) E.out HE.out).mono ?_
    rintro e w10 ⟨rfl, b⟩
    rw [A1.out, A2.out]
    clear d0 d1 d2 d3
    have H10 := Lib.hid (H9.out.trans (b.mono H9.out.size))
    replace E := Lib.hid (E.out.below b)
    replace X := Lib.hid (X.out.below b)
    clear b
    obtain ⟨d0, d1, d2, d3⟩ := KS.out _ H10.out
    go_wp2_with fail
    refine (implGet_any _ _ R ⟨#[122, 122]⟩ 9 _ (by omega) X.out HRO.out).mono ?_
    rintro e w11 ⟨rfl, b⟩
    rw [C3.out, C4.out]
    clear d0 d1 d2 d3
    have H11 := Lib.hid (H10.out.trans (b.mono H10.out.size))
    replace E := Lib.hid (E.out.below b)
    replace X := Lib.hid (X.out.below b)
    clear b
    obtain ⟨d0, d1, d2, d3⟩ := KS.out _ H11.out
    go_wp2_with fail
    refine (implGet_any _ _ L ⟨#[122, 122]⟩ 9 _ (by omega) E.out HE.out).mono ?_
    rintro e w12 ⟨rfl, b⟩
    rw [A3.out, A4.out]
    clear d0 d1 d2 d3
    have H12 := Lib.hid (H11.out.trans (b.mono H11.out.size))
    replace E := Lib.hid (E.out.below b)
    replace X := Lib.hid (X.out.below b)
    clear b
    obtain ⟨d0, d1, d2, d3⟩ := KS.out _ H12.out
    have hlen := HLEN.out
    go_wp2
    go_ret
    exact ⟨rfl, (G2.out.trans (H12.out.mono G2.out.size))⟩
end Go.Proofs.YteejabpohnfoaaaDoor
