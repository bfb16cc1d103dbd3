import Derived.Test.YtbioljpjpflboaaGreatDoorMarksS
/- ThingOk and ThingCost, of the model and of the program (mk_thingok.py wrote this). -/
namespace Go.Proofs.YtbioljpjpflboaaGreatDoor
open Go Go.RowKit

/-- a thing, as data -/
structure ThingD where
  sp : ByteArray
  nm : ByteArray
  uid : Int
  rev : Int
  gone : Bool
  marks : List ByteArray
  body : ByteArray
def thingB (t : ThingD) : Bool := nameB t.sp.data.toList && (nameB t.nm.data.toList && (inB t.uid 1 99999 && (inB t.rev 1 99999 && (marksB t.marks && (bodyB1 t.body && (!t.gone || decide (0 < t.marks.length)))))))
/-- v is a thing by value, its marks at a -/
def thingV (a : Option Addr) (c : Nat) (t : ThingD) : Value := .agg #[.string t.sp, .string t.nm, .int .i64 t.uid, .int .i64 t.rev, .bool t.gone, .slice a t.marks.length c, .string t.body]
def OkThing (t : ThingD) : Prop := t.sp.size ≤ maxLen ∧ t.nm.size ≤ maxLen ∧ t.body.size ≤ maxLen
def thingCells (a : Option Addr) (c : Nat) (t : ThingD) : List Value := [.string t.sp, .string t.nm, .int .i64 t.uid, .int .i64 t.rev, .bool t.gone, .slice a t.marks.length c, .string t.body]

set_option maxRecDepth 100000 in
set_option maxHeartbeats 2000000 in
theorem specThing_any (a : Option Addr) (c : Nat) (t : ThingD) (w : World) (hm : StrS w a t.marks) (hk : OkThing t) (hlen : t.marks.length ≤ 1048576) :
    Calls Tryz.prog 61 #[thingV a c t] w fun e w' => e = .returned (.bool (thingB t)) ∧ Below w.heap.size w w' := by
  have HX := Lib.hid hm
  obtain ⟨sp, nm, uid, rev, gone, marks, body⟩ := t
  have hml := hm.1
  unfold maxLen at hml
  clear hm
  simp only at HX hk hlen hml
  unfold thingV
  dsimp only
  have HT := Lib.hid (show thingB ⟨sp, nm, uid, rev, gone, marks, body⟩ = (nameB sp.data.toList && (nameB nm.data.toList && (inB uid 1 99999 && (inB rev 1 99999 && (marksB marks && (bodyB1 body && (!gone || decide (0 < marks.length)))))))) from rfl)
  cases h0 : nameB sp.data.toList with
  | false =>
    have H0 := Lib.hid h0
    have HF := Lib.hid (show thingB ⟨sp, nm, uid, rev, gone, marks, body⟩ = false by rw [HT.out, h0]; rfl)
    clear h0
    go_enter Tryz.func61, Tryz.ntmps61
    go_wp2_with fail
    refine (spec_name sp _ hk.1).mono ?_
    rintro e w1 ⟨rfl, rfl⟩
    rw [H0.out]
    go_wp2
    go_ret
    exact ⟨ret_bool (by rw [HF.out]), (by repeat (first | exact Below.refl _ _ | (refine Below.alloc ?_ (by first | (simp; done) | (simp; omega)) _) | (refine Below.setCell ?_ (by first | (simp; done) | (simp; omega)) _) | (refine Below.drew ?_)))⟩
  | true =>
    have H0 := Lib.hid h0
    clear h0
    cases h1 : nameB nm.data.toList with
    | false =>
      have H1 := Lib.hid h1
      have HF := Lib.hid (show thingB ⟨sp, nm, uid, rev, gone, marks, body⟩ = false by rw [HT.out, H0.out, h1]; rfl)
      clear h1
      go_enter Tryz.func61, Tryz.ntmps61
      go_wp2_with fail
      refine (spec_name sp _ hk.1).mono ?_
      rintro e w1 ⟨rfl, rfl⟩
      rw [H0.out]
      go_wp2_with fail
      refine (spec_name nm _ hk.2.1).mono ?_
      rintro e w1 ⟨rfl, rfl⟩
      rw [H1.out]
      go_wp2
      go_ret
      exact ⟨ret_bool (by rw [HF.out]), (by repeat (first | exact Below.refl _ _ | (refine Below.alloc ?_ (by first | (simp; done) | (simp; omega)) _) | (refine Below.setCell ?_ (by first | (simp; done) | (simp; omega)) _) | (refine Below.drew ?_)))⟩
    | true =>
      have H1 := Lib.hid h1
      clear h1
      cases h2 : inB uid 1 99999 with
      | false =>
        have H2 := Lib.hid h2
        have HF := Lib.hid (show thingB ⟨sp, nm, uid, rev, gone, marks, body⟩ = false by rw [HT.out, H0.out, H1.out, h2]; rfl)
        clear h2
        go_enter Tryz.func61, Tryz.ntmps61
        go_wp2_with fail
        refine (spec_name sp _ hk.1).mono ?_
        rintro e w1 ⟨rfl, rfl⟩
        rw [H0.out]
        go_wp2_with fail
        refine (spec_name nm _ hk.2.1).mono ?_
        rintro e w1 ⟨rfl, rfl⟩
        rw [H1.out]
        go_wp2_with fail
        refine (in_any _ _ _ _).mono ?_
        rintro e w1 ⟨rfl, rfl⟩
        rw [H2.out]
        go_wp2
        go_ret
        exact ⟨ret_bool (by rw [HF.out]), (by repeat (first | exact Below.refl _ _ | (refine Below.alloc ?_ (by first | (simp; done) | (simp; omega)) _) | (refine Below.setCell ?_ (by first | (simp; done) | (simp; omega)) _) | (refine Below.drew ?_)))⟩
      | true =>
        have H2 := Lib.hid h2
        clear h2
        cases h3 : inB rev 1 99999 with
        | false =>
          have H3 := Lib.hid h3
          have HF := Lib.hid (show thingB ⟨sp, nm, uid, rev, gone, marks, body⟩ = false by rw [HT.out, H0.out, H1.out, H2.out, h3]; rfl)
          clear h3
          go_enter Tryz.func61, Tryz.ntmps61
          go_wp2_with fail
          refine (spec_name sp _ hk.1).mono ?_
          rintro e w1 ⟨rfl, rfl⟩
          rw [H0.out]
          go_wp2_with fail
          refine (spec_name nm _ hk.2.1).mono ?_
          rintro e w1 ⟨rfl, rfl⟩
          rw [H1.out]
          go_wp2_with fail
          refine (in_any _ _ _ _).mono ?_
          rintro e w1 ⟨rfl, rfl⟩
          rw [H2.out]
          go_wp2_with fail
          refine (in_any _ _ _ _).mono ?_
          rintro e w1 ⟨rfl, rfl⟩
          rw [H3.out]
          go_wp2
          go_ret
          exact ⟨ret_bool (by rw [HF.out]), (by repeat (first | exact Below.refl _ _ | (refine Below.alloc ?_ (by first | (simp; done) | (simp; omega)) _) | (refine Below.setCell ?_ (by first | (simp; done) | (simp; omega)) _) | (refine Below.drew ?_)))⟩
        | true =>
          have H3 := Lib.hid h3
          clear h3
          cases h4 : marksB marks with
          | false =>
            have H4 := Lib.hid h4
            have HF := Lib.hid (show thingB ⟨sp, nm, uid, rev, gone, marks, body⟩ = false by rw [HT.out, H0.out, H1.out, H2.out, H3.out, h4]; rfl)
            clear h4
            go_enter Tryz.func61, Tryz.ntmps61
            go_wp2_with fail
            refine (spec_name sp _ hk.1).mono ?_
            rintro e w1 ⟨rfl, rfl⟩
            rw [H0.out]
            go_wp2_with fail
            refine (spec_name nm _ hk.2.1).mono ?_
            rintro e w1 ⟨rfl, rfl⟩
            rw [H1.out]
            go_wp2_with fail
            refine (in_any _ _ _ _).mono ?_
            rintro e w1 ⟨rfl, rfl⟩
            rw [H2.out]
            go_wp2_with fail
            refine (in_any _ _ _ _).mono ?_
            rintro e w1 ⟨rfl, rfl⟩
            rw [H3.out]
            go_wp2_with fail
            refine (specMarks_any a c marks _ (HX.out.below (by repeat (first | exact Below.refl _ _ | (refine Below.alloc ?_ (by first | (simp; done) | (simp; omega)) _) | (refine Below.setCell ?_ (by first | (simp; done) | (simp; omega)) _) | (refine Below.drew ?_)))) hlen).mono ?_
            rintro e w1 ⟨rfl, b1⟩
            have bx := (Box.alloc w #[.string sp, .string nm, .int .i64 uid, .int .i64 rev, .bool gone, .slice a marks.length c, .string body] 57).below b1
            have u4 := (bx 4 _ rfl).1
            have u5 := (bx 5 _ rfl).1
            have u6 := (bx 6 _ rfl).1
            have B1 := Lib.hid ((below_alloc w _).trans (b1.mono (by simp)))
            clear b1 bx
            rw [H4.out]
            go_wp2
            go_ret
            exact ⟨ret_bool (by rw [HF.out]), B1.out⟩
          | true =>
            have H4 := Lib.hid h4
            clear h4
            cases h5 : bodyB1 body with
            | false =>
              have H5 := Lib.hid h5
              have HF := Lib.hid (show thingB ⟨sp, nm, uid, rev, gone, marks, body⟩ = false by rw [HT.out, H0.out, H1.out, H2.out, H3.out, H4.out, h5]; rfl)
              clear h5
              go_enter Tryz.func61, Tryz.ntmps61
              go_wp2_with fail
              refine (spec_name sp _ hk.1).mono ?_
              rintro e w1 ⟨rfl, rfl⟩
              rw [H0.out]
              go_wp2_with fail
              refine (spec_name nm _ hk.2.1).mono ?_
              rintro e w1 ⟨rfl, rfl⟩
              rw [H1.out]
              go_wp2_with fail
              refine (in_any _ _ _ _).mono ?_
              rintro e w1 ⟨rfl, rfl⟩
              rw [H2.out]
              go_wp2_with fail
              refine (in_any _ _ _ _).mono ?_
              rintro e w1 ⟨rfl, rfl⟩
              rw [H3.out]
              go_wp2_with fail
              refine (specMarks_any a c marks _ (HX.out.below (by repeat (first | exact Below.refl _ _ | (refine Below.alloc ?_ (by first | (simp; done) | (simp; omega)) _) | (refine Below.setCell ?_ (by first | (simp; done) | (simp; omega)) _) | (refine Below.drew ?_)))) hlen).mono ?_
              rintro e w1 ⟨rfl, b1⟩
              have bx := (Box.alloc w #[.string sp, .string nm, .int .i64 uid, .int .i64 rev, .bool gone, .slice a marks.length c, .string body] 57).below b1
              have u4 := (bx 4 _ rfl).1
              have u5 := (bx 5 _ rfl).1
              have u6 := (bx 6 _ rfl).1
              have B1 := Lib.hid ((below_alloc w _).trans (b1.mono (by simp)))
              clear b1 bx
              rw [H4.out]
              go_wp2_with fail
              refine (specBody_any body _ hk.2.2).mono ?_
              rintro e w2 ⟨rfl, rfl⟩
              rw [H5.out]
              go_wp2
              go_ret
              exact ⟨ret_bool (by rw [HF.out]), B1.out⟩
            | true =>
              have H5 := Lib.hid h5
              clear h5
              have HF := Lib.hid (show thingB ⟨sp, nm, uid, rev, gone, marks, body⟩ = (!gone || decide (0 < marks.length)) by rw [HT.out, H0.out, H1.out, H2.out, H3.out, H4.out, H5.out]; rfl)
              cases gone with
              | false =>
                go_enter Tryz.func61, Tryz.ntmps61
                go_wp2_with fail
                refine (spec_name sp _ hk.1).mono ?_
                rintro e w1 ⟨rfl, rfl⟩
                rw [H0.out]
                go_wp2_with fail
                refine (spec_name nm _ hk.2.1).mono ?_
                rintro e w1 ⟨rfl, rfl⟩
                rw [H1.out]
                go_wp2_with fail
                refine (in_any _ _ _ _).mono ?_
                rintro e w1 ⟨rfl, rfl⟩
                rw [H2.out]
                go_wp2_with fail
                refine (in_any _ _ _ _).mono ?_
                rintro e w1 ⟨rfl, rfl⟩
                rw [H3.out]
                go_wp2_with fail
                refine (specMarks_any a c marks _ (HX.out.below (by repeat (first | exact Below.refl _ _ | (refine Below.alloc ?_ (by first | (simp; done) | (simp; omega)) _) | (refine Below.setCell ?_ (by first | (simp; done) | (simp; omega)) _) | (refine Below.drew ?_)))) hlen).mono ?_
                rintro e w1 ⟨rfl, b1⟩
                have bx := (Box.alloc w #[.string sp, .string nm, .int .i64 uid, .int .i64 rev, .bool false, .slice a marks.length c, .string body] 57).below b1
                have u4 := (bx 4 _ rfl).1
                have u5 := (bx 5 _ rfl).1
                have u6 := (bx 6 _ rfl).1
                have B1 := Lib.hid ((below_alloc w _).trans (b1.mono (by simp)))
                clear b1 bx
                rw [H4.out]
                go_wp2_with fail
                refine (specBody_any body _ hk.2.2).mono ?_
                rintro e w2 ⟨rfl, rfl⟩
                rw [H5.out]
                go_wp2
                go_ret
                exact ⟨ret_bool (by rw [HF.out]; rfl), B1.out⟩
              | true =>
                go_enter Tryz.func61, Tryz.ntmps61
                go_wp2_with fail
                refine (spec_name sp _ hk.1).mono ?_
                rintro e w1 ⟨rfl, rfl⟩
                rw [H0.out]
                go_wp2_with fail
                refine (spec_name nm _ hk.2.1).mono ?_
                rintro e w1 ⟨rfl, rfl⟩
                rw [H1.out]
                go_wp2_with fail
                refine (in_any _ _ _ _).mono ?_
                rintro e w1 ⟨rfl, rfl⟩
                rw [H2.out]
                go_wp2_with fail
                refine (in_any _ _ _ _).mono ?_
                rintro e w1 ⟨rfl, rfl⟩
                rw [H3.out]
                go_wp2_with fail
                refine (specMarks_any a c marks _ (HX.out.below (by repeat (first | exact Below.refl _ _ | (refine Below.alloc ?_ (by first | (simp; done) | (simp; omega)) _) | (refine Below.setCell ?_ (by first | (simp; done) | (simp; omega)) _) | (refine Below.drew ?_)))) hlen).mono ?_
                rintro e w1 ⟨rfl, b1⟩
                have bx := (Box.alloc w #[.string sp, .string nm, .int .i64 uid, .int .i64 rev, .bool true, .slice a marks.length c, .string body] 57).below b1
                have u4 := (bx 4 _ rfl).1
                have u5 := (bx 5 _ rfl).1
                have u6 := (bx 6 _ rfl).1
                have B1 := Lib.hid ((below_alloc w _).trans (b1.mono (by simp)))
                clear b1 bx
                rw [H4.out]
                go_wp2_with fail
                refine (specBody_any body _ hk.2.2).mono ?_
                rintro e w2 ⟨rfl, rfl⟩
                rw [H5.out]
                go_wp2
                go_ret
                exact ⟨ret_bool (by rw [HF.out]; rfl), B1.out⟩
set_option maxRecDepth 100000 in
set_option maxHeartbeats 2000000 in
theorem implThing_any (a : Option Addr) (c : Nat) (t : ThingD) (w : World) (hm : StrS w a t.marks) (hk : OkThing t) (hn : a = none → t.marks.length = 0 ∧ c = 0) :
    Calls Tryz.prog 76 #[thingV a c t] w fun e w' => e = .returned (.bool (thingB t)) ∧ Below w.heap.size w w' := by
  have HX := Lib.hid hm
  obtain ⟨sp, nm, uid, rev, gone, marks, body⟩ := t
  have hml := hm.1
  unfold maxLen at hml
  clear hm
  simp only at HX hk hn hml
  unfold thingV
  dsimp only
  have HT := Lib.hid (show thingB ⟨sp, nm, uid, rev, gone, marks, body⟩ = (nameB sp.data.toList && (nameB nm.data.toList && (inB uid 1 99999 && (inB rev 1 99999 && (marksB marks && (bodyB1 body && (!gone || decide (0 < marks.length)))))))) from rfl)
  cases h0 : nameB sp.data.toList with
  | false =>
    have H0 := Lib.hid h0
    have HF := Lib.hid (show thingB ⟨sp, nm, uid, rev, gone, marks, body⟩ = false by rw [HT.out, h0]; rfl)
    clear h0
    go_enter Tryz.func76, Tryz.ntmps76
    go_wp2_with fail
    refine (impl_name sp _ hk.1).mono ?_
    rintro e w1 ⟨rfl, rfl⟩
    rw [H0.out]
    go_wp2
    go_ret
    exact ⟨ret_bool (by rw [HF.out]), (by repeat (first | exact Below.refl _ _ | (refine Below.alloc ?_ (by first | (simp; done) | (simp; omega)) _) | (refine Below.setCell ?_ (by first | (simp; done) | (simp; omega)) _) | (refine Below.drew ?_)))⟩
  | true =>
    have H0 := Lib.hid h0
    clear h0
    cases h1 : nameB nm.data.toList with
    | false =>
      have H1 := Lib.hid h1
      have HF := Lib.hid (show thingB ⟨sp, nm, uid, rev, gone, marks, body⟩ = false by rw [HT.out, H0.out, h1]; rfl)
      clear h1
      go_enter Tryz.func76, Tryz.ntmps76
      go_wp2_with fail
      refine (impl_name sp _ hk.1).mono ?_
      rintro e w1 ⟨rfl, rfl⟩
      rw [H0.out]
      go_wp2_with fail
      refine (impl_name nm _ hk.2.1).mono ?_
      rintro e w1 ⟨rfl, rfl⟩
      rw [H1.out]
      go_wp2
      go_ret
      exact ⟨ret_bool (by rw [HF.out]), (by repeat (first | exact Below.refl _ _ | (refine Below.alloc ?_ (by first | (simp; done) | (simp; omega)) _) | (refine Below.setCell ?_ (by first | (simp; done) | (simp; omega)) _) | (refine Below.drew ?_)))⟩
    | true =>
      have H1 := Lib.hid h1
      clear h1
      cases h2 : inB uid 1 99999 with
      | false =>
        have H2 := Lib.hid h2
        have HF := Lib.hid (show thingB ⟨sp, nm, uid, rev, gone, marks, body⟩ = false by rw [HT.out, H0.out, H1.out, h2]; rfl)
        clear h2
        go_enter Tryz.func76, Tryz.ntmps76
        go_wp2_with fail
        refine (impl_name sp _ hk.1).mono ?_
        rintro e w1 ⟨rfl, rfl⟩
        rw [H0.out]
        go_wp2_with fail
        refine (impl_name nm _ hk.2.1).mono ?_
        rintro e w1 ⟨rfl, rfl⟩
        rw [H1.out]
        go_wp2_with fail
        refine (count_any _ _ _).mono ?_
        rintro e w1 ⟨rfl, rfl⟩
        rw [H2.out]
        go_wp2
        go_ret
        exact ⟨ret_bool (by rw [HF.out]), (by repeat (first | exact Below.refl _ _ | (refine Below.alloc ?_ (by first | (simp; done) | (simp; omega)) _) | (refine Below.setCell ?_ (by first | (simp; done) | (simp; omega)) _) | (refine Below.drew ?_)))⟩
      | true =>
        have H2 := Lib.hid h2
        clear h2
        cases h3 : inB rev 1 99999 with
        | false =>
          have H3 := Lib.hid h3
          have HF := Lib.hid (show thingB ⟨sp, nm, uid, rev, gone, marks, body⟩ = false by rw [HT.out, H0.out, H1.out, H2.out, h3]; rfl)
          clear h3
          go_enter Tryz.func76, Tryz.ntmps76
          go_wp2_with fail
          refine (impl_name sp _ hk.1).mono ?_
          rintro e w1 ⟨rfl, rfl⟩
          rw [H0.out]
          go_wp2_with fail
          refine (impl_name nm _ hk.2.1).mono ?_
          rintro e w1 ⟨rfl, rfl⟩
          rw [H1.out]
          go_wp2_with fail
          refine (count_any _ _ _).mono ?_
          rintro e w1 ⟨rfl, rfl⟩
          rw [H2.out]
          go_wp2_with fail
          refine (count_any _ _ _).mono ?_
          rintro e w1 ⟨rfl, rfl⟩
          rw [H3.out]
          go_wp2
          go_ret
          exact ⟨ret_bool (by rw [HF.out]), (by repeat (first | exact Below.refl _ _ | (refine Below.alloc ?_ (by first | (simp; done) | (simp; omega)) _) | (refine Below.setCell ?_ (by first | (simp; done) | (simp; omega)) _) | (refine Below.drew ?_)))⟩
        | true =>
          have H3 := Lib.hid h3
          clear h3
          cases h4 : marksB marks with
          | false =>
            have H4 := Lib.hid h4
            have HF := Lib.hid (show thingB ⟨sp, nm, uid, rev, gone, marks, body⟩ = false by rw [HT.out, H0.out, H1.out, H2.out, H3.out, h4]; rfl)
            clear h4
            go_enter Tryz.func76, Tryz.ntmps76
            go_wp2_with fail
            refine (impl_name sp _ hk.1).mono ?_
            rintro e w1 ⟨rfl, rfl⟩
            rw [H0.out]
            go_wp2_with fail
            refine (impl_name nm _ hk.2.1).mono ?_
            rintro e w1 ⟨rfl, rfl⟩
            rw [H1.out]
            go_wp2_with fail
            refine (count_any _ _ _).mono ?_
            rintro e w1 ⟨rfl, rfl⟩
            rw [H2.out]
            go_wp2_with fail
            refine (count_any _ _ _).mono ?_
            rintro e w1 ⟨rfl, rfl⟩
            rw [H3.out]
            go_wp2_with fail
            refine (implMarks_any a c marks _ (HX.out.below (by repeat (first | exact Below.refl _ _ | (refine Below.alloc ?_ (by first | (simp; done) | (simp; omega)) _) | (refine Below.setCell ?_ (by first | (simp; done) | (simp; omega)) _) | (refine Below.drew ?_)))) hn).mono ?_
            rintro e w1 ⟨rfl, b1⟩
            have bx := (Box.alloc w #[.string sp, .string nm, .int .i64 uid, .int .i64 rev, .bool gone, .slice a marks.length c, .string body] 57).below b1
            have u4 := (bx 4 _ rfl).1
            have u5 := (bx 5 _ rfl).1
            have u6 := (bx 6 _ rfl).1
            have B1 := Lib.hid ((below_alloc w _).trans (b1.mono (by simp)))
            clear b1 bx
            rw [H4.out]
            go_wp2
            go_ret
            exact ⟨ret_bool (by rw [HF.out]), B1.out⟩
          | true =>
            have H4 := Lib.hid h4
            clear h4
            cases h5 : bodyB1 body with
            | false =>
              have H5 := Lib.hid h5
              have HF := Lib.hid (show thingB ⟨sp, nm, uid, rev, gone, marks, body⟩ = false by rw [HT.out, H0.out, H1.out, H2.out, H3.out, H4.out, h5]; rfl)
              clear h5
              go_enter Tryz.func76, Tryz.ntmps76
              go_wp2_with fail
              refine (impl_name sp _ hk.1).mono ?_
              rintro e w1 ⟨rfl, rfl⟩
              rw [H0.out]
              go_wp2_with fail
              refine (impl_name nm _ hk.2.1).mono ?_
              rintro e w1 ⟨rfl, rfl⟩
              rw [H1.out]
              go_wp2_with fail
              refine (count_any _ _ _).mono ?_
              rintro e w1 ⟨rfl, rfl⟩
              rw [H2.out]
              go_wp2_with fail
              refine (count_any _ _ _).mono ?_
              rintro e w1 ⟨rfl, rfl⟩
              rw [H3.out]
              go_wp2_with fail
              refine (implMarks_any a c marks _ (HX.out.below (by repeat (first | exact Below.refl _ _ | (refine Below.alloc ?_ (by first | (simp; done) | (simp; omega)) _) | (refine Below.setCell ?_ (by first | (simp; done) | (simp; omega)) _) | (refine Below.drew ?_)))) hn).mono ?_
              rintro e w1 ⟨rfl, b1⟩
              have bx := (Box.alloc w #[.string sp, .string nm, .int .i64 uid, .int .i64 rev, .bool gone, .slice a marks.length c, .string body] 57).below b1
              have u4 := (bx 4 _ rfl).1
              have u5 := (bx 5 _ rfl).1
              have u6 := (bx 6 _ rfl).1
              have B1 := Lib.hid ((below_alloc w _).trans (b1.mono (by simp)))
              clear b1 bx
              rw [H4.out]
              go_wp2_with fail
              refine (implBody_any body _ hk.2.2).mono ?_
              rintro e w2 ⟨rfl, rfl⟩
              rw [H5.out]
              go_wp2
              go_ret
              exact ⟨ret_bool (by rw [HF.out]), B1.out⟩
            | true =>
              have H5 := Lib.hid h5
              clear h5
              have HF := Lib.hid (show thingB ⟨sp, nm, uid, rev, gone, marks, body⟩ = (!gone || decide (0 < marks.length)) by rw [HT.out, H0.out, H1.out, H2.out, H3.out, H4.out, H5.out]; rfl)
              cases gone with
              | false =>
                go_enter Tryz.func76, Tryz.ntmps76
                go_wp2_with fail
                refine (impl_name sp _ hk.1).mono ?_
                rintro e w1 ⟨rfl, rfl⟩
                rw [H0.out]
                go_wp2_with fail
                refine (impl_name nm _ hk.2.1).mono ?_
                rintro e w1 ⟨rfl, rfl⟩
                rw [H1.out]
                go_wp2_with fail
                refine (count_any _ _ _).mono ?_
                rintro e w1 ⟨rfl, rfl⟩
                rw [H2.out]
                go_wp2_with fail
                refine (count_any _ _ _).mono ?_
                rintro e w1 ⟨rfl, rfl⟩
                rw [H3.out]
                go_wp2_with fail
                refine (implMarks_any a c marks _ (HX.out.below (by repeat (first | exact Below.refl _ _ | (refine Below.alloc ?_ (by first | (simp; done) | (simp; omega)) _) | (refine Below.setCell ?_ (by first | (simp; done) | (simp; omega)) _) | (refine Below.drew ?_)))) hn).mono ?_
                rintro e w1 ⟨rfl, b1⟩
                have bx := (Box.alloc w #[.string sp, .string nm, .int .i64 uid, .int .i64 rev, .bool false, .slice a marks.length c, .string body] 57).below b1
                have u4 := (bx 4 _ rfl).1
                have u5 := (bx 5 _ rfl).1
                have u6 := (bx 6 _ rfl).1
                have B1 := Lib.hid ((below_alloc w _).trans (b1.mono (by simp)))
                clear b1 bx
                rw [H4.out]
                go_wp2_with fail
                refine (implBody_any body _ hk.2.2).mono ?_
                rintro e w2 ⟨rfl, rfl⟩
                rw [H5.out]
                go_wp2
                go_ret
                exact ⟨ret_bool (by rw [HF.out]; rfl), B1.out⟩
              | true =>
                go_enter Tryz.func76, Tryz.ntmps76
                go_wp2_with fail
                refine (impl_name sp _ hk.1).mono ?_
                rintro e w1 ⟨rfl, rfl⟩
                rw [H0.out]
                go_wp2_with fail
                refine (impl_name nm _ hk.2.1).mono ?_
                rintro e w1 ⟨rfl, rfl⟩
                rw [H1.out]
                go_wp2_with fail
                refine (count_any _ _ _).mono ?_
                rintro e w1 ⟨rfl, rfl⟩
                rw [H2.out]
                go_wp2_with fail
                refine (count_any _ _ _).mono ?_
                rintro e w1 ⟨rfl, rfl⟩
                rw [H3.out]
                go_wp2_with fail
                refine (implMarks_any a c marks _ (HX.out.below (by repeat (first | exact Below.refl _ _ | (refine Below.alloc ?_ (by first | (simp; done) | (simp; omega)) _) | (refine Below.setCell ?_ (by first | (simp; done) | (simp; omega)) _) | (refine Below.drew ?_)))) hn).mono ?_
                rintro e w1 ⟨rfl, b1⟩
                have bx := (Box.alloc w #[.string sp, .string nm, .int .i64 uid, .int .i64 rev, .bool true, .slice a marks.length c, .string body] 57).below b1
                have u4 := (bx 4 _ rfl).1
                have u5 := (bx 5 _ rfl).1
                have u6 := (bx 6 _ rfl).1
                have B1 := Lib.hid ((below_alloc w _).trans (b1.mono (by simp)))
                clear b1 bx
                rw [H4.out]
                go_wp2_with fail
                refine (implBody_any body _ hk.2.2).mono ?_
                rintro e w2 ⟨rfl, rfl⟩
                rw [H5.out]
                go_wp2
                go_ret
                exact ⟨ret_bool (by rw [HF.out]; rfl), B1.out⟩

def costN (t : ThingD) : Int := if thingB t then 1 + (t.body.size : Int) else 0
set_option maxRecDepth 100000 in
set_option maxHeartbeats 1000000 in
theorem implCost_any (a : Option Addr) (c : Nat) (t : ThingD) (w : World) (hm : StrS w a t.marks) (hk : OkThing t) (hn : a = none → t.marks.length = 0 ∧ c = 0) :
    Calls Tryz.prog 121 #[thingV a c t] w fun e w' => e = .returned (.int .i64 (costN t)) ∧ Below w.heap.size w w' := by
  have HX := Lib.hid hm
  have hb := hk.2.2
  unfold maxLen at hb
  clear hm
  cases h : thingB t with
  | false =>
    have H := Lib.hid h
    have HN := Lib.hid (show costN t = 0 by unfold costN; rw [h]; rfl)
    clear h
    unfold thingV
    go_enter Tryz.func121, Tryz.ntmps121
    go_wp2_with fail
    refine (implThing_any a c t _ (HX.out.below (by repeat (first | exact Below.refl _ _ | (refine Below.alloc ?_ (by first | (simp; done) | (simp; omega)) _) | (refine Below.setCell ?_ (by first | (simp; done) | (simp; omega)) _) | (refine Below.drew ?_)))) hk hn).mono ?_
    rintro e w1 ⟨rfl, b1⟩
    rw [H.out]
    go_wp2
    go_ret
    exact ⟨ret_int (by rw [HN.out]), (below_alloc w _).trans (b1.mono (by simp))⟩
  | true =>
    have H := Lib.hid h
    have HN := Lib.hid (show costN t = 1 + (t.body.size : Int) by unfold costN; rw [h]; rfl)
    have hb40 : (t.body.size : Int) ≤ 40 := by
      unfold thingB bodyB1 at h
      simp only [Bool.and_eq_true, decide_eq_true_eq] at h
      have := h.2.2.2.2.2.1.1
      omega
    clear h
    unfold thingV
    go_enter Tryz.func121, Tryz.ntmps121
    go_wp2_with fail
    refine (implThing_any a c t _ (HX.out.below (by repeat (first | exact Below.refl _ _ | (refine Below.alloc ?_ (by first | (simp; done) | (simp; omega)) _) | (refine Below.setCell ?_ (by first | (simp; done) | (simp; omega)) _) | (refine Below.drew ?_)))) hk hn).mono ?_
    rintro e w1 ⟨rfl, b1⟩
    rw [H.out]
    have bx := (Box.alloc w #[.string t.sp, .string t.nm, .int .i64 t.uid, .int .i64 t.rev, .bool t.gone, .slice a t.marks.length c, .string t.body] 57).below b1
    have u6 := (bx 6 _ rfl).1
    clear bx
    go_wp2
    go_ret
    exact ⟨ret_int (by rw [HN.out]), (below_alloc w _).trans (b1.mono (by simp))⟩
end Go.Proofs.YtbioljpjpflboaaGreatDoor
