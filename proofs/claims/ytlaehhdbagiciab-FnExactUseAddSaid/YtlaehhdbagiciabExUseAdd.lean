import Derived.Test.YtlaehhdbagiciabUseC
/- The walk of FnExactUseAdd. -/
namespace Go.Proofs.Ytlaehhdbagiciab
open Go Go.RowKit

set_option maxRecDepth 100000 in
set_option maxHeartbeats 4000000 in
theorem fnExactUseAddWalk {w : World} (vl : Value) (l : List SpaceD) (hl : VwSpaceS w vl l) (vu : Value) (u : List UseD) (hu : VwUseS w vu u) (name : ByteArray) (hzname : name.size ≤ maxLen) (more : Int) :
    Calls Try.prog 5 #[vl, vu, .string name, .int .i64 more] w fun e w' => e = .returned (.bool true) ∧ Below w.heap.size w w' := by
  unfold maxLen at hzname
  by_cases hs : (1048576 : Int) < (name.size : Int)
  · go_enter Try.func5, Try.ntmps5
    go_wp2
    go_ret
    exact ⟨rfl, Below.refl _ _⟩
  have hsname : (name.size : Int) ≤ 1048576 := by omega
  clear hs
  have HVl := hl
  clear hl
  have HVu := hu
  clear hu
  by_cases hb : (1048576 : Int) < (bulkSpaceS l : Int)
  · have HRl := Lib.hid (szR_no hb)
    clear hb
    go_enter Try.func5, Try.ntmps5
    go_wp2_with fail
    refine (szSpaceS_c HVl (left := (1048576 : Int)) (by omega) (by omega)).mono ?_
    rintro e w1 ⟨rfl, b⟩
    rw [HRl.out]
    have G1 := b
    clear b
    go_wp2
    go_ret
    exact ⟨rfl, G1⟩
  have HRl := Lib.hid (szR_yes (show (bulkSpaceS l : Int) ≤ (1048576 : Int) by omega))
  have hql : 0 ≤ (1048576 : Int) - bulkSpaceS l := by omega
  have hnl : (bulkSpaceS l : Int) ≤ 1048576 := by omega
  clear hb
  by_cases hb : (1048576 : Int) - bulkSpaceS l < (bulkUseS u : Int)
  · have HRu := Lib.hid (szR_no hb)
    clear hb
    go_enter Try.func5, Try.ntmps5
    go_wp2_with fail
    refine (szSpaceS_c HVl (left := (1048576 : Int)) (by omega) (by omega)).mono ?_
    rintro e w1 ⟨rfl, b⟩
    rw [HRl.out]
    have G1 := b
    clear b
    go_wp2_with fail
    refine (szUseS_c (HVu.below G1) (left := (1048576 : Int) - bulkSpaceS l) (by omega) (by omega)).mono ?_
    rintro e w2 ⟨rfl, b⟩
    rw [HRu.out]
    have G2 := G1.trans (b.mono G1.size)
    clear b
    go_wp2
    go_ret
    exact ⟨rfl, G2⟩
  have HRu := Lib.hid (szR_yes (show (bulkUseS u : Int) ≤ (1048576 : Int) - bulkSpaceS l by omega))
  have hqu : 0 ≤ (1048576 : Int) - bulkSpaceS l - bulkUseS u := by omega
  have hnu : (bulkUseS u : Int) ≤ 1048576 := by omega
  clear hb
  obtain ⟨R, hR⟩ : ∃ R : List UseD, addO l u name more = R := ⟨_, rfl⟩
  have HS := Lib.hid hR
  have hrn : numUseS R ≤ 68719476736 := by rw [← hR]; exact addO_small _ _ _ _
  have hrp := numUseS_pos R
  have hsml := numSpaceS_small hnl
  have hpsl := numSpaceS_pos l
  have hsmu := numUseS_small hnu
  have hpsu := numUseS_pos u
  clear hR
  go_enter Try.func5, Try.ntmps5
  go_wp2_with fail
  refine (szSpaceS_c HVl (left := (1048576 : Int)) (by omega) (by omega)).mono ?_
  rintro e w1 ⟨rfl, b⟩
  rw [HRl.out]
  have G1 := b
  clear b
  go_wp2_with fail
  refine (szUseS_c (HVu.below G1) (left := (1048576 : Int) - bulkSpaceS l) (by omega) (by omega)).mono ?_
  rintro e w2 ⟨rfl, b⟩
  rw [HRu.out]
  have G2 := G1.trans (b.mono G1.size)
  clear b
  go_wp2_with fail
  refine (toSpaceS_c (HVl.below G2) hnl).mono ?_
  rintro e w3 ⟨usl, rfl, o, b⟩
  have Z3 := b.size
  have G3 := G2.trans (b.mono G2.size)
  clear b
  have Osl := o
  clear o
  go_wp2_with fail
  refine (toUseS_c (HVu.below G3) hnu).mono ?_
  rintro e w4 ⟨usu, rfl, o, b⟩
  have Z4 := b.size
  have G4 := G3.trans (b.mono G3.size)
  replace Osl := Osl.below b
  clear b
  have Osu := o
  clear o
  go_wp2_with fail
  refine (specUseAdd_c name more Osl.vw Osu.vw hnl).mono ?_
  rintro e w5 ⟨uw0, rfl, o, b⟩
  rw [HS.out] at o
  have Z5 := b.size
  have G5 := G4.trans (b.mono G4.size)
  replace Osl := Osl.below b
  replace Osu := Osu.below b
  clear b
  have Ow0 := o
  clear o
  clear Osl Osu
  go_wp2_with fail
  refine (toSpaceS_c (HVl.below G5) hnl).mono ?_
  rintro e w6 ⟨uxl, rfl, o, b⟩
  have Z6 := b.size
  have G6 := G5.trans (b.mono G5.size)
  replace Ow0 := Ow0.below b
  clear b
  have Oxl := o
  clear o
  go_wp2_with fail
  refine (toUseS_c (HVu.below G6) hnu).mono ?_
  rintro e w7 ⟨uxu, rfl, o, b⟩
  have Z7 := b.size
  have G7 := G6.trans (b.mono G6.size)
  replace Ow0 := Ow0.below b
  replace Oxl := Oxl.below b
  clear b
  have Oxu := o
  clear o
  go_wp2_with fail
  refine (implUseAdd_c name more Oxl.vw Oxu.vw).mono ?_
  rintro e w8 ⟨ug0, rfl, o, b⟩
  rw [HS.out] at o
  have Z8 := b.size
  have G8 := G7.trans (b.mono G7.size)
  replace Ow0 := Ow0.below b
  replace Oxl := Oxl.below b
  replace Oxu := Oxu.below b
  clear b
  have Og0 := o
  clear o
  go_wp2_with fail
  refine (eqUseS_c Og0.vw Ow0.vw).mono ?_
  rintro e w9 ⟨rfl, b⟩
  have Z9 := b.size
  have G9 := G8.trans (b.mono G8.size)
  replace Ow0 := Ow0.below b
  replace Oxl := Oxl.below b
  replace Oxu := Oxu.below b
  replace Og0 := Og0.below b
  clear b
  go_wp2_with fail
  refine (toSpaceS_c (HVl.below G9) hnl).mono ?_
  rintro e w10 ⟨uy, rfl, o, b⟩
  have Z10 := b.size
  have G10 := G9.trans (b.mono G9.size)
  replace Ow0 := Ow0.below b
  replace Oxl := Oxl.below b
  replace Oxu := Oxu.below b
  replace Og0 := Og0.below b
  clear b
  have Oy := o
  clear o
  go_wp2_with fail
  refine (eqSpaceS_c Oxl.vw Oy.vw).mono ?_
  rintro e w11 ⟨rfl, b⟩
  have Z11 := b.size
  have G11 := G10.trans (b.mono G10.size)
  replace Ow0 := Ow0.below b
  replace Oxl := Oxl.below b
  replace Oxu := Oxu.below b
  replace Og0 := Og0.below b
  replace Oy := Oy.below b
  clear b
  clear Oy
  go_wp2_with fail
  refine (toUseS_c (HVu.below G11) hnu).mono ?_
  rintro e w12 ⟨uy, rfl, o, b⟩
  have Z12 := b.size
  have G12 := G11.trans (b.mono G11.size)
  replace Ow0 := Ow0.below b
  replace Oxl := Oxl.below b
  replace Oxu := Oxu.below b
  replace Og0 := Og0.below b
  clear b
  have Oy := o
  clear o
  go_wp2_with fail
  refine (eqUseS_c Oxu.vw Oy.vw).mono ?_
  rintro e w13 ⟨rfl, b⟩
  have Z13 := b.size
  have G13 := G12.trans (b.mono G12.size)
  replace Ow0 := Ow0.below b
  replace Oxl := Oxl.below b
  replace Oxu := Oxu.below b
  replace Og0 := Og0.below b
  replace Oy := Oy.below b
  clear b
  clear Oy
  go_wp2_with fail
  refine (markSpaceS_c Oxl (k := (1 : Int)) (by omega) (by omega) (by omega)).mono ?_
  rintro e w14 ⟨rfl, o, kp⟩
  have Z14 := kp.size
  have G14 := kp.below G13 G13.size (fun k hk => Nat.le_trans G5.size hk.1)
  replace Ow0 := Ow0.kept kp (fun b h1 h2 h3 => by have h4 := h3.1; have h5 := h3.2; omega)
  replace Oxu := Oxu.kept kp (fun b h1 h2 h3 => by have h4 := h3.1; have h5 := h3.2; omega)
  replace Og0 := Og0.kept kp (fun b h1 h2 h3 => by have h4 := h3.1; have h5 := h3.2; omega)
  replace Oxl := o
  clear o kp
  clear Oxl
  go_wp2_with fail
  refine (markUseS_c Oxu (k := (1 : Int) + numSpaceS l) (by omega) (by omega) (by omega)).mono ?_
  rintro e w15 ⟨rfl, o, kp⟩
  have Z15 := kp.size
  have G15 := kp.below G14 G14.size (fun k hk => Nat.le_trans G6.size hk.1)
  replace Ow0 := Ow0.kept kp (fun b h1 h2 h3 => by have h4 := h3.1; have h5 := h3.2; omega)
  replace Og0 := Og0.kept kp (fun b h1 h2 h3 => by have h4 := h3.1; have h5 := h3.2; omega)
  replace Oxu := o
  clear o kp
  clear Oxu
  have hk1 : ¬ (1 : Int) + numSpaceS l + numUseS u < 0 := by omega
  have hk2 : decide ((1 : Int) + numSpaceS l + numUseS u < 0) = false := decide_eq_false hk1
  go_wp2_with fail
  refine (eqUseS_c Og0.vw Ow0.vw).mono ?_
  rintro e w16 ⟨rfl, b⟩
  have Z16 := b.size
  have G16 := G15.trans (b.mono G15.size)
  replace Ow0 := Ow0.below b
  replace Og0 := Og0.below b
  clear b
  go_wp2_with fail
  refine (markUseS_c Og0 (k := (1 : Int)) (by omega) (by omega) (by omega)).mono ?_
  rintro e w17 ⟨rfl, o, kp⟩
  have Z17 := kp.size
  have G17 := kp.below G16 G16.size (fun k hk => Nat.le_trans G7.size hk.1)
  replace Ow0 := Ow0.kept kp (fun b h1 h2 h3 => by have h4 := h3.1; have h5 := h3.2; omega)
  replace Og0 := o
  clear o kp
  go_wp2_with fail
  refine (heldUseS_c (k := (1 : Int)) Og0.vw (by omega) (by omega) (by omega)).mono ?_
  rintro e w18 ⟨rfl, b⟩
  have Z18 := b.size
  have G18 := G17.trans (b.mono G17.size)
  replace Ow0 := Ow0.below b
  replace Og0 := Og0.below b
  clear b
  go_wp2_with fail
  refine (toSpaceS_c (HVl.below G18) hnl).mono ?_
  rintro e w19 ⟨uzl, rfl, o, b⟩
  have Z19 := b.size
  have G19 := G18.trans (b.mono G18.size)
  replace Ow0 := Ow0.below b
  replace Og0 := Og0.below b
  clear b
  have Ozl := o
  clear o
  go_wp2_with fail
  refine (toUseS_c (HVu.below G19) hnu).mono ?_
  rintro e w20 ⟨uzu, rfl, o, b⟩
  have Z20 := b.size
  have G20 := G19.trans (b.mono G19.size)
  replace Ow0 := Ow0.below b
  replace Og0 := Og0.below b
  replace Ozl := Ozl.below b
  clear b
  have Ozu := o
  clear o
  go_wp2_with fail
  refine (implUseAdd_c name more Ozl.vw Ozu.vw).mono ?_
  rintro e w21 ⟨uh0, rfl, o, b⟩
  rw [HS.out] at o
  have Z21 := b.size
  have G21 := G20.trans (b.mono G20.size)
  replace Ow0 := Ow0.below b
  replace Og0 := Og0.below b
  replace Ozl := Ozl.below b
  replace Ozu := Ozu.below b
  clear b
  have Oh0 := o
  clear o
  clear Ozl Ozu
  go_wp2_with fail
  refine (eqUseS_c Oh0.vw Ow0.vw).mono ?_
  rintro e w22 ⟨rfl, b⟩
  have Z22 := b.size
  have G22 := G21.trans (b.mono G21.size)
  replace Ow0 := Ow0.below b
  replace Og0 := Og0.below b
  replace Oh0 := Oh0.below b
  clear b
  go_wp2_with fail
  refine (heldUseS_c (k := (1 : Int)) Og0.vw (by omega) (by omega) (by omega)).mono ?_
  rintro e w23 ⟨rfl, b⟩
  have Z23 := b.size
  have G23 := G22.trans (b.mono G22.size)
  replace Ow0 := Ow0.below b
  replace Og0 := Og0.below b
  replace Oh0 := Oh0.below b
  clear b
  go_wp2
  go_ret
  exact ⟨rfl, G23⟩
end Go.Proofs.Ytlaehhdbagiciab
