import Derived.Test.YtlaehhdbagiciabUseSumS
/- The walk of FnExactUseSum. -/
namespace Go.Proofs.Ytlaehhdbagiciab
open Go Go.RowKit

set_option maxRecDepth 100000 in
set_option maxHeartbeats 4000000 in
theorem fnExactUseSumWalk {w : World} (vl : Value) (l : List SpaceD) (hl : VwSpaceS w vl l) (vths : Value) (ths : List ThingD) (hths : VwThingS w vths ths) (name : ByteArray) (hzname : name.size ≤ maxLen) :
    Calls Try.prog 3 #[vl, vths, .string name] w fun e w' => e = .returned (.bool true) ∧ Below w.heap.size w w' := by
  unfold maxLen at hzname
  by_cases hs : (1048576 : Int) < (name.size : Int)
  · go_enter Try.func3, Try.ntmps3
    go_wp2
    go_ret
    exact ⟨rfl, Below.refl _ _⟩
  have hsname : (name.size : Int) ≤ 1048576 := by omega
  clear hs
  have HVl := hl
  clear hl
  have HVths := hths
  clear hths
  by_cases hb : (1048576 : Int) < (bulkSpaceS l : Int)
  · have HRl := Lib.hid (szR_no hb)
    clear hb
    go_enter Try.func3, Try.ntmps3
    go_wp2_with fail
    refine (szSpaceS_c HVl (left := (1048576 : Int)) (by omega) (by omega)).mono ?_
    rintro e w1 ⟨rfl, b⟩
    rw [HRl.out]
    have G1 := b
    clear b
    go_wp2
    go_ret
    exact ⟨rfl, G1⟩
  have HRl := Lib.hid (szR_yes (show (bulkSpaceS l : Int) ≤ (1048576 : Int) by omega))
  have hql : 0 ≤ (1048576 : Int) - bulkSpaceS l := by omega
  have hnl : (bulkSpaceS l : Int) ≤ 1048576 := by omega
  clear hb
  by_cases hb : (1048576 : Int) - bulkSpaceS l < (bulkThingS ths : Int)
  · have HRths := Lib.hid (szR_no hb)
    clear hb
    go_enter Try.func3, Try.ntmps3
    go_wp2_with fail
    refine (szSpaceS_c HVl (left := (1048576 : Int)) (by omega) (by omega)).mono ?_
    rintro e w1 ⟨rfl, b⟩
    rw [HRl.out]
    have G1 := b
    clear b
    go_wp2_with fail
    refine (szThingS_c (HVths.below G1) (left := (1048576 : Int) - bulkSpaceS l) (by omega) (by omega)).mono ?_
    rintro e w2 ⟨rfl, b⟩
    rw [HRths.out]
    have G2 := G1.trans (b.mono G1.size)
    clear b
    go_wp2
    go_ret
    exact ⟨rfl, G2⟩
  have HRths := Lib.hid (szR_yes (show (bulkThingS ths : Int) ≤ (1048576 : Int) - bulkSpaceS l by omega))
  have hqths : 0 ≤ (1048576 : Int) - bulkSpaceS l - bulkThingS ths := by omega
  have hnths : (bulkThingS ths : Int) ≤ 1048576 := by omega
  clear hb
  obtain ⟨R, hR⟩ : ∃ R : Int, useSum l ths name = R := ⟨_, rfl⟩
  have HS := Lib.hid hR
  clear hR
  go_enter Try.func3, Try.ntmps3
  go_wp2_with fail
  refine (szSpaceS_c HVl (left := (1048576 : Int)) (by omega) (by omega)).mono ?_
  rintro e w1 ⟨rfl, b⟩
  rw [HRl.out]
  have G1 := b
  clear b
  go_wp2_with fail
  refine (szThingS_c (HVths.below G1) (left := (1048576 : Int) - bulkSpaceS l) (by omega) (by omega)).mono ?_
  rintro e w2 ⟨rfl, b⟩
  rw [HRths.out]
  have G2 := G1.trans (b.mono G1.size)
  clear b
  go_wp2_with fail
  refine (toSpaceS_c (HVl.below G2) hnl).mono ?_
  rintro e w3 ⟨usl, rfl, o, b⟩
  have Z3 := b.size
  have G3 := G2.trans (b.mono G2.size)
  clear b
  have Osl := o
  clear o
  go_wp2_with fail
  refine (toThingS_c (HVths.below G3) hnths).mono ?_
  rintro e w4 ⟨usths, rfl, o, b⟩
  have Z4 := b.size
  have G4 := G3.trans (b.mono G3.size)
  replace Osl := Osl.below b
  clear b
  have Osths := o
  clear o
  go_wp2_with fail
  refine (specUseSum_c name Osl.vw Osths.vw hnl hnths).mono ?_
  rintro e w5 ⟨rfl, b⟩
  rw [HS.out]
  have Z5 := b.size
  have G5 := G4.trans (b.mono G4.size)
  replace Osl := Osl.below b
  replace Osths := Osths.below b
  clear b
  clear Osl Osths
  go_wp2_with fail
  refine (toSpaceS_c (HVl.below G5) hnl).mono ?_
  rintro e w6 ⟨uxl, rfl, o, b⟩
  have Z6 := b.size
  have G6 := G5.trans (b.mono G5.size)
  clear b
  have Oxl := o
  clear o
  go_wp2_with fail
  refine (toThingS_c (HVths.below G6) hnths).mono ?_
  rintro e w7 ⟨uxths, rfl, o, b⟩
  have Z7 := b.size
  have G7 := G6.trans (b.mono G6.size)
  replace Oxl := Oxl.below b
  clear b
  have Oxths := o
  clear o
  go_wp2_with fail
  refine (implUseSum_c name Oxl.vw Oxths.vn hnths).mono ?_
  rintro e w8 ⟨rfl, b⟩
  rw [HS.out]
  have Z8 := b.size
  have G8 := G7.trans (b.mono G7.size)
  replace Oxl := Oxl.below b
  replace Oxths := Oxths.below b
  clear b
  go_wp2_with fail
  refine (toSpaceS_c (HVl.below G8) hnl).mono ?_
  rintro e w9 ⟨uy, rfl, o, b⟩
  have Z9 := b.size
  have G9 := G8.trans (b.mono G8.size)
  replace Oxl := Oxl.below b
  replace Oxths := Oxths.below b
  clear b
  have Oy := o
  clear o
  go_wp2_with fail
  refine (eqSpaceS_c Oxl.vw Oy.vw).mono ?_
  rintro e w10 ⟨rfl, b⟩
  have Z10 := b.size
  have G10 := G9.trans (b.mono G9.size)
  replace Oxl := Oxl.below b
  replace Oxths := Oxths.below b
  replace Oy := Oy.below b
  clear b
  clear Oy
  go_wp2_with fail
  refine (toThingS_c (HVths.below G10) hnths).mono ?_
  rintro e w11 ⟨uy, rfl, o, b⟩
  have Z11 := b.size
  have G11 := G10.trans (b.mono G10.size)
  replace Oxl := Oxl.below b
  replace Oxths := Oxths.below b
  clear b
  have Oy := o
  clear o
  go_wp2_with fail
  refine (eqThingS_c Oxths.vw Oy.vw).mono ?_
  rintro e w12 ⟨rfl, b⟩
  have Z12 := b.size
  have G12 := G11.trans (b.mono G11.size)
  replace Oxl := Oxl.below b
  replace Oxths := Oxths.below b
  replace Oy := Oy.below b
  clear b
  clear Oy
  go_wp2
  go_ret
  exact ⟨rfl, G12⟩
end Go.Proofs.Ytlaehhdbagiciab
