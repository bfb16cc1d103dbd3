import Derived.Test.YteejabpohnfoaaaDoorMemJoin
import Derived.Test.YteejabpohnfoaaaDoorEntsOpen
/- The walk of FnExactMemJoin. -/
namespace Go.Proofs.YteejabpohnfoaaaDoor
open Go Go.RowKit

theorem joinL_len (l m : List EntryD) : (joinL l m).length ≤ 240 := by
  unfold joinL
  split
  · rename_i h
    unfold joinOk at h
    rw [Bool.and_eq_true] at h
    exact (entsB_at h.2).1
  · simp
set_option maxRecDepth 100000 in
set_option maxHeartbeats 4000000 in
theorem fnExactMemJoinWalk (a : Option Addr) (c : Nat) (l : List EntryD) {w : World} (h : ElS 4 encEntry w a l) (hok : ∀ x ∈ l, OkEntry x) (a2 : Option Addr) (cc : Nat) (m : List EntryD) (h2 : ElS 4 encEntry w a2 m) (hok2 : ∀ x ∈ m, OkEntry x) (ht : HashT w) :
    Calls Tryd.prog 4 #[.slice a l.length c, .slice a2 m.length cc] w fun e w' => e = .returned (.bool true) ∧ Below w.heap.size w w' := by
  have HV := Lib.hid h
  have HV2 := Lib.hid h2
  have HT := Lib.hid ht
  have hlm : l.length ≤ maxLen := h.1
  have hmm : m.length ≤ maxLen := h2.1
  clear h h2 ht
  by_cases hb : (1048576 : Int) < (bulkEntryS l : Int)
  · have HR := Lib.hid (szR_no hb)
    clear hb
    go_enter Tryd.func4, Tryd.ntmps4
    go_wp2_with fail
    refine (szEntryS_any _ _ l _ _ (by omega) (by omega) HV.out hok).mono ?_
    rintro e w1 ⟨rfl, b1⟩
    rw [HR.out]
    go_wp2
    go_ret
    exact ⟨rfl, b1⟩
  have HR := Lib.hid (szR_yes (show (bulkEntryS l : Int) ≤ 1048576 by omega))
  have hn : l.length ≤ 1048576 := by unfold bulkEntryS at hb; omega
  have hq : 0 ≤ (1048576 : Int) - bulkEntryS l := by omega
  have hq2 : (1048576 : Int) - bulkEntryS l ≤ 1048576 := by omega
  clear hb
  by_cases hb : (1048576 : Int) - bulkEntryS l < (bulkEntryS m : Int)
  · have HR2 := Lib.hid (szR_no hb)
    clear hb
    go_enter Tryd.func4, Tryd.ntmps4
    go_wp2_with fail
    refine (szEntryS_any _ _ l _ _ (by omega) (by omega) HV.out hok).mono ?_
    rintro e w1 ⟨rfl, b1⟩
    rw [HR.out]
    go_wp2_with fail
    refine (szEntryS_any _ _ m _ _ hq hq2 (HV2.out.below b1) hok2).mono ?_
    rintro e w2 ⟨rfl, b2⟩
    rw [HR2.out]
    go_wp2
    go_ret
    exact ⟨rfl, b1.trans (b2.mono b1.size)⟩
  have HR2 := Lib.hid (szR_yes (show (bulkEntryS m : Int) ≤ (1048576 : Int) - bulkEntryS l by omega))
  have hn3 : m.length ≤ 1048576 := by unfold bulkEntryS at hb; omega
  have hq3 : 0 ≤ (1048576 : Int) - bulkEntryS l - bulkEntryS m := by omega
  clear hb
  obtain ⟨R, hR⟩ : ∃ R, joinL l m = R := ⟨_, rfl⟩
  have hn2 : R.length ≤ 240 := by rw [← hR]; exact joinL_len l m
  have hrm : R.length ≤ maxLen := by unfold maxLen; omega
  have HS := Lib.hid hR
  have mlen : (marksEntry 1 R.length).length ≤ maxLen := by rw [marksEntry_len]; exact hrm
  obtain ⟨RB, hRB⟩ : ∃ RB, joinOk l m = RB := ⟨_, rfl⟩
  have HSB := Lib.hid hRB
  have hbb : (RB != RB) = false := by simp
  clear hR hRB
  go_enter Tryd.func4, Tryd.ntmps4
  go_wp2_with fail
  refine (szEntryS_any _ _ l _ _ (by omega) (by omega) HV.out hok).mono ?_
  rintro e w1 ⟨rfl, b⟩
  rw [HR.out]
  have G1 := Lib.hid b
  have Z1 := Lib.hid b.size
  clear b
  go_wp2_with fail
  refine (szEntryS_any _ _ m _ _ hq hq2 (HV2.out.below G1.out) hok2).mono ?_
  rintro e w2 ⟨rfl, b⟩
  rw [HR2.out]
  have G2 := Lib.hid (G1.out.trans (b.mono G1.out.size))
  have Z2 := Lib.hid b.size
  clear b
  go_wp2_with fail
  refine (toEntryS_any _ _ l _ hn (HV.out.below G2.out)).mono ?_
  rintro e w3 ⟨rfl, o, b⟩
  have G3 := Lib.hid (G2.out.trans (b.mono G2.out.size))
  have Z3 := Lib.hid b.size
  clear b
  have OS := Lib.hid o
  have LOS := Lib.hid o.lt
  clear o
  go_wp2_with fail
  refine (toEntryS_any _ _ m _ hn3 (HV2.out.below G3.out)).mono ?_
  rintro e w4 ⟨rfl, o, b⟩
  have G4 := Lib.hid (G3.out.trans (b.mono G3.out.size))
  have Z4 := Lib.hid b.size
  replace OS := Lib.hid (own_below OS.out b)
  clear b
  have OT := Lib.hid o
  have LOT := Lib.hid o.lt
  clear o
  go_wp2_with fail
  refine (specMemJoin_any _ _ _ _ l m _ (own_el encEntry_len hlm OS.out) (own_el encEntry_len hmm OT.out) hok hok2).mono ?_
  rintro e w5 ⟨vW0, rfl, o, b⟩
  rw [HS.out] at o
  rw [HSB.out]
  obtain ⟨aW0, cW0, rfl⟩ := own_shape o
  have G5 := Lib.hid (G4.out.trans (b.mono G4.out.size))
  have Z5 := Lib.hid b.size
  replace OS := Lib.hid (own_below OS.out b)
  replace OT := Lib.hid (own_below OT.out b)
  clear b
  have W0 := Lib.hid o
  have LW0 := Lib.hid o.lt
  clear o
  clear OS OT LOS LOT
  go_wp2_with fail
  refine (toEntryS_any _ _ l _ hn (HV.out.below G5.out)).mono ?_
  rintro e w6 ⟨rfl, o, b⟩
  have G6 := Lib.hid (G5.out.trans (b.mono G5.out.size))
  have Z6 := Lib.hid b.size
  replace W0 := Lib.hid (own_below W0.out b)
  clear b
  have X0 := Lib.hid o
  have LX0 := Lib.hid o.lt
  clear o
  go_wp2_with fail
  refine (toEntryS_any _ _ m _ hn3 (HV2.out.below G6.out)).mono ?_
  rintro e w7 ⟨rfl, o, b⟩
  have G7 := Lib.hid (G6.out.trans (b.mono G6.out.size))
  have Z7 := Lib.hid b.size
  replace W0 := Lib.hid (own_below W0.out b)
  replace X0 := Lib.hid (own_below X0.out b)
  clear b
  have X1 := Lib.hid o
  have LX1 := Lib.hid o.lt
  clear o
  go_wp2_with fail
  refine (implMemJoin_any _ _ _ _ l m _ (own_el encEntry_len hlm X0.out) (own_el encEntry_len hmm X1.out) hok hok2 (HT.out.below G7.out)).mono ?_
  rintro e w8 ⟨vG0, rfl, o, b⟩
  rw [HS.out] at o
  rw [HSB.out]
  obtain ⟨aG0, cG0, rfl⟩ := own_shape o
  have G8 := Lib.hid (G7.out.trans (b.mono G7.out.size))
  have Z8 := Lib.hid b.size
  replace W0 := Lib.hid (own_below W0.out b)
  replace X0 := Lib.hid (own_below X0.out b)
  replace X1 := Lib.hid (own_below X1.out b)
  clear b
  have G0 := Lib.hid o
  have LG0 := Lib.hid o.lt
  clear o
  go_wp2_with fail
  refine (eqEntryS_any _ _ _ _ R _ (own_el encEntry_len hrm G0.out) (own_el encEntry_len hrm W0.out)).mono ?_
  rintro e w9 ⟨rfl, b⟩
  have G9 := Lib.hid (G8.out.trans (b.mono G8.out.size))
  have Z9 := Lib.hid b.size
  replace W0 := Lib.hid (own_below W0.out b)
  replace X0 := Lib.hid (own_below X0.out b)
  replace X1 := Lib.hid (own_below X1.out b)
  replace G0 := Lib.hid (own_below G0.out b)
  clear b
  go_wp2_with fail
  refine (toEntryS_any _ _ l _ hn (HV.out.below G9.out)).mono ?_
  rintro e w10 ⟨rfl, o, b⟩
  have G10 := Lib.hid (G9.out.trans (b.mono G9.out.size))
  have Z10 := Lib.hid b.size
  replace W0 := Lib.hid (own_below W0.out b)
  replace X0 := Lib.hid (own_below X0.out b)
  replace X1 := Lib.hid (own_below X1.out b)
  replace G0 := Lib.hid (own_below G0.out b)
  clear b
  have Y := Lib.hid o
  have LY := Lib.hid o.lt
  clear o
  go_wp2_with fail
  refine (eqEntryS_any _ _ _ _ l _ (own_el encEntry_len hlm X0.out) (own_el encEntry_len hlm Y.out)).mono ?_
  rintro e w11 ⟨rfl, b⟩
  have G11 := Lib.hid (G10.out.trans (b.mono G10.out.size))
  have Z11 := Lib.hid b.size
  replace W0 := Lib.hid (own_below W0.out b)
  replace X0 := Lib.hid (own_below X0.out b)
  replace X1 := Lib.hid (own_below X1.out b)
  replace G0 := Lib.hid (own_below G0.out b)
  replace Y := Lib.hid (own_below Y.out b)
  clear b
  clear Y LY
  go_wp2_with fail
  refine (toEntryS_any _ _ m _ hn3 (HV2.out.below G11.out)).mono ?_
  rintro e w12 ⟨rfl, o, b⟩
  have G12 := Lib.hid (G11.out.trans (b.mono G11.out.size))
  have Z12 := Lib.hid b.size
  replace W0 := Lib.hid (own_below W0.out b)
  replace X0 := Lib.hid (own_below X0.out b)
  replace X1 := Lib.hid (own_below X1.out b)
  replace G0 := Lib.hid (own_below G0.out b)
  clear b
  have Y := Lib.hid o
  have LY := Lib.hid o.lt
  clear o
  go_wp2_with fail
  refine (eqEntryS_any _ _ _ _ m _ (own_el encEntry_len hmm X1.out) (own_el encEntry_len hmm Y.out)).mono ?_
  rintro e w13 ⟨rfl, b⟩
  have G13 := Lib.hid (G12.out.trans (b.mono G12.out.size))
  have Z13 := Lib.hid b.size
  replace W0 := Lib.hid (own_below W0.out b)
  replace X0 := Lib.hid (own_below X0.out b)
  replace X1 := Lib.hid (own_below X1.out b)
  replace G0 := Lib.hid (own_below G0.out b)
  replace Y := Lib.hid (own_below Y.out b)
  clear b
  clear Y LY
  go_wp2_with fail
  refine (markEntryS_any _ _ _ _ _ _ (by omega) (by omega) (by omega) X0.out).mono ?_
  rintro e w14 ⟨rfl, o, k⟩
  have Z14 := Lib.hid k.size
  have G14 := Lib.hid (k.below G13.out G13.out.size (fun j hj => by have h1 := LX0.out j hj; have z1 := Z1.out; have z2 := Z2.out; have z3 := Z3.out; have z4 := Z4.out; have z5 := Z5.out; have z6 := Z6.out; have z7 := Z7.out; have z8 := Z8.out; have z9 := Z9.out; have z10 := Z10.out; have z11 := Z11.out; have z12 := Z12.out; have z13 := Z13.out; have z14 := Z14.out; omega))
  replace W0 := Lib.hid (own_kept W0.out k (fun j hj hj2 => by have h1 := LW0.out j hj; have h2 := LX0.out j hj2; have z1 := Z1.out; have z2 := Z2.out; have z3 := Z3.out; have z4 := Z4.out; have z5 := Z5.out; have z6 := Z6.out; have z7 := Z7.out; have z8 := Z8.out; have z9 := Z9.out; have z10 := Z10.out; have z11 := Z11.out; have z12 := Z12.out; have z13 := Z13.out; have z14 := Z14.out; omega))
  replace X1 := Lib.hid (own_kept X1.out k (fun j hj hj2 => by have h1 := LX1.out j hj; have h2 := LX0.out j hj2; have z1 := Z1.out; have z2 := Z2.out; have z3 := Z3.out; have z4 := Z4.out; have z5 := Z5.out; have z6 := Z6.out; have z7 := Z7.out; have z8 := Z8.out; have z9 := Z9.out; have z10 := Z10.out; have z11 := Z11.out; have z12 := Z12.out; have z13 := Z13.out; have z14 := Z14.out; omega))
  replace G0 := Lib.hid (own_kept G0.out k (fun j hj hj2 => by have h1 := LG0.out j hj; have h2 := LX0.out j hj2; have z1 := Z1.out; have z2 := Z2.out; have z3 := Z3.out; have z4 := Z4.out; have z5 := Z5.out; have z6 := Z6.out; have z7 := Z7.out; have z8 := Z8.out; have z9 := Z9.out; have z10 := Z10.out; have z11 := Z11.out; have z12 := Z12.out; have z13 := Z13.out; have z14 := Z14.out; omega))
  replace X0 := Lib.hid o
  clear o k
  clear X0 LX0
  go_wp2_with fail
  refine (markEntryS_any _ _ _ _ _ _ (by omega) (by omega) (by omega) X1.out).mono ?_
  rintro e w15 ⟨rfl, o, k⟩
  have Z15 := Lib.hid k.size
  have G15 := Lib.hid (k.below G14.out G14.out.size (fun j hj => by have h1 := LX1.out j hj; have z1 := Z1.out; have z2 := Z2.out; have z3 := Z3.out; have z4 := Z4.out; have z5 := Z5.out; have z6 := Z6.out; have z7 := Z7.out; have z8 := Z8.out; have z9 := Z9.out; have z10 := Z10.out; have z11 := Z11.out; have z12 := Z12.out; have z13 := Z13.out; have z14 := Z14.out; have z15 := Z15.out; omega))
  replace W0 := Lib.hid (own_kept W0.out k (fun j hj hj2 => by have h1 := LW0.out j hj; have h2 := LX1.out j hj2; have z1 := Z1.out; have z2 := Z2.out; have z3 := Z3.out; have z4 := Z4.out; have z5 := Z5.out; have z6 := Z6.out; have z7 := Z7.out; have z8 := Z8.out; have z9 := Z9.out; have z10 := Z10.out; have z11 := Z11.out; have z12 := Z12.out; have z13 := Z13.out; have z14 := Z14.out; have z15 := Z15.out; omega))
  replace G0 := Lib.hid (own_kept G0.out k (fun j hj hj2 => by have h1 := LG0.out j hj; have h2 := LX1.out j hj2; have z1 := Z1.out; have z2 := Z2.out; have z3 := Z3.out; have z4 := Z4.out; have z5 := Z5.out; have z6 := Z6.out; have z7 := Z7.out; have z8 := Z8.out; have z9 := Z9.out; have z10 := Z10.out; have z11 := Z11.out; have z12 := Z12.out; have z13 := Z13.out; have z14 := Z14.out; have z15 := Z15.out; omega))
  replace X1 := Lib.hid o
  clear o k
  clear X1 LX1
  have hk1 : ¬ (1 : Int) + 4 * (l.length : Int) + 4 * (m.length : Int) < 0 := by omega
  have hk2 : decide ((1 : Int) + 4 * (l.length : Int) + 4 * (m.length : Int) < 0) = false := decide_eq_false hk1
  go_wp2_with fail
  refine (eqEntryS_any _ _ _ _ R _ (own_el encEntry_len hrm G0.out) (own_el encEntry_len hrm W0.out)).mono ?_
  rintro e w16 ⟨rfl, b⟩
  have G16 := Lib.hid (G15.out.trans (b.mono G15.out.size))
  have Z16 := Lib.hid b.size
  replace W0 := Lib.hid (own_below W0.out b)
  replace G0 := Lib.hid (own_below G0.out b)
  clear b
  go_wp2_with fail
  refine (markEntryS_any _ _ _ _ _ _ (by omega) (by omega) (by omega) G0.out).mono ?_
  rintro e w17 ⟨rfl, o, k⟩
  have Z17 := Lib.hid k.size
  have G17 := Lib.hid (k.below G16.out G16.out.size (fun j hj => by have h1 := LG0.out j hj; have z1 := Z1.out; have z2 := Z2.out; have z3 := Z3.out; have z4 := Z4.out; have z5 := Z5.out; have z6 := Z6.out; have z7 := Z7.out; have z8 := Z8.out; have z9 := Z9.out; have z10 := Z10.out; have z11 := Z11.out; have z12 := Z12.out; have z13 := Z13.out; have z14 := Z14.out; have z15 := Z15.out; have z16 := Z16.out; have z17 := Z17.out; omega))
  replace W0 := Lib.hid (own_kept W0.out k (fun j hj hj2 => by have h1 := LW0.out j hj; have h2 := LG0.out j hj2; have z1 := Z1.out; have z2 := Z2.out; have z3 := Z3.out; have z4 := Z4.out; have z5 := Z5.out; have z6 := Z6.out; have z7 := Z7.out; have z8 := Z8.out; have z9 := Z9.out; have z10 := Z10.out; have z11 := Z11.out; have z12 := Z12.out; have z13 := Z13.out; have z14 := Z14.out; have z15 := Z15.out; have z16 := Z16.out; have z17 := Z17.out; omega))
  replace G0 := Lib.hid o
  clear o k
  go_wp2_with fail
  refine (heldEntryS_any _ _ _ _ _ (by omega) (by omega) (by omega) (own_el encEntry_len mlen (by rw [marksEntry_len]; exact G0.out))).mono ?_
  rintro e w18 ⟨rfl, b⟩
  have G18 := Lib.hid (G17.out.trans (b.mono G17.out.size))
  have Z18 := Lib.hid b.size
  replace W0 := Lib.hid (own_below W0.out b)
  replace G0 := Lib.hid (own_below G0.out b)
  clear b
  go_wp2_with fail
  refine (toEntryS_any _ _ l _ hn (HV.out.below G18.out)).mono ?_
  rintro e w19 ⟨rfl, o, b⟩
  have G19 := Lib.hid (G18.out.trans (b.mono G18.out.size))
  have Z19 := Lib.hid b.size
  replace W0 := Lib.hid (own_below W0.out b)
  replace G0 := Lib.hid (own_below G0.out b)
  clear b
  have H := Lib.hid o
  have LH := Lib.hid o.lt
  clear o
  go_wp2_with fail
  refine (toEntryS_any _ _ m _ hn3 (HV2.out.below G19.out)).mono ?_
  rintro e w20 ⟨rfl, o, b⟩
  have G20 := Lib.hid (G19.out.trans (b.mono G19.out.size))
  have Z20 := Lib.hid b.size
  replace W0 := Lib.hid (own_below W0.out b)
  replace G0 := Lib.hid (own_below G0.out b)
  replace H := Lib.hid (own_below H.out b)
  clear b
  have I := Lib.hid o
  have LI := Lib.hid o.lt
  clear o
  go_wp2_with fail
  refine (implMemJoin_any _ _ _ _ l m _ (own_el encEntry_len hlm H.out) (own_el encEntry_len hmm I.out) hok hok2 (HT.out.below G20.out)).mono ?_
  rintro e w21 ⟨vH0, rfl, o, b⟩
  rw [HS.out] at o
  rw [HSB.out]
  obtain ⟨aH0, cH0, rfl⟩ := own_shape o
  have G21 := Lib.hid (G20.out.trans (b.mono G20.out.size))
  have Z21 := Lib.hid b.size
  replace W0 := Lib.hid (own_below W0.out b)
  replace G0 := Lib.hid (own_below G0.out b)
  replace H := Lib.hid (own_below H.out b)
  replace I := Lib.hid (own_below I.out b)
  clear b
  have H0 := Lib.hid o
  have LH0 := Lib.hid o.lt
  clear o
  clear H I LH LI
  go_wp2_with fail
  refine (eqEntryS_any _ _ _ _ R _ (own_el encEntry_len hrm H0.out) (own_el encEntry_len hrm W0.out)).mono ?_
  rintro e w22 ⟨rfl, b⟩
  have G22 := Lib.hid (G21.out.trans (b.mono G21.out.size))
  have Z22 := Lib.hid b.size
  replace W0 := Lib.hid (own_below W0.out b)
  replace G0 := Lib.hid (own_below G0.out b)
  replace H0 := Lib.hid (own_below H0.out b)
  clear b
  clear W0 H0 LW0 LH0
  go_wp2_with fail
  refine (heldEntryS_any _ _ _ _ _ (by omega) (by omega) (by omega) (own_el encEntry_len mlen (by rw [marksEntry_len]; exact G0.out))).mono ?_
  rintro e w23 ⟨rfl, b⟩
  have G23 := Lib.hid (G22.out.trans (b.mono G22.out.size))
  have Z23 := Lib.hid b.size
  replace G0 := Lib.hid (own_below G0.out b)
  clear b
  go_wp2
  go_ret
  exact ⟨rfl, G23.out⟩
end Go.Proofs.YteejabpohnfoaaaDoor
