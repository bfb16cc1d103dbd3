import Derived.Test.YtbdicaanniffpaaTrimI
/- The walk of FnExactMemTrim. -/
namespace Go.Proofs.Ytbdicaanniffpaa
open Go Go.RowKit

set_option maxRecDepth 100000 in
set_option maxHeartbeats 2000000 in
theorem fnExactMemTrimWalk (a : Option Addr) (c : Nat) (l : List EntryD) {w : World} (h : ElS 4 encEntry w a l) (hok : ∀ x ∈ l, OkEntry x) (floor : Int) (_hf : (Lit.int .i64 floor).wf = true) (bottom : Bool) :
    Calls Try.prog 7 #[.slice a l.length c, .int .i64 floor, .bool bottom] w fun e w' => e = .returned (.bool true) ∧ Below w.heap.size w w' := by
  by_cases hb : (1048576 : Int) < (bulkEntryS l : Int)
  · have HR := Lib.hid (szR_no hb)
    go_enter Try.func7, Try.ntmps7
    go_wp2_with fail
    refine (szEntryS_any _ _ l _ _ (by omega) (by omega) h hok).mono ?_
    rintro e w1 ⟨rfl, b1⟩
    rw [HR.out]
    go_wp2
    go_ret
    exact ⟨rfl, b1⟩
  have HR := Lib.hid (szR_yes (show (bulkEntryS l : Int) ≤ 1048576 by omega))
  have hn : l.length ≤ 1048576 := by unfold bulkEntryS at hb; omega
  have hq : 0 ≤ (1048576 : Int) - bulkEntryS l := by omega
  clear hb
  obtain ⟨R, hR⟩ : ∃ R, R = trimV l floor bottom := ⟨_, rfl⟩
  have hn2 : R.length ≤ 240 := by rw [hR]; exact trimV_len l floor bottom
  have hok2 : ∀ x ∈ R, OkEntry x := by rw [hR]; exact fun x hx => hok x (trimV_mem hx)
  have hlm : l.length ≤ maxLen := h.1
  have hrm : R.length ≤ maxLen := by unfold maxLen; omega
  have HS := Lib.hid hR
  have mlen : (marksEntry 1 R.length).length ≤ maxLen := by rw [marksEntry_len]; exact hrm
  clear hR
  go_enter Try.func7, Try.ntmps7
  go_wp2_with fail
  refine (szEntryS_any _ _ l _ _ (by omega) (by omega) h hok).mono ?_
  rintro e w1 ⟨rfl, G1⟩
  rw [HR.out]
  -- w0
  go_wp2_with fail
  refine (toEntryS_any _ _ l _ hn (h.below G1)).mono ?_
  rintro e w2 ⟨rfl, o2, b2⟩
  have S2 := Lib.hid (own_el encEntry_len hlm o2)
  clear o2
  have G2 := G1.trans (b2.mono G1.size)
  go_wp2_with fail
  refine (specTrim_any _ _ l floor bottom _ S2.out hok).mono ?_
  rintro e w3 ⟨v3, rfl, o3, b3⟩
  rw [← HS.out] at o3
  obtain ⟨a3, c3, rfl⟩ := own_shape o3
  have G3 := G2.trans (b3.mono G2.size)
  have L3 := Lib.hid o3.lt
  have O3 := Lib.hid o3
  have Z3 := b3.size
  have Y2 := b2.size
  clear o3
  -- x0
  go_wp2_with fail
  refine (toEntryS_any _ _ l _ hn (h.below G3)).mono ?_
  rintro e w4 ⟨rfl, o4, b4⟩
  have Z4 := b4.size
  have L4 := Lib.hid o4.lt
  have O4 := Lib.hid o4
  clear o4
  have G4 := G3.trans (b4.mono G3.size)
  have P3 := Lib.hid (own_below O3.out b4)
  clear O3
  -- g0
  go_wp2_with fail
  refine (implTrim_any _ _ l floor bottom _ (own_el encEntry_len hlm O4.out) hok).mono ?_
  rintro e w5 ⟨v5, rfl, o5, b5⟩
  rw [← HS.out] at o5
  obtain ⟨a5, c5, rfl⟩ := own_shape o5
  have Z5 := b5.size
  have L5 := Lib.hid o5.lt
  have O5 := Lib.hid o5
  clear o5
  have G5 := G4.trans (b5.mono G4.size)
  have Q3 := Lib.hid (own_below P3.out b5)
  have Q4 := Lib.hid (own_below O4.out b5)
  clear P3 O4
  -- eq g0 w0
  go_wp2_with fail
  refine (eqEntryS_any _ _ _ _ R _ (own_el encEntry_len hrm O5.out) (own_el encEntry_len hrm Q3.out)).mono ?_
  rintro e w6 ⟨rfl, b6⟩
  have Z6 := b6.size
  have G6 := G5.trans (b6.mono G5.size)
  have R3 := Lib.hid (own_below Q3.out b6)
  have R4 := Lib.hid (own_below Q4.out b6)
  have R5 := Lib.hid (own_below O5.out b6)
  clear Q3 Q4 O5
  -- eq x0 aList
  go_wp2_with fail
  refine (toEntryS_any _ _ l _ hn (h.below G6)).mono ?_
  rintro e w7 ⟨rfl, o7, b7⟩
  have Z7 := b7.size
  have G7 := G6.trans (b7.mono G6.size)
  have S7 := Lib.hid (own_el encEntry_len hlm o7)
  clear o7
  have T3 := Lib.hid (own_below R3.out b7)
  have T4 := Lib.hid (own_below R4.out b7)
  have T5 := Lib.hid (own_below R5.out b7)
  clear R3 R4 R5
  go_wp2_with fail
  refine (eqEntryS_any _ _ _ _ l _ (own_el encEntry_len hlm T4.out) S7.out).mono ?_
  rintro e w8 ⟨rfl, b8⟩
  have Z8 := b8.size
  have G8 := G7.trans (b8.mono G7.size)
  have U3 := Lib.hid (own_below T3.out b8)
  have U4 := Lib.hid (own_below T4.out b8)
  have U5 := Lib.hid (own_below T5.out b8)
  clear T3 T4 T5 S7
  -- mark x0
  go_wp2_with fail
  refine (markEntryS_any _ _ _ _ _ _ (by omega) (by omega) (by omega) U4.out).mono ?_
  rintro e w9 ⟨rfl, o9, k9⟩
  have Z9 := k9.size
  have G9 : Below w.heap.size w w9 := k9.below G8 G8.size (fun k hk => Nat.le_trans G3.size (L4.out k hk).1)
  have V3 := Lib.hid (own_kept U3.out k9 (fun k hk hk2 => by have h1 := L3.out k hk; have h2 := L4.out k hk2; omega))
  have V5 := Lib.hid (own_kept U5.out k9 (fun k hk hk2 => by have h1 := L5.out k hk; have h2 := L4.out k hk2; omega))
  clear U3 U4 U5 o9
  have hk1 : ¬ (1 : Int) + 4 * (l.length : Int) < 0 := by omega
  have hk2 : decide ((1 : Int) + 4 * (l.length : Int) < 0) = false := decide_eq_false hk1
  go_wp2_with fail
  refine (eqEntryS_any _ _ _ _ R _ (own_el encEntry_len hrm V5.out) (own_el encEntry_len hrm V3.out)).mono ?_
  rintro e w10 ⟨rfl, B10⟩
  have V3' := Lib.hid (own_below V3.out B10)
  have V5' := Lib.hid (own_below V5.out B10)
  have Z10 := B10.size
  have G10 : Below w.heap.size w w10 := G9.trans (B10.mono G9.size)
  clear V3 V5
  -- mark g0
  go_wp2_with fail
  refine (markEntryS_any _ _ _ _ _ _ (by omega) (by omega) (by omega) V5'.out).mono ?_
  rintro e w11 ⟨rfl, o11, k11⟩
  have Z11 := k11.size
  have G11 : Below w.heap.size w w11 := k11.below G10 G10.size (fun k hk => Nat.le_trans G4.size (L5.out k hk).1)
  have W3 := Lib.hid (own_kept V3'.out k11 (fun k hk hk2 => by have h1 := L3.out k hk; have h2 := L5.out k hk2; omega))
  have W5 := Lib.hid o11
  clear V3' V5' o11
  go_wp2_with fail
  refine (heldEntryS_any _ _ _ _ _ (by omega) (by omega) (by omega) (own_el encEntry_len mlen (by rw [marksEntry_len]; exact W5.out))).mono ?_
  rintro e w12 ⟨rfl, b12⟩
  have Z12 := b12.size
  have G12 := G11.trans (b12.mono G11.size)
  have X3 := Lib.hid (own_below W3.out b12)
  have X5 := Lib.hid (own_below W5.out b12)
  clear W3 W5
  -- h0
  go_wp2_with fail
  refine (toEntryS_any _ _ l _ hn (h.below G12)).mono ?_
  rintro e w13 ⟨rfl, o13, b13⟩
  have Z13 := b13.size
  have S13 := Lib.hid (own_el encEntry_len hlm o13)
  clear o13
  have G13 := G12.trans (b13.mono G12.size)
  have Y3 := Lib.hid (own_below X3.out b13)
  have Y5 := Lib.hid (own_below X5.out b13)
  clear X3 X5
  go_wp2_with fail
  refine (implTrim_any _ _ l floor bottom _ S13.out hok).mono ?_
  rintro e w14 ⟨v14, rfl, o14, b14⟩
  rw [← HS.out] at o14
  obtain ⟨a14, c14, rfl⟩ := own_shape o14
  have Z14 := b14.size
  have O14 := Lib.hid o14
  clear o14
  have G14 := G13.trans (b14.mono G13.size)
  have A3 := Lib.hid (own_below Y3.out b14)
  have A5 := Lib.hid (own_below Y5.out b14)
  clear Y3 Y5
  go_wp2_with fail
  refine (eqEntryS_any _ _ _ _ R _ (own_el encEntry_len hrm O14.out) (own_el encEntry_len hrm A3.out)).mono ?_
  rintro e w15 ⟨rfl, b15⟩
  have Z15 := b15.size
  have G15 := G14.trans (b15.mono G14.size)
  have D5 := Lib.hid (own_below A5.out b15)
  clear A3 A5 O14
  go_wp2_with fail
  refine (heldEntryS_any _ _ _ _ _ (by omega) (by omega) (by omega) (own_el encEntry_len mlen (by rw [marksEntry_len]; exact D5.out))).mono ?_
  rintro e w16 ⟨rfl, b16⟩
  have G16 := G15.trans (b16.mono G15.size)
  go_wp2
  go_ret
  exact ⟨rfl, G16⟩
end Go.Proofs.Ytbdicaanniffpaa
