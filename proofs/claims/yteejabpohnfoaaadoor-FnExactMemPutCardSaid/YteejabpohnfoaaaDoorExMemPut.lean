import Derived.Test.YteejabpohnfoaaaDoorMemPutS
import Derived.Test.YteejabpohnfoaaaDoorEntsOpen
/- The walk of FnExactMemPut. -/
namespace Go.Proofs.YteejabpohnfoaaaDoor
open Go Go.RowKit

/-- an entry as an argument -/
def agE (x : EntryD) : Value := .agg #[.string x.1, .int .i64 x.2.1, .bool x.2.2.1, .string x.2.2.2]
def VwEntryV (_ : World) (v : Value) (x : EntryD) : Prop := v = agE x ∧ OkEntry x
open Go.ChangeShapes Go.WideShapes in
set_option maxRecDepth 100000 in
theorem openEntryV {H : Type} {enc : TypeId × Value → H} {w : World} {r : Reach} {b0 : Nat} {v : Value} {d : DataW H} {p : List MemPlace} (hv : Value.okWide Tryd.prog w r b0 24 v) (h : DataW.Trod enc Tryd.prog w 0 (fun _ => true) true 24 v d p) :
    ∃ x, VwEntryV w v x := by
  obtain ⟨cs, rfl, hsz⟩ := okWide_struct Tryd.underlying24 hv
  obtain ⟨n, hn⟩ := h
  obtain ⟨x, hc, h1⟩ := openEntry n _ _ hn
  refine ⟨x, ?_, h1⟩
  simp only [Value.cells] at hc
  unfold agE
  congr 1
  apply Array.ext'
  simpa [encEntry] using hc
theorem putL_len2 (l : List EntryD) (e : EntryD) : (putL l e).length ≤ l.length + 1 := by
  unfold putL
  split
  · rw [putE_len]; omega
  · omega
theorem putL_mem {l : List EntryD} {e x : EntryD} (h : x ∈ putL l e) : x = e ∨ x ∈ l := by
  unfold putL at h
  split at h
  · exact putE_mem h
  · exact .inr h
set_option maxRecDepth 100000 in
set_option maxHeartbeats 4000000 in
theorem fnExactMemPutW (a : Option Addr) (c : Nat) (l : List EntryD) {w : World} (h : ElS 4 encEntry w a l) (hok : ∀ x ∈ l, OkEntry x) (x0 : ByteArray) (x1 : Int) (x2 : Bool) (x3 : ByteArray) (s0 : x0.size ≤ maxLen) (s3 : x3.size ≤ maxLen) (ht : HashT w) :
    Calls Tryd.prog 3 #[.slice a l.length c, .agg #[.string x0, .int .i64 x1, .bool x2, .string x3]] w fun e w' => e = .returned (.bool true) ∧ Below w.heap.size w w' := by
  have hlm : l.length ≤ maxLen := h.1
  obtain ⟨w0, hw0⟩ : ∃ W, w.alloc (.cells #[.string x0, .int .i64 x1, .bool x2, .string x3] 24) = W := ⟨_, rfl⟩
  have B0 := Lib.hid (show Below w.heap.size w w0 by rw [← hw0]; exact below_alloc _ _)
  have HV := Lib.hid (h.below B0.out)
  have HT := Lib.hid (ht.below B0.out)
  have KS := Lib.hid (show ∀ W, Below w0.heap.size w0 W → Below w0.heap.size w0 W ∧ W.cell? ⟨w.heap.size, 0, none⟩ = some (.string x0) ∧ W.cell? ⟨w.heap.size, 1, none⟩ = some (.int .i64 x1) ∧ W.cell? ⟨w.heap.size, 2, none⟩ = some (.bool x2) ∧ W.cell? ⟨w.heap.size, 3, none⟩ = some (.string x3) from fun W hb => by
    have q := (show Box w0 w.heap.size [.string x0, .int .i64 x1, .bool x2, .string x3] by rw [← hw0]; exact Box.alloc w _ _).below hb
    exact ⟨hb, (q 0 _ rfl).1, (q 1 _ rfl).1, (q 2 _ rfl).1, (q 3 _ rfl).1⟩)
  clear h ht
  by_cases hb : (1048576 : Int) < (bulkEntryS l : Int)
  · have HR := Lib.hid (szR_no hb)
    clear hb
    go_enter Tryd.func3, Tryd.ntmps3
    go_wp2_with fail
    clear hw0
    refine (szEntryS_any _ _ l _ w0 (by omega) (by omega) HV.out hok).mono ?_
    rintro e w1 ⟨rfl, b1⟩
    rw [HR.out]
    go_wp2
    go_ret
    exact ⟨rfl, B0.out.trans (b1.mono B0.out.size)⟩
  have HR := Lib.hid (szR_yes (show (bulkEntryS l : Int) ≤ 1048576 by omega))
  have hn : l.length ≤ 1048576 := by unfold bulkEntryS at hb; omega
  have hq : 0 ≤ (1048576 : Int) - bulkEntryS l := by omega
  have hq2 : (1048576 : Int) - bulkEntryS l ≤ 1048576 := by omega
  clear hb
  by_cases hb : (1048576 : Int) - bulkEntryS l < (bulkEntry (x0, x1, x2, x3) : Int)
  · have HR2 := Lib.hid (szR_no hb)
    clear hb
    go_enter Tryd.func3, Tryd.ntmps3
    go_wp2_with fail
    clear hw0
    refine (szEntryS_any _ _ l _ w0 (by omega) (by omega) HV.out hok).mono ?_
    rintro e w1 ⟨rfl, b1⟩
    rw [HR.out]
    obtain ⟨-, d0, d1, d2, d3⟩ := KS.out _ b1
    go_wp2_with fail
    refine (szEntry_any x0 x1 x2 x3 _ w1 hq hq2 s0 s3).mono ?_
    rintro e w2 ⟨rfl, b2⟩
    rw [HR2.out]
    clear d0 d1 d2 d3
    go_wp2
    go_ret
    exact ⟨rfl, B0.out.trans ((b1.trans (b2.mono b1.size)).mono B0.out.size)⟩
  have HR2 := Lib.hid (szR_yes (show (bulkEntry (x0, x1, x2, x3) : Int) ≤ (1048576 : Int) - bulkEntryS l by omega))
  have hq3 : 0 ≤ (1048576 : Int) - bulkEntryS l - bulkEntry (x0, x1, x2, x3) := by omega
  clear hb
  obtain ⟨R, hR⟩ : ∃ R, putL l (x0, x1, x2, x3) = R := ⟨_, rfl⟩
  have hn2 : R.length ≤ 1048577 := by rw [← hR]; have := putL_len2 l (x0, x1, x2, x3); omega
  have hrm : R.length ≤ maxLen := by unfold maxLen; omega
  have HS := Lib.hid hR
  have mlen : (marksEntry 1 R.length).length ≤ maxLen := by rw [marksEntry_len]; exact hrm
  obtain ⟨RB, hRB⟩ : ∃ RB, putOk l (x0, x1, x2, x3) = RB := ⟨_, rfl⟩
  have HSB := Lib.hid hRB
  have hbb : (RB != RB) = false := by simp
  clear hR hRB
  go_enter Tryd.func3, Tryd.ntmps3
  go_wp2_with fail
  clear hw0
  go_wp2_with fail
  refine (szEntryS_any _ _ l _ _ (by omega) (by omega) HV.out hok).mono ?_
  rintro e w1 ⟨rfl, b⟩
  rw [HR.out]
  obtain ⟨-, d0, d1, d2, d3⟩ := KS.out _ b
  have G1 := Lib.hid b
  have Z1 := Lib.hid b.size
  clear b
  go_wp2_with fail
  refine (szEntry_any x0 x1 x2 x3 _ _ hq hq2 s0 s3).mono ?_
  rintro e w2 ⟨rfl, b⟩
  rw [HR2.out]
  clear d0 d1 d2 d3
  have G2 := Lib.hid (G1.out.trans (b.mono G1.out.size))
  have Z2 := Lib.hid b.size
  clear b
  have GD := Lib.hid (G2.out.drew)
  go_wp2_with fail
  go_region_held3 (fun W => Below w0.heap.size w0 W ∧ W.cell? ⟨w.heap.size, 0, none⟩ = some (.string x0) ∧ W.cell? ⟨w.heap.size, 1, none⟩ = some (.int .i64 x1) ∧ W.cell? ⟨w.heap.size, 2, none⟩ = some (.bool x2) ∧ W.cell? ⟨w.heap.size, 3, none⟩ = some (.string x3))
    (first | exact KS.out _ GC.out | exact KS.out _ GB.out | exact KS.out _ GA.out | exact KS.out _ GD.out)
    (first | (go_at_call 10; refine (specMemPut_any _ _ l x0 x1 x2 x3 _ hn (Nat.le_refl _) (own_el encEntry_len hlm OB.out) hok s0 s3).mono ?_; rintro e wC ⟨vC, rfl, oC, bC⟩; rw [HS.out] at oC; rw [HSB.out]; obtain ⟨aC, cC, rfl⟩ := own_shape oC; have GC := Lib.hid (GB.out.trans (bC.mono GB.out.size)); have OC := Lib.hid oC; have LC := Lib.hid oC.lt; have ZC := Lib.hid bC.size; clear oC bC) | (go_at_call 12; refine (toEntry_any x0 x1 x2 x3 _).mono ?_; rintro e wB ⟨rfl, bB⟩; have GB := Lib.hid (GA.out.trans (bB.mono GA.out.size)); have OB := Lib.hid (own_below OA.out bB); have ZB := Lib.hid bB.size; clear bB) | (go_at_call 11; refine (toEntryS_any _ _ l _ hn (HV.out.below GD.out)).mono ?_; rintro e wA ⟨rfl, oA, bA⟩; have GA := Lib.hid (GD.out.trans (bA.mono GD.out.size)); have OA := Lib.hid oA; have ZA := Lib.hid bA.size; clear oA bA))
  rename_i hH
  have G3 := GC
  have Z3 := Lib.hid (Nat.le_trans (show w2.heap.size ≤ wA.heap.size from ZA.out) (Nat.le_trans ZB.out ZC.out))
  have W0 := OC
  have LW0 := Lib.hid (fun k hk => (⟨Nat.le_trans (show w2.heap.size ≤ wB.heap.size from Nat.le_trans ZA.out ZB.out) (LC.out k hk).1, (LC.out k hk).2⟩ : w2.heap.size ≤ k ∧ k < wC.heap.size))
  clear hH GD GA GB GC OA OB OC LC ZA ZB ZC 
  obtain ⟨w3, rfl⟩ : ∃ W, W = wC := ⟨_, rfl⟩
  go_wp2_with fail
  refine (toEntryS_any _ _ l _ hn (HV.out.below G3.out)).mono ?_
  rintro e w4 ⟨rfl, o, b⟩
  have G4 := Lib.hid (G3.out.trans (b.mono G3.out.size))
  have Z4 := Lib.hid b.size
  replace W0 := Lib.hid (own_below W0.out b)
  clear b
  have X0 := Lib.hid o
  have LX0 := Lib.hid o.lt
  clear o
  obtain ⟨-, d0, d1, d2, d3⟩ := KS.out _ G4.out
  go_wp2_with fail
  refine (toEntry_any x0 x1 x2 x3 _).mono ?_
  rintro e w5 ⟨rfl, b⟩
  clear d0 d1 d2 d3
  have G5 := Lib.hid (G4.out.trans (b.mono G4.out.size))
  have Z5 := Lib.hid b.size
  replace W0 := Lib.hid (own_below W0.out b)
  replace X0 := Lib.hid (own_below X0.out b)
  clear b
  go_wp2_with fail
  refine (implPut_any _ _ l x0 x1 x2 x3 _ hn (own_el encEntry_len hlm X0.out) hok s0 s3 (fun q => by cases q) (HT.out.below (G5.out))).mono ?_
  rintro e w6 ⟨vG0, rfl, o, b⟩
  rw [HS.out] at o
  rw [HSB.out]
  obtain ⟨aG0, cG0, rfl⟩ := own_shape o
  have G6 := Lib.hid (G5.out.trans (b.mono G5.out.size))
  have Z6 := Lib.hid b.size
  replace W0 := Lib.hid (own_below W0.out b)
  replace X0 := Lib.hid (own_below X0.out b)
  clear b
  have G0 := Lib.hid o
  have LG0 := Lib.hid o.lt
  clear o
  go_wp2_with fail
  refine (eqEntryS_any _ _ _ _ R _ (own_el encEntry_len hrm G0.out) (own_el encEntry_len hrm W0.out)).mono ?_
  rintro e w7 ⟨rfl, b⟩
  have G7 := Lib.hid (G6.out.trans (b.mono G6.out.size))
  have Z7 := Lib.hid b.size
  replace W0 := Lib.hid (own_below W0.out b)
  replace X0 := Lib.hid (own_below X0.out b)
  replace G0 := Lib.hid (own_below G0.out b)
  clear b
  go_wp2_with fail
  refine (toEntryS_any _ _ l _ hn (HV.out.below G7.out)).mono ?_
  rintro e w8 ⟨rfl, o, b⟩
  have G8 := Lib.hid (G7.out.trans (b.mono G7.out.size))
  have Z8 := Lib.hid b.size
  replace W0 := Lib.hid (own_below W0.out b)
  replace X0 := Lib.hid (own_below X0.out b)
  replace G0 := Lib.hid (own_below G0.out b)
  clear b
  have Y := Lib.hid o
  have LY := Lib.hid o.lt
  clear o
  go_wp2_with fail
  refine (eqEntryS_any _ _ _ _ l _ (own_el encEntry_len hlm X0.out) (own_el encEntry_len hlm Y.out)).mono ?_
  rintro e w9 ⟨rfl, b⟩
  have G9 := Lib.hid (G8.out.trans (b.mono G8.out.size))
  have Z9 := Lib.hid b.size
  replace W0 := Lib.hid (own_below W0.out b)
  replace X0 := Lib.hid (own_below X0.out b)
  replace G0 := Lib.hid (own_below G0.out b)
  replace Y := Lib.hid (own_below Y.out b)
  clear b
  clear Y LY
  go_wp2_with fail
  refine (markEntryS_any _ _ _ _ _ _ (by omega) (by omega) (by omega) X0.out).mono ?_
  rintro e w10 ⟨rfl, o, k⟩
  have Z10 := Lib.hid k.size
  have G10 := Lib.hid (k.below G9.out G9.out.size (fun j hj => by have h1 := LX0.out j hj; have z1 := Z1.out; have z2 := Z2.out; have z3 := Z3.out; have z4 := Z4.out; have z5 := Z5.out; have z6 := Z6.out; have z7 := Z7.out; have z8 := Z8.out; have z9 := Z9.out; have z10 := Z10.out; omega))
  replace W0 := Lib.hid (own_kept W0.out k (fun j hj hj2 => by have h1 := LW0.out j hj; have h2 := LX0.out j hj2; have z1 := Z1.out; have z2 := Z2.out; have z3 := Z3.out; have z4 := Z4.out; have z5 := Z5.out; have z6 := Z6.out; have z7 := Z7.out; have z8 := Z8.out; have z9 := Z9.out; have z10 := Z10.out; omega))
  replace G0 := Lib.hid (own_kept G0.out k (fun j hj hj2 => by have h1 := LG0.out j hj; have h2 := LX0.out j hj2; have z1 := Z1.out; have z2 := Z2.out; have z3 := Z3.out; have z4 := Z4.out; have z5 := Z5.out; have z6 := Z6.out; have z7 := Z7.out; have z8 := Z8.out; have z9 := Z9.out; have z10 := Z10.out; omega))
  replace X0 := Lib.hid o
  clear o k
  have hk1 : ¬ (1 : Int) + 4 * (l.length : Int) < 0 := by omega
  have hk2 : decide ((1 : Int) + 4 * (l.length : Int) < 0) = false := decide_eq_false hk1
  clear X0 LX0
  go_wp2_with fail
  refine (eqEntryS_any _ _ _ _ R _ (own_el encEntry_len hrm G0.out) (own_el encEntry_len hrm W0.out)).mono ?_
  rintro e w11 ⟨rfl, b⟩
  have G11 := Lib.hid (G10.out.trans (b.mono G10.out.size))
  have Z11 := Lib.hid b.size
  replace W0 := Lib.hid (own_below W0.out b)
  replace G0 := Lib.hid (own_below G0.out b)
  clear b
  go_wp2_with fail
  refine (markEntryS_any _ _ _ _ _ _ (by omega) (by omega) (by omega) G0.out).mono ?_
  rintro e w12 ⟨rfl, o, k⟩
  have Z12 := Lib.hid k.size
  have G12 := Lib.hid (k.below G11.out G11.out.size (fun j hj => by have h1 := LG0.out j hj; have z1 := Z1.out; have z2 := Z2.out; have z3 := Z3.out; have z4 := Z4.out; have z5 := Z5.out; have z6 := Z6.out; have z7 := Z7.out; have z8 := Z8.out; have z9 := Z9.out; have z10 := Z10.out; have z11 := Z11.out; have z12 := Z12.out; omega))
  replace W0 := Lib.hid (own_kept W0.out k (fun j hj hj2 => by have h1 := LW0.out j hj; have h2 := LG0.out j hj2; have z1 := Z1.out; have z2 := Z2.out; have z3 := Z3.out; have z4 := Z4.out; have z5 := Z5.out; have z6 := Z6.out; have z7 := Z7.out; have z8 := Z8.out; have z9 := Z9.out; have z10 := Z10.out; have z11 := Z11.out; have z12 := Z12.out; omega))
  replace G0 := Lib.hid o
  clear o k
  go_wp2_with fail
  refine (heldEntryS_any _ _ _ _ _ (by omega) (by omega) (by omega) (own_el encEntry_len mlen (by rw [marksEntry_len]; exact G0.out))).mono ?_
  rintro e w13 ⟨rfl, b⟩
  have G13 := Lib.hid (G12.out.trans (b.mono G12.out.size))
  have Z13 := Lib.hid b.size
  replace W0 := Lib.hid (own_below W0.out b)
  replace G0 := Lib.hid (own_below G0.out b)
  clear b
  have GD := Lib.hid (G13.out.drew)
  go_wp2_with fail
  go_region_held3 (fun W => Below w0.heap.size w0 W ∧ W.cell? ⟨w.heap.size, 0, none⟩ = some (.string x0) ∧ W.cell? ⟨w.heap.size, 1, none⟩ = some (.int .i64 x1) ∧ W.cell? ⟨w.heap.size, 2, none⟩ = some (.bool x2) ∧ W.cell? ⟨w.heap.size, 3, none⟩ = some (.string x3))
    (first | exact KS.out _ GC.out | exact KS.out _ GB.out | exact KS.out _ GA.out | exact KS.out _ GD.out)
    (first | (go_at_call 13; refine (implPut_any _ _ l x0 x1 x2 x3 _ hn (own_el encEntry_len hlm OB.out) hok s0 s3 (fun q => by cases q) (HT.out.below (GB.out))).mono ?_; rintro e wC ⟨vC, rfl, oC, bC⟩; rw [HS.out] at oC; rw [HSB.out]; obtain ⟨aC, cC, rfl⟩ := own_shape oC; have GC := Lib.hid (GB.out.trans (bC.mono GB.out.size)); have OC := Lib.hid oC; have LC := Lib.hid oC.lt; have ZC := Lib.hid bC.size; have W0C := Lib.hid (own_below W0B.out bC); have G0C := Lib.hid (own_below G0B.out bC); clear oC bC) | (go_at_call 12; refine (toEntry_any x0 x1 x2 x3 _).mono ?_; rintro e wB ⟨rfl, bB⟩; have GB := Lib.hid (GA.out.trans (bB.mono GA.out.size)); have OB := Lib.hid (own_below OA.out bB); have ZB := Lib.hid bB.size; have W0B := Lib.hid (own_below W0A.out bB); have G0B := Lib.hid (own_below G0A.out bB); clear bB) | (go_at_call 11; refine (toEntryS_any _ _ l _ hn (HV.out.below GD.out)).mono ?_; rintro e wA ⟨rfl, oA, bA⟩; have GA := Lib.hid (GD.out.trans (bA.mono GD.out.size)); have OA := Lib.hid oA; have ZA := Lib.hid bA.size; have W0A := Lib.hid (own_below W0.out (((Below.refl _ _).drew).trans bA)); have G0A := Lib.hid (own_below G0.out (((Below.refl _ _).drew).trans bA)); clear oA bA))
  rename_i hH
  have G14 := GC
  have Z14 := Lib.hid (Nat.le_trans (show w13.heap.size ≤ wA.heap.size from ZA.out) (Nat.le_trans ZB.out ZC.out))
  have W0 := W0C
  have G0 := G0C
  have H0 := OC
  have LH0 := Lib.hid (fun k hk => (⟨Nat.le_trans (show w13.heap.size ≤ wB.heap.size from Nat.le_trans ZA.out ZB.out) (LC.out k hk).1, (LC.out k hk).2⟩ : w13.heap.size ≤ k ∧ k < wC.heap.size))
  clear hH GD GA GB GC OA OB OC LC ZA ZB ZC W0A W0B W0C G0A G0B G0C
  obtain ⟨w14, rfl⟩ : ∃ W, W = wC := ⟨_, rfl⟩
  go_wp2_with fail
  refine (eqEntryS_any _ _ _ _ R _ (own_el encEntry_len hrm H0.out) (own_el encEntry_len hrm W0.out)).mono ?_
  rintro e w15 ⟨rfl, b⟩
  have G15 := Lib.hid (G14.out.trans (b.mono G14.out.size))
  have Z15 := Lib.hid b.size
  replace W0 := Lib.hid (own_below W0.out b)
  replace G0 := Lib.hid (own_below G0.out b)
  replace H0 := Lib.hid (own_below H0.out b)
  clear b
  clear W0 H0 LW0 LH0
  go_wp2_with fail
  refine (heldEntryS_any _ _ _ _ _ (by omega) (by omega) (by omega) (own_el encEntry_len mlen (by rw [marksEntry_len]; exact G0.out))).mono ?_
  rintro e w16 ⟨rfl, b⟩
  have G16 := Lib.hid (G15.out.trans (b.mono G15.out.size))
  have Z16 := Lib.hid b.size
  replace G0 := Lib.hid (own_below G0.out b)
  clear b
  go_wp2
  go_ret
  exact ⟨rfl, B0.out.trans (G16.out.mono B0.out.size)⟩
theorem fnExactMemPutWalk (a : Option Addr) (c : Nat) (l : List EntryD) {w : World} (h : ElS 4 encEntry w a l) (hok : ∀ x ∈ l, OkEntry x) (v : Value) (x : EntryD) (hv : VwEntryV w v x) (ht : HashT w) :
    Calls Tryd.prog 3 #[.slice a l.length c, v] w fun e w' => e = .returned (.bool true) ∧ Below w.heap.size w w' := by
  obtain ⟨rfl, h1, h2⟩ := hv
  exact fnExactMemPutW a c l h hok x.1 x.2.1 x.2.2.1 x.2.2.2 h1 h2 ht
end Go.Proofs.YteejabpohnfoaaaDoor
