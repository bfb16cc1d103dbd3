import Derived.Test.YtbioljpjpflboaaGreatDoorKitSpaceS
import Derived.Test.YtbioljpjpflboaaGreatDoorKitUseS
import Derived.Test.YtbioljpjpflboaaGreatDoorKitPastS
import Derived.Test.YtbioljpjpflboaaGreatDoorThs
/- Models as the exact laws' helpers see them and own them. -/
namespace Go.Proofs.YtbioljpjpflboaaGreatDoor
open Go Go.RowKit

structure ModelD where
  rev : Int
  uid : Int
  flo : Int
  sps : List SpaceD
  uses : List UseD
  ths : List ThingD
  pasts : List PastD
def bulkModel (m : ModelD) : Nat := bulkSpaceS m.sps + bulkUseS m.uses + bulkThingS m.ths + bulkPastS m.pasts
/-- a value reads as this model -/
def VwModel (w : World) (v : Value) (m : ModelD) : Prop := ∃ v3 v4 v5 v6, v = .agg #[.int .i64 m.rev, .int .i64 m.uid, .int .i64 m.flo, v3, v4, v5, v6] ∧ VwSpaceS w v3 m.sps ∧ VwUseS w v4 m.uses ∧ VwThingS w v5 m.ths ∧ VwPastS w v6 m.pasts
/-- the same, a list that is nothing being nil without room -/
def VnModel (w : World) (v : Value) (m : ModelD) : Prop := ∃ v3 v4 v5 v6, v = .agg #[.int .i64 m.rev, .int .i64 m.uid, .int .i64 m.flo, v3, v4, v5, v6] ∧ VwSpaceS w v3 m.sps ∧ VwUseS w v4 m.uses ∧ VnThingS w v5 m.ths ∧ VwPastS w v6 m.pasts
def OwModel (w : World) (base lim : Nat) (v : Value) (m : ModelD) : Prop := ∃ v3 v4 v5 v6 b0 b1 b2 b3 b4, v = .agg #[.int .i64 m.rev, .int .i64 m.uid, .int .i64 m.flo, v3, v4, v5, v6] ∧ (base ≤ b0 ∧ b0 ≤ b1 ∧ b1 ≤ b2 ∧ b2 ≤ b3 ∧ b3 ≤ b4 ∧ b4 ≤ lim) ∧ OwSpaceS w b0 b1 v3 m.sps ∧ OwUseS w b1 b2 v4 m.uses ∧ OwThingS w b2 b3 v5 m.ths ∧ OwPastS w b3 b4 v6 m.pasts
theorem OwSpaceS.shape {w : World} {base lim : Nat} {v : Value} {l : List SpaceD} (h : OwSpaceS w base lim v l) : ∃ a n c, v = .slice a n c := let ⟨a, c, e, _⟩ := h; ⟨a, _, c, e⟩
theorem OwUseS.shape {w : World} {base lim : Nat} {v : Value} {l : List UseD} (h : OwUseS w base lim v l) : ∃ a n c, v = .slice a n c := let ⟨a, c, e, _⟩ := h; ⟨a, _, c, e⟩
theorem OwPastS.shape {w : World} {base lim : Nat} {v : Value} {l : List PastD} (h : OwPastS w base lim v l) : ∃ a n c, v = .slice a n c := let ⟨a, c, e, _⟩ := h; ⟨a, _, c, e⟩
theorem OwThingS.shape {w : World} {base lim : Nat} {v : Value} {l : List ThingD} (h : OwThingS w base lim v l) : ∃ a n c, v = .slice a n c := by
  obtain ⟨a, c, xs, e, _⟩ := h.vw
  exact ⟨a, _, c, e⟩
theorem VwModel.below {w w' : World} {v : Value} {m : ModelD} (hb : Below w.heap.size w w') (h : VwModel w v m) : VwModel w' v m := let ⟨v3, v4, v5, v6, e, h3, h4, h5, h6⟩ := h; ⟨v3, v4, v5, v6, e, h3.below hb, h4.below hb, h5.below hb, h6.below hb⟩
theorem VnModel.below {w w' : World} {v : Value} {m : ModelD} (hb : Below w.heap.size w w') (h : VnModel w v m) : VnModel w' v m := let ⟨v3, v4, v5, v6, e, h3, h4, h5, h6⟩ := h; ⟨v3, v4, v5, v6, e, h3.below hb, h4.below hb, h5.below hb, h6.below hb⟩
theorem VnModel.vw {w : World} {v : Value} {m : ModelD} (h : VnModel w v m) : VwModel w v m := let ⟨v3, v4, v5, v6, e, h3, h4, h5, h6⟩ := h; ⟨v3, v4, v5, v6, e, h3, h4, h5.vw, h6⟩
theorem OwModel.vn {w : World} {base lim : Nat} {v : Value} {m : ModelD} (h : OwModel w base lim v m) : VnModel w v m := let ⟨v3, v4, v5, v6, _, _, _, _, _, e, _, h3, h4, h5, h6⟩ := h; ⟨v3, v4, v5, v6, e, h3.vw, h4.vw, h5.vn, h6.vw⟩
theorem OwModel.vw {w : World} {base lim : Nat} {v : Value} {m : ModelD} (h : OwModel w base lim v m) : VwModel w v m := h.vn.vw
theorem OwModel.below {w w' : World} {base lim : Nat} {v : Value} {m : ModelD} (hb : Below w.heap.size w w') (h : OwModel w base lim v m) : OwModel w' base lim v m := let ⟨v3, v4, v5, v6, b0, b1, b2, b3, b4, e, g, h3, h4, h5, h6⟩ := h; ⟨v3, v4, v5, v6, b0, b1, b2, b3, b4, e, g, h3.below hb, h4.below hb, h5.below hb, h6.below hb⟩
set_option maxRecDepth 100000 in
set_option maxHeartbeats 1000000 in
theorem szModel_c {v : Value} {m : ModelD} {w : World} (h : VwModel w v m) {left : Int} (h0 : 0 ≤ left) (h1 : left ≤ 1048576) :
    Calls Tryz.prog 5 #[v, .int .i64 left] w fun e w' => e = .returned (.int .i64 (szR left (bulkModel m))) ∧ Below w.heap.size w w' := by
  obtain ⟨v3, v4, v5, v6, rfl, h3, h4, h5, h6⟩ := h
  have hBK : bulkModel m = bulkSpaceS m.sps + bulkUseS m.uses + bulkThingS m.ths + bulkPastS m.pasts := rfl
  obtain ⟨n3, e3⟩ : ∃ n, bulkSpaceS m.sps = n := ⟨_, rfl⟩
  obtain ⟨n4, e4⟩ : ∃ n, bulkUseS m.uses = n := ⟨_, rfl⟩
  obtain ⟨n5, e5⟩ : ∃ n, bulkThingS m.ths = n := ⟨_, rfl⟩
  obtain ⟨n6, e6⟩ : ∃ n, bulkPastS m.pasts = n := ⟨_, rfl⟩
  rw [e3, e4, e5, e6] at hBK
  have HB := Lib.hid hBK
  have E3 := Lib.hid e3
  have E4 := Lib.hid e4
  have E5 := Lib.hid e5
  have E6 := Lib.hid e6
  have H3 := Lib.hid h3
  have H4 := Lib.hid h4
  have H5 := Lib.hid h5
  have H6 := Lib.hid h6
  clear h3 h4 h5 h6 e3 e4 e5 e6 hBK
  go_enter Tryz.func5, Tryz.ntmps5
  go_wp2_with fail
  obtain ⟨w2, hA⟩ : ∃ wA, w.alloc (.cells #[.int .i64 m.rev, .int .i64 m.uid, .int .i64 m.flo, v3, v4, v5, v6] 27) = wA := ⟨_, rfl⟩
  have BX := Lib.hid (show Box w2 w.heap.size [.int .i64 m.rev, .int .i64 m.uid, .int .i64 m.flo, v3, v4, v5, v6] by rw [← hA]; exact Box.alloc w _ _)
  have B2 := Lib.hid (show Below w.heap.size w w2 by rw [← hA]; exact below_alloc _ _)
  have z2 := B2.out.size
  rw [hA]
  clear hA
  refine (szSpaceS_c (H3.out.below B2.out) (show (0 : Int) ≤ left by omega) (by omega)).mono ?_
  rintro e w3 ⟨rfl, b3⟩
  rw [E3.out]
  have B3 := Lib.hid (B2.out.trans (b3.mono z2))
  have z3 := B3.out.size
  by_cases g3 : left < (n3 : Int)
  · have HR := Lib.hid (show szR left (bulkModel m) = -1 by rw [HB.out]; exact szR_no (by omega))
    rw [szR_no g3]
    go_wp2_with fail
    go_ret
    exact ⟨ret_int (by rw [HR.out]), B3.out⟩
  have g3' : (n3 : Int) ≤ left := by omega
  rw [szR_yes g3']
  obtain x4 := (((BX.out.below (show Below w2.heap.size w2 w3 from by first | exact b3 | exact B233.out.trans (b3.mono (by have := B233.out.size; omega)))) 4 _ rfl).1)
  have B234 := Lib.hid (show Below w2.heap.size w2 w3 from by first | exact b3 | exact B233.out.trans (b3.mono (by have := B233.out.size; omega)))
  clear b3 g3
  go_wp2_with fail
  refine (szUseS_c (H4.out.below B3.out) (show (0 : Int) ≤ left - (n3 : Int) by omega) (by omega)).mono ?_
  rintro e w4 ⟨rfl, b4⟩
  rw [E4.out]
  have B4 := Lib.hid (B3.out.trans (b4.mono z3))
  have z4 := B4.out.size
  by_cases g4 : left - (n3 : Int) < (n4 : Int)
  · have HR := Lib.hid (show szR left (bulkModel m) = -1 by rw [HB.out]; exact szR_no (by omega))
    rw [szR_no g4]
    go_wp2_with fail
    go_ret
    exact ⟨ret_int (by rw [HR.out]), B4.out⟩
  have g4' : (n4 : Int) ≤ left - (n3 : Int) := by omega
  rw [szR_yes g4']
  obtain x5 := (((BX.out.below (show Below w2.heap.size w2 w4 from by first | exact b3 | exact B234.out.trans (b4.mono (by have := B234.out.size; omega)))) 5 _ rfl).1)
  have B235 := Lib.hid (show Below w2.heap.size w2 w4 from by first | exact b3 | exact B234.out.trans (b4.mono (by have := B234.out.size; omega)))
  clear b4 g4
  go_wp2_with fail
  refine (szThingS_c (H5.out.below B4.out) (show (0 : Int) ≤ left - (n3 : Int) - (n4 : Int) by omega) (by omega)).mono ?_
  rintro e w5 ⟨rfl, b5⟩
  rw [E5.out]
  have B5 := Lib.hid (B4.out.trans (b5.mono z4))
  have z5 := B5.out.size
  by_cases g5 : left - (n3 : Int) - (n4 : Int) < (n5 : Int)
  · have HR := Lib.hid (show szR left (bulkModel m) = -1 by rw [HB.out]; exact szR_no (by omega))
    rw [szR_no g5]
    go_wp2_with fail
    go_ret
    exact ⟨ret_int (by rw [HR.out]), B5.out⟩
  have g5' : (n5 : Int) ≤ left - (n3 : Int) - (n4 : Int) := by omega
  rw [szR_yes g5']
  obtain x6 := (((BX.out.below (show Below w2.heap.size w2 w5 from by first | exact b3 | exact B235.out.trans (b5.mono (by have := B235.out.size; omega)))) 6 _ rfl).1)
  have B236 := Lib.hid (show Below w2.heap.size w2 w5 from by first | exact b3 | exact B235.out.trans (b5.mono (by have := B235.out.size; omega)))
  clear b5 g5
  go_wp2_with fail
  refine (szPastS_c (H6.out.below B5.out) (show (0 : Int) ≤ left - (n3 : Int) - (n4 : Int) - (n5 : Int) by omega) (by omega)).mono ?_
  rintro e w6 ⟨rfl, b6⟩
  rw [E6.out]
  have B6 := Lib.hid (B5.out.trans (b6.mono z5))
  have z6 := B6.out.size
  by_cases g6 : left - (n3 : Int) - (n4 : Int) - (n5 : Int) < (n6 : Int)
  · have HR := Lib.hid (show szR left (bulkModel m) = -1 by rw [HB.out]; exact szR_no (by omega))
    rw [szR_no g6]
    go_wp2_with fail
    go_ret
    exact ⟨ret_int (by rw [HR.out]), B6.out⟩
  have g6' : (n6 : Int) ≤ left - (n3 : Int) - (n4 : Int) - (n5 : Int) := by omega
  rw [szR_yes g6']
  have HR := Lib.hid (show szR left (bulkModel m) = left - (n3 : Int) - (n4 : Int) - (n5 : Int) - (n6 : Int) by rw [HB.out, szR_yes (by omega)]; omega)
  go_wp2_with fail
  go_ret
  exact ⟨ret_int (by rw [HR.out]), B6.out⟩
set_option maxRecDepth 100000 in
set_option maxHeartbeats 1000000 in
theorem eqModel_c {v v' : Value} {m : ModelD} {w : World} (h : VwModel w v m) (h' : VwModel w v' m) :
    Calls Tryz.prog 9 #[v, v'] w fun e w' => e = .returned (.bool true) ∧ Below w.heap.size w w' := by
  obtain ⟨v3, v4, v5, v6, rfl, h3, h4, h5, h6⟩ := h
  obtain ⟨u3, u4, u5, u6, rfl, k3, k4, k5, k6⟩ := h'
  have H3 := Lib.hid (And.intro h3 k3)
  have H4 := Lib.hid (And.intro h4 k4)
  have H5 := Lib.hid (And.intro h5 k5)
  have H6 := Lib.hid (And.intro h6 k6)
  clear h3 h4 h5 h6 k3 k4 k5 k6
  go_enter Tryz.func9, Tryz.ntmps9
  go_wp2_with fail
  obtain ⟨w2, hA⟩ : ∃ wA, (w.alloc (.cells #[.int .i64 m.rev, .int .i64 m.uid, .int .i64 m.flo, v3, v4, v5, v6] 35)).alloc (.cells #[.int .i64 m.rev, .int .i64 m.uid, .int .i64 m.flo, u3, u4, u5, u6] 35) = wA := ⟨_, rfl⟩
  have BX := Lib.hid (show Box w2 w.heap.size [.int .i64 m.rev, .int .i64 m.uid, .int .i64 m.flo, v3, v4, v5, v6] by rw [← hA]; exact (Box.alloc w _ _).below (below_alloc _ _))
  have BY := Lib.hid (show Box w2 (w.heap.size + 1) [.int .i64 m.rev, .int .i64 m.uid, .int .i64 m.flo, u3, u4, u5, u6] by rw [← hA]; have := Box.alloc (w.alloc (.cells #[.int .i64 m.rev, .int .i64 m.uid, .int .i64 m.flo, v3, v4, v5, v6] 35)) #[.int .i64 m.rev, .int .i64 m.uid, .int .i64 m.flo, u3, u4, u5, u6] 35; rwa [World.size_alloc] at this)
  have B2 := Lib.hid (show Below w.heap.size w w2 by rw [← hA]; exact (below_alloc w _).alloc (by simp) _)
  have z2 := B2.out.size
  have A2 := Lib.hid (Below.refl w2.heap.size w2)
  rw [hA]
  clear hA
  refine (eqSpaceS_c (H3.out.1.below B2.out) (H3.out.2.below B2.out)).mono ?_
  rintro e w3 ⟨rfl, b3⟩
  have A3 := Lib.hid (A2.out.trans (b3.mono A2.out.size))
  have B3 := Lib.hid (B2.out.trans (b3.mono z2))
  have z3 := B3.out.size
  clear b3
  have x4 := ((BX.out.below A3.out) 4 _ rfl).1
  have y4 := ((BY.out.below A3.out) 4 _ rfl).1
  go_wp2_with fail
  refine (eqUseS_c (H4.out.1.below B3.out) (H4.out.2.below B3.out)).mono ?_
  rintro e w4 ⟨rfl, b4⟩
  have A4 := Lib.hid (A3.out.trans (b4.mono A3.out.size))
  have B4 := Lib.hid (B3.out.trans (b4.mono z3))
  have z4 := B4.out.size
  clear b4
  have x5 := ((BX.out.below A4.out) 5 _ rfl).1
  have y5 := ((BY.out.below A4.out) 5 _ rfl).1
  go_wp2_with fail
  refine (eqThingS_c (H5.out.1.below B4.out) (H5.out.2.below B4.out)).mono ?_
  rintro e w5 ⟨rfl, b5⟩
  have A5 := Lib.hid (A4.out.trans (b5.mono A4.out.size))
  have B5 := Lib.hid (B4.out.trans (b5.mono z4))
  have z5 := B5.out.size
  clear b5
  have x6 := ((BX.out.below A5.out) 6 _ rfl).1
  have y6 := ((BY.out.below A5.out) 6 _ rfl).1
  go_wp2_with fail
  refine (eqPastS_c (H6.out.1.below B5.out) (H6.out.2.below B5.out)).mono ?_
  rintro e w6 ⟨rfl, b6⟩
  have A6 := Lib.hid (A5.out.trans (b6.mono A5.out.size))
  have B6 := Lib.hid (B5.out.trans (b6.mono z5))
  have z6 := B6.out.size
  clear b6
  go_wp2_with fail
  go_ret
  exact ⟨rfl, B6.out⟩
theorem toModel_of {w w60 W : World} {R T b0 b1 b2 b3 b4 c1 c2 c3 : Nat} {m : ModelD} {v3 v4 v5 v6 : Value} (KF : KeptOut (fun b => b = T ∨ b = R) w60 W) (hR : w.heap.size ≤ R) (hT : w.heap.size ≤ T) (hRb : R < b0) (hTb : T < b0) (e1 : c1 = b1) (e2 : c2 = b2) (e3 : c3 = b3) (g : b0 ≤ b1 ∧ b1 ≤ b2 ∧ b2 ≤ b3 ∧ b3 ≤ b4 ∧ b4 ≤ w60.heap.size)
    (h3 : OwSpaceS w60 b0 b1 v3 m.sps) (h4 : OwUseS w60 c1 b2 v4 m.uses) (h5 : OwThingS w60 c2 b3 v5 m.ths) (h6 : OwPastS w60 c3 b4 v6 m.pasts) (hb : Below w.heap.size w w60) :
    ∃ v', Ending.returned (.agg #[.int .i64 m.rev, .int .i64 m.uid, .int .i64 m.flo, v3, v4, v5, v6]) = .returned v' ∧ OwModel W w.heap.size W.heap.size v' m ∧ Below w.heap.size w W := by
  subst e1 e2 e3
  have hz := KF.size
  exact ⟨_, rfl, ⟨v3, v4, v5, v6, b0, c1, c2, c3, b4, rfl, by omega, h3.kept KF (fun b h1 h2 e => by omega), h4.kept KF (fun b h1 h2 e => by omega), h5.kept KF (fun b h1 h2 e => by omega), h6.kept KF (fun b h1 h2 e => by omega)⟩, KF.below hb hb.size (fun q hq => by omega)⟩
set_option maxRecDepth 100000 in
set_option maxHeartbeats 2000000 in
theorem toModel_c {v : Value} {m : ModelD} {w : World} (h : VwModel w v m) (hb : (bulkModel m : Int) ≤ 1048576) :
    Calls Tryz.prog 7 #[v] w fun e w' => ∃ v', e = .returned v' ∧ OwModel w' w.heap.size w'.heap.size v' m ∧ Below w.heap.size w w' := by
  obtain ⟨v3, v4, v5, v6, rfl, h3, h4, h5, h6⟩ := h
  have hBK : bulkModel m = bulkSpaceS m.sps + bulkUseS m.uses + bulkThingS m.ths + bulkPastS m.pasts := rfl
  have hc3 : (bulkSpaceS m.sps : Int) ≤ 1048576 := by omega
  have hc4 : (bulkUseS m.uses : Int) ≤ 1048576 := by omega
  have hc5 : (bulkThingS m.ths : Int) ≤ 1048576 := by omega
  have hc6 : (bulkPastS m.pasts : Int) ≤ 1048576 := by omega
  have H3 := Lib.hid h3
  have H4 := Lib.hid h4
  have H5 := Lib.hid h5
  have H6 := Lib.hid h6
  clear h3 h4 h5 h6 hBK
  go_enter Tryz.func7, Tryz.ntmps7
  go_wp2_with fail
  obtain ⟨w2, hA⟩ : ∃ wA, ((w.alloc (.cells #[.int .i64 m.rev, .int .i64 m.uid, .int .i64 m.flo, v3, v4, v5, v6] 27)).alloc (.cells #[.int .i64 0, .int .i64 0, .int .i64 0, .slice none 0 0, .slice none 0 0, .slice none 0 0, .slice none 0 0] 35)).alloc (.cells #[.int .i64 m.rev, .int .i64 m.uid, .int .i64 m.flo, .slice none 0 0, .slice none 0 0, .slice none 0 0, .slice none 0 0] 35) = wA := ⟨_, rfl⟩
  have BX := Lib.hid (show Box w2 w.heap.size [.int .i64 m.rev, .int .i64 m.uid, .int .i64 m.flo, v3, v4, v5, v6] by rw [← hA]; exact ((Box.alloc w _ _).below (below_alloc _ _)).below (below_alloc _ _))
  have BR2 := Lib.hid (show Box w2 (w.heap.size + 1) [.int .i64 0, .int .i64 0, .int .i64 0, .slice none 0 0, .slice none 0 0, .slice none 0 0, .slice none 0 0] by rw [← hA]; have := Box.alloc (w.alloc (.cells #[.int .i64 m.rev, .int .i64 m.uid, .int .i64 m.flo, v3, v4, v5, v6] 27)) #[.int .i64 0, .int .i64 0, .int .i64 0, .slice none 0 0, .slice none 0 0, .slice none 0 0, .slice none 0 0] 35; rw [World.size_alloc] at this; exact this.below (below_alloc _ _))
  have BT2 := Lib.hid (show Box w2 (w.heap.size + 1 + 1) [.int .i64 m.rev, .int .i64 m.uid, .int .i64 m.flo, .slice none 0 0, .slice none 0 0, .slice none 0 0, .slice none 0 0] by rw [← hA]; have := Box.alloc ((w.alloc (.cells #[.int .i64 m.rev, .int .i64 m.uid, .int .i64 m.flo, v3, v4, v5, v6] 27)).alloc (.cells #[.int .i64 0, .int .i64 0, .int .i64 0, .slice none 0 0, .slice none 0 0, .slice none 0 0, .slice none 0 0] 35)) #[.int .i64 m.rev, .int .i64 m.uid, .int .i64 m.flo, .slice none 0 0, .slice none 0 0, .slice none 0 0, .slice none 0 0] 35; rwa [World.size_alloc, World.size_alloc] at this)
  have B2 := Lib.hid (show Below w.heap.size w w2 by rw [← hA]; exact ((below_alloc w _).alloc (by simp) _).alloc (by simp; omega) _)
  have z2 : w2.heap.size = w.heap.size + 1 + 1 + 1 := by rw [← hA]; simp
  have z2' : w.heap.size + 1 + 1 < w2.heap.size := by omega
  have HZ2 := Lib.hid z2
  rw [hA]
  clear hA z2
  have K2 := Lib.hid (KeptOut.refl (fun b => b = w.heap.size + 1 + 1) w2)
  have hne : w.heap.size ≠ w.heap.size + 1 + 1 := by omega
  have hne2 : w.heap.size + 1 ≠ w.heap.size + 1 + 1 := by omega
  have hne3 : w.heap.size + 1 + 1 ≠ w.heap.size + 1 := by omega
  refine (toSpaceS_c (H3.out.below B2.out) hc3).mono ?_
  rintro e w30 ⟨u3, rfl, o3, b3⟩
  obtain ⟨a3, n3, c3, rfl⟩ := o3.shape
  have zb3 := b3.size
  have BT30 := BT2.out.below b3
  obtain ⟨⟨y0, f0⟩, ⟨y1, f1⟩, ⟨y2, f2⟩, ⟨y3, f3⟩, ⟨y4, f4⟩, ⟨y5, f5⟩, y6, f6⟩ := show _ ∧ _ ∧ _ ∧ _ ∧ _ ∧ _ ∧ _ from ⟨BT30 0 _ rfl, BT30 1 _ rfl, BT30 2 _ rfl, BT30 3 _ rfl, BT30 4 _ rfl, BT30 5 _ rfl, BT30 6 _ rfl⟩
  have BX30 := Lib.hid ((BX.out.kept K2.out (by omega)).below b3)
  have x4 := (BX30.out 4 _ rfl).1
  have O3 := Lib.hid o3
  go_wp2_with fail
  have BT3 := Lib.hid (show Box (w30.setCell ⟨w.heap.size + 1 + 1, 3, none⟩ (.slice a3 n3 c3)) (w.heap.size + 1 + 1) [.int .i64 m.rev, .int .i64 m.uid, .int .i64 m.flo, .slice a3 n3 c3, .slice none 0 0, .slice none 0 0, .slice none 0 0] from by
    intro i v hv
    match i, hv with
    | 0, hv => cases hv; simp [go_sem, y0, f0]
    | 1, hv => cases hv; simp [go_sem, y1, f1]
    | 2, hv => cases hv; simp [go_sem, y2, f2]
    | 3, hv => cases hv; simp [go_sem, y3, f3]
    | 4, hv => cases hv; simp [go_sem, y4, f4]
    | 5, hv => cases hv; simp [go_sem, y5, f5]
    | 6, hv => cases hv; simp [go_sem, y6, f6]
    | n + 7, hv => simp at hv)
  have KS3 : KeptOut (fun b => b = w.heap.size + 1 + 1) w30 (w30.setCell ⟨w.heap.size + 1 + 1, 3, none⟩ (.slice a3 n3 c3)) := (KeptOut.refl (fun b => b = w.heap.size + 1 + 1) w30).setCell (p := ⟨w.heap.size + 1 + 1, 3, none⟩) rfl _
  obtain ⟨w3, hW⟩ : ∃ W, w30.setCell ⟨w.heap.size + 1 + 1, 3, none⟩ (.slice a3 n3 c3) = W := ⟨_, rfl⟩
  have HZ3 := Lib.hid (show w3.heap.size = w30.heap.size by rw [← hW]; simp)
  rw [hW] at BT3 KS3 ⊢
  clear hW y0 y1 y2 y3 y4 y5 y6 f0 f1 f2 f3 f4 f5 f6 x4
  have zk3 := KS3.size
  have K3 := Lib.hid ((K2.out.trans (KeptOut.of_below (S := fun b => b = w.heap.size + 1 + 1) b3)).trans KS3)
  have B3 := Lib.hid (show Below w.heap.size w w3 from K3.out.below B2.out B2.out.size (fun q hq => by omega))
  have O3_3k := Lib.hid (O3.out.kept KS3 (fun b h1 h2 e => by have := HZ2.out; omega))
  clear b3 o3 KS3
  refine (toUseS_c (H4.out.below B3.out) hc4).mono ?_
  rintro e w40 ⟨u4, rfl, o4, b4⟩
  obtain ⟨a4, n4, c4, rfl⟩ := o4.shape
  have zb4 := b4.size
  have BT40 := BT3.out.below b4
  obtain ⟨⟨y0, f0⟩, ⟨y1, f1⟩, ⟨y2, f2⟩, ⟨y3, f3⟩, ⟨y4, f4⟩, ⟨y5, f5⟩, y6, f6⟩ := show _ ∧ _ ∧ _ ∧ _ ∧ _ ∧ _ ∧ _ from ⟨BT40 0 _ rfl, BT40 1 _ rfl, BT40 2 _ rfl, BT40 3 _ rfl, BT40 4 _ rfl, BT40 5 _ rfl, BT40 6 _ rfl⟩
  have BX40 := Lib.hid ((BX.out.kept K3.out (by omega)).below b4)
  have x5 := (BX40.out 5 _ rfl).1
  have O4 := Lib.hid o4
  have O3_4 := Lib.hid (O3_3k.out.below b4)
  go_wp2_with fail
  have BT4 := Lib.hid (show Box (w40.setCell ⟨w.heap.size + 1 + 1, 4, none⟩ (.slice a4 n4 c4)) (w.heap.size + 1 + 1) [.int .i64 m.rev, .int .i64 m.uid, .int .i64 m.flo, .slice a3 n3 c3, .slice a4 n4 c4, .slice none 0 0, .slice none 0 0] from by
    intro i v hv
    match i, hv with
    | 0, hv => cases hv; simp [go_sem, y0, f0]
    | 1, hv => cases hv; simp [go_sem, y1, f1]
    | 2, hv => cases hv; simp [go_sem, y2, f2]
    | 3, hv => cases hv; simp [go_sem, y3, f3]
    | 4, hv => cases hv; simp [go_sem, y4, f4]
    | 5, hv => cases hv; simp [go_sem, y5, f5]
    | 6, hv => cases hv; simp [go_sem, y6, f6]
    | n + 7, hv => simp at hv)
  have KS4 : KeptOut (fun b => b = w.heap.size + 1 + 1) w40 (w40.setCell ⟨w.heap.size + 1 + 1, 4, none⟩ (.slice a4 n4 c4)) := (KeptOut.refl (fun b => b = w.heap.size + 1 + 1) w40).setCell (p := ⟨w.heap.size + 1 + 1, 4, none⟩) rfl _
  obtain ⟨w4, hW⟩ : ∃ W, w40.setCell ⟨w.heap.size + 1 + 1, 4, none⟩ (.slice a4 n4 c4) = W := ⟨_, rfl⟩
  have HZ4 := Lib.hid (show w4.heap.size = w40.heap.size by rw [← hW]; simp)
  rw [hW] at BT4 KS4 ⊢
  clear hW y0 y1 y2 y3 y4 y5 y6 f0 f1 f2 f3 f4 f5 f6 x5
  have zk4 := KS4.size
  have K4 := Lib.hid ((K3.out.trans (KeptOut.of_below (S := fun b => b = w.heap.size + 1 + 1) b4)).trans KS4)
  have B4 := Lib.hid (show Below w.heap.size w w4 from K4.out.below B2.out B2.out.size (fun q hq => by omega))
  have O3_4k := Lib.hid (O3_4.out.kept KS4 (fun b h1 h2 e => by have := HZ2.out; omega))
  have O4_4k := Lib.hid (O4.out.kept KS4 (fun b h1 h2 e => by have := HZ2.out; omega))
  clear b4 o4 KS4
  refine (toThingS_c (H5.out.below B4.out) hc5).mono ?_
  rintro e w50 ⟨u5, rfl, o5, b5⟩
  obtain ⟨a5, n5, c5, rfl⟩ := o5.shape
  have zb5 := b5.size
  have BT50 := BT4.out.below b5
  obtain ⟨⟨y0, f0⟩, ⟨y1, f1⟩, ⟨y2, f2⟩, ⟨y3, f3⟩, ⟨y4, f4⟩, ⟨y5, f5⟩, y6, f6⟩ := show _ ∧ _ ∧ _ ∧ _ ∧ _ ∧ _ ∧ _ from ⟨BT50 0 _ rfl, BT50 1 _ rfl, BT50 2 _ rfl, BT50 3 _ rfl, BT50 4 _ rfl, BT50 5 _ rfl, BT50 6 _ rfl⟩
  have BX50 := Lib.hid ((BX.out.kept K4.out (by omega)).below b5)
  have x6 := (BX50.out 6 _ rfl).1
  have O5 := Lib.hid o5
  have O3_5 := Lib.hid (O3_4k.out.below b5)
  have O4_5 := Lib.hid (O4_4k.out.below b5)
  go_wp2_with fail
  have BT5 := Lib.hid (show Box (w50.setCell ⟨w.heap.size + 1 + 1, 5, none⟩ (.slice a5 n5 c5)) (w.heap.size + 1 + 1) [.int .i64 m.rev, .int .i64 m.uid, .int .i64 m.flo, .slice a3 n3 c3, .slice a4 n4 c4, .slice a5 n5 c5, .slice none 0 0] from by
    intro i v hv
    match i, hv with
    | 0, hv => cases hv; simp [go_sem, y0, f0]
    | 1, hv => cases hv; simp [go_sem, y1, f1]
    | 2, hv => cases hv; simp [go_sem, y2, f2]
    | 3, hv => cases hv; simp [go_sem, y3, f3]
    | 4, hv => cases hv; simp [go_sem, y4, f4]
    | 5, hv => cases hv; simp [go_sem, y5, f5]
    | 6, hv => cases hv; simp [go_sem, y6, f6]
    | n + 7, hv => simp at hv)
  have KS5 : KeptOut (fun b => b = w.heap.size + 1 + 1) w50 (w50.setCell ⟨w.heap.size + 1 + 1, 5, none⟩ (.slice a5 n5 c5)) := (KeptOut.refl (fun b => b = w.heap.size + 1 + 1) w50).setCell (p := ⟨w.heap.size + 1 + 1, 5, none⟩) rfl _
  obtain ⟨w5, hW⟩ : ∃ W, w50.setCell ⟨w.heap.size + 1 + 1, 5, none⟩ (.slice a5 n5 c5) = W := ⟨_, rfl⟩
  have HZ5 := Lib.hid (show w5.heap.size = w50.heap.size by rw [← hW]; simp)
  rw [hW] at BT5 KS5 ⊢
  clear hW y0 y1 y2 y3 y4 y5 y6 f0 f1 f2 f3 f4 f5 f6 x6
  have zk5 := KS5.size
  have K5 := Lib.hid ((K4.out.trans (KeptOut.of_below (S := fun b => b = w.heap.size + 1 + 1) b5)).trans KS5)
  have B5 := Lib.hid (show Below w.heap.size w w5 from K5.out.below B2.out B2.out.size (fun q hq => by omega))
  have O3_5k := Lib.hid (O3_5.out.kept KS5 (fun b h1 h2 e => by have := HZ2.out; omega))
  have O4_5k := Lib.hid (O4_5.out.kept KS5 (fun b h1 h2 e => by have := HZ2.out; omega))
  have O5_5k := Lib.hid (O5.out.kept KS5 (fun b h1 h2 e => by have := HZ2.out; omega))
  clear b5 o5 KS5
  refine (toPastS_c (H6.out.below B5.out) hc6).mono ?_
  rintro e w60 ⟨u6, rfl, o6, b6⟩
  obtain ⟨a6, n6, c6, rfl⟩ := o6.shape
  have zb6 := b6.size
  have BT60 := BT5.out.below b6
  obtain ⟨⟨y0, f0⟩, ⟨y1, f1⟩, ⟨y2, f2⟩, ⟨y3, f3⟩, ⟨y4, f4⟩, ⟨y5, f5⟩, y6, f6⟩ := show _ ∧ _ ∧ _ ∧ _ ∧ _ ∧ _ ∧ _ from ⟨BT60 0 _ rfl, BT60 1 _ rfl, BT60 2 _ rfl, BT60 3 _ rfl, BT60 4 _ rfl, BT60 5 _ rfl, BT60 6 _ rfl⟩
  have BX60 := Lib.hid ((BX.out.kept K5.out (by omega)).below b6)
  have BR60 := (BR2.out.kept K5.out (by omega)).below b6
  obtain ⟨⟨r0, g0⟩, ⟨r1, g1⟩, ⟨r2, g2⟩, ⟨r3, g3⟩, ⟨r4, g4⟩, ⟨r5, g5⟩, r6, g6⟩ := show _ ∧ _ ∧ _ ∧ _ ∧ _ ∧ _ ∧ _ from ⟨BR60 0 _ rfl, BR60 1 _ rfl, BR60 2 _ rfl, BR60 3 _ rfl, BR60 4 _ rfl, BR60 5 _ rfl, BR60 6 _ rfl⟩
  have O6 := Lib.hid o6
  have O3_6 := Lib.hid (O3_5k.out.below b6)
  have O4_6 := Lib.hid (O4_5k.out.below b6)
  have O5_6 := Lib.hid (O5_5k.out.below b6)
  have HF := Lib.hid (And.intro O3_6.out (And.intro O4_6.out (And.intro O5_6.out O6.out)))
  have K6 := Lib.hid (K5.out.trans (KeptOut.of_below (S := fun b => b = w.heap.size + 1 + 1) b6))
  have B60 := Lib.hid (show Below w.heap.size w w60 from K6.out.below B2.out B2.out.size (fun q hq => by omega))
  go_wp2
  refine bodyPost_ret (v := .agg #[.int .i64 m.rev, .int .i64 m.uid, .int .i64 m.flo, .slice a3 n3 c3, .slice a4 n4 c4, .slice a5 n5 c5, .slice a6 n6 c6]) (by simp [results, Tryz.results7, go_sem, r0, r1, r2, r3, r4, r5, r6]) rfl (toModel_of (m := m) (T := w.heap.size + 1 + 1) (R := w.heap.size + 1) ?_ (by omega) (by omega) (by omega) z2' HZ3.out HZ4.out HZ5.out (by omega) HF.out.1 HF.out.2.1 HF.out.2.2.1 HF.out.2.2.2 B60.out)
  repeat (first | with_reducible exact KeptOut.refl _ _ | refine KeptOut.setCell ?_ (by first | exact .inl rfl | exact .inr rfl) _)
end Go.Proofs.YtbioljpjpflboaaGreatDoor
