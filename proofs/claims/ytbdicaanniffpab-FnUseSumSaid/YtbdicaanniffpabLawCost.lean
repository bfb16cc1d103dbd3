import Derived.Test.YtbdicaanniffpabDrawAnyTh
import Derived.Test.YtbdicaanniffpabBytesOpen
import Derived.Test.YtbdicaanniffpabIn
import Derived.WalkLawsBesides
import Derived.BigQuiet
/- The walk of FnThingCost. -/
namespace Go.Proofs.Ytbdicaanniffpab
open Go Go.RowKit

theorem wmIn_c (n a b : Int) (w : World) :
    Calls Try.prog 12 #[.int .i64 n, .int .i64 a, .int .i64 b] w fun e w' => e = .returned (.bool (inB n a b)) ∧ w = w' := by
  by_cases h1 : a ≤ n
  · go_enter Try.func12, Try.ntmps12
    go_wp2
    all_goals
      go_ret
      exact ⟨ret_bool (by simp [inB, h1]), rfl⟩
  · go_enter Try.func12, Try.ntmps12
    go_wp2
    go_ret
    exact ⟨ret_bool (by simp [inB]; omega), rfl⟩
/-- marks at a block that is read only -/
def ThIn (w : World) (am : Option Addr) (cm : Nat) (ms : List ByteArray) : Prop := StrS w am ms ∧ ms.length ≤ 3 ∧ (am = none → ms.length = 0 ∧ cm = 0)
theorem ThIn.below {w w' : World} {am : Option Addr} {cm : Nat} {ms : List ByteArray} (h : ThIn w am cm ms) (hb : Below w.heap.size w w') : ThIn w' am cm ms := ⟨h.1.below hb, h.2⟩
theorem thIn_of {w : World} {B : Nat} {am : Option Addr} {cm : Nat} {ms : List ByteArray} (h : MkS w B (.slice am ms.length cm) ms) (hs : ∀ s ∈ ms, s.size ≤ 24) (hl : ms.length ≤ 3) : ThIn w am cm ms := by
  obtain ⟨a1, c1, e, hc, he, hn⟩ := h
  cases e
  refine ⟨⟨he.1, fun s h => by have := hs s h; unfold maxLen; omega, he.2.imp id fun ⟨b, o, e, hcell⟩ => ⟨b, o, e, fun j hj => by have := hcell j hj 0 (.string ms[j]) rfl; simpa using this⟩⟩, hl, fun e => ?_⟩
  rcases hn with ⟨_, h1, h2⟩ | ⟨_, g, h1, _⟩
  · exact ⟨by rw [h2]; rfl, h1⟩
  · rw [e] at h1; cases h1
theorem okTh (t : ThingD) (h1 : t.sp.size ≤ 24) (h2 : t.nm.size ≤ 24) (h3 : t.body.size ≤ 70) : OkThing t := by unfold OkThing maxLen; omega
theorem specCost_is {am : Option Addr} {cm : Nat} {sp nm : ByteArray} {uid rev : Int} {gone : Bool} {ms : List ByteArray} {bo : ByteArray} {N : Int} (hN : costN ⟨sp, nm, uid, rev, gone, ms, bo⟩ = N) (h1 : sp.size ≤ 24) (h2 : nm.size ≤ 24) (h3 : bo.size ≤ 70) (w : World) (h : ThIn w am cm ms) :
    Calls Try.prog 9 #[.agg #[.string sp, .string nm, .int .i64 uid, .int .i64 rev, .bool gone, .slice am ms.length cm, .string bo]] w fun e w' => e = .returned (.int .i64 N) ∧ Below w.heap.size w w' := by
  subst hN
  exact specCost_any am cm ⟨sp, nm, uid, rev, gone, ms, bo⟩ w h.1 (okTh ⟨sp, nm, uid, rev, gone, ms, bo⟩ h1 h2 h3) (Nat.le_trans h.2.1 (by omega))
theorem implCost_is {am : Option Addr} {cm : Nat} {sp nm : ByteArray} {uid rev : Int} {gone : Bool} {ms : List ByteArray} {bo : ByteArray} {N : Int} (hN : costN ⟨sp, nm, uid, rev, gone, ms, bo⟩ = N) (h1 : sp.size ≤ 24) (h2 : nm.size ≤ 24) (h3 : bo.size ≤ 70) (w : World) (h : ThIn w am cm ms) :
    Calls Try.prog 8 #[.agg #[.string sp, .string nm, .int .i64 uid, .int .i64 rev, .bool gone, .slice am ms.length cm, .string bo]] w fun e w' => e = .returned (.int .i64 N) ∧ Below w.heap.size w w' := by
  subst hN
  exact implCost_any am cm ⟨sp, nm, uid, rev, gone, ms, bo⟩ w h.1 (okTh ⟨sp, nm, uid, rev, gone, ms, bo⟩ h1 h2 h3) h.2.2
theorem specTh_is {am : Option Addr} {cm : Nat} {sp nm : ByteArray} {uid rev : Int} {gone : Bool} {ms : List ByteArray} {bo : ByteArray} {q : Bool} (hN : thingB ⟨sp, nm, uid, rev, gone, ms, bo⟩ = q) (h1 : sp.size ≤ 24) (h2 : nm.size ≤ 24) (h3 : bo.size ≤ 70) (w : World) (h : ThIn w am cm ms) :
    Calls Try.prog 11 #[.agg #[.string sp, .string nm, .int .i64 uid, .int .i64 rev, .bool gone, .slice am ms.length cm, .string bo]] w fun e w' => e = .returned (.bool q) ∧ Below w.heap.size w w' := by
  subst hN
  exact specThing_any am cm ⟨sp, nm, uid, rev, gone, ms, bo⟩ w h.1 (okTh ⟨sp, nm, uid, rev, gone, ms, bo⟩ h1 h2 h3) (Nat.le_trans h.2.1 (by omega))
theorem implTh_is {am : Option Addr} {cm : Nat} {sp nm : ByteArray} {uid rev : Int} {gone : Bool} {ms : List ByteArray} {bo : ByteArray} {q : Bool} (hN : thingB ⟨sp, nm, uid, rev, gone, ms, bo⟩ = q) (h1 : sp.size ≤ 24) (h2 : nm.size ≤ 24) (h3 : bo.size ≤ 70) (w : World) (h : ThIn w am cm ms) :
    Calls Try.prog 10 #[.agg #[.string sp, .string nm, .int .i64 uid, .int .i64 rev, .bool gone, .slice am ms.length cm, .string bo]] w fun e w' => e = .returned (.bool q) ∧ Below w.heap.size w w' := by
  subst hN
  exact implThing_any am cm ⟨sp, nm, uid, rev, gone, ms, bo⟩ w h.1 (okTh ⟨sp, nm, uid, rev, gone, ms, bo⟩ h1 h2 h3) h.2.2
theorem cost_more {sp nm : ByteArray} {uid rev : Int} {gone : Bool} {ms : List ByteArray} {bo : ByteArray} (h : thingB ⟨sp, nm, uid, rev, gone, ms, bo⟩ = true) (hs : bo.size + 1 ≤ 40) : costN ⟨sp, nm, uid, rev, gone, ms, bo ++ ⟨#[120]⟩⟩ = 1 + (bo.size : Int) + 1 := by
  have hsz : (bo ++ (⟨#[120]⟩ : ByteArray)).size = bo.size + 1 := by rw [ByteArray.size_append]; rfl
  unfold thingB at h
  simp only [Bool.and_eq_true] at h
  obtain ⟨h1, h2, h3, h4, h5, h6, h7⟩ := h
  have hb : bodyB1 (bo ++ ⟨#[120]⟩) = true := by
    unfold bodyB1 bytesIn at h6 ⊢
    simp only [Bool.and_eq_true, decide_eq_true_eq] at h6 ⊢
    refine ⟨by omega, ?_⟩
    have e : (bo ++ (⟨#[120]⟩ : ByteArray)).data.toList = bo.data.toList ++ [120] := by simp
    rw [e, List.all_append, h6.2]
    decide
  unfold costN thingB
  simp only [h1, h2, h3, h4, h5, hb, h7, Bool.and_true, if_true]
  rw [hsz]
  omega
theorem cost_yes {sp nm : ByteArray} {uid rev : Int} {gone : Bool} {ms : List ByteArray} {bo : ByteArray} (h : thingB ⟨sp, nm, uid, rev, gone, ms, bo⟩ = true) : costN ⟨sp, nm, uid, rev, gone, ms, bo⟩ = 1 + (bo.size : Int) ∧ bo.size ≤ 40 := by
  refine ⟨by unfold costN; rw [h]; rfl, ?_⟩
  unfold thingB at h
  simp only [Bool.and_eq_true] at h
  have h6 := h.2.2.2.2.2.1
  unfold bodyB1 at h6
  simp only [Bool.and_eq_true, decide_eq_true_eq] at h6
  exact h6.1
theorem cost_no {sp nm : ByteArray} {uid rev : Int} {gone : Bool} {ms : List ByteArray} {bo : ByteArray} (h : thingB ⟨sp, nm, uid, rev, gone, ms, bo⟩ = false) : costN ⟨sp, nm, uid, rev, gone, ms, bo⟩ = 0 := by
  unfold costN; rw [h]; rfl

set_option maxRecDepth 100000 in
set_option maxHeartbeats 2000000 in
theorem fnThingCostWalk (a : Option Addr) (c : Nat) (l : List UInt8) {w : World} (hl : l.length ≤ c) (hc : c ≤ maxLen) (h : BytesS w a l) :
    Calls Try.prog 3 #[.slice a l.length c] w fun e w' => e = .returned (.bool true) ∧ Below w.heap.size w w' := by
  have hcl := hc
  unfold maxLen at hcl
  by_cases hb : (1048576 : Int) < (l.length : Int)
  · go_enter Try.func3, Try.ntmps3
    go_wp2
    go_ret
    exact ⟨rfl, Below.refl _ _⟩
  have hb1 : (l.length : Int) ≤ 1048576 := by omega
  clear hb
  go_enter Try.func3, Try.ntmps3
  go_wp2_with fail
  refine (drawThingCost_any a c l _ hl hc h).mono ?_
  rintro e w1 ⟨am, cm, t, rfl, m1, ht, b1⟩
  obtain ⟨sp, nm, uid, rev, gone, ms, bo⟩ := t
  obtain ⟨t1, t2, t3, t4, t5⟩ := ht
  simp only at t1 t2 t3 t4 t5 m1
  have ht3 : bo.size ≤ 70 := by omega
  have HT := Lib.hid (thIn_of m1 t4 t5)
  have B1 := Lib.hid b1
  have z1 := b1.size
  clear m1 t4 b1
  unfold thingV
  dsimp only
  obtain ⟨q, hq⟩ : ∃ q, thingB ⟨sp, nm, uid, rev, gone, ms, bo⟩ = q := ⟨_, rfl⟩
  obtain ⟨N, hN⟩ : ∃ N, costN ⟨sp, nm, uid, rev, gone, ms, bo⟩ = N := ⟨_, rfl⟩
  have HQ := Lib.hid hq
  have HN := Lib.hid hN
  clear hq hN
  go_wp2_with fail
  obtain ⟨wB, hB⟩ : ∃ wB, w1.alloc (Obj.cells #[.string sp, .string nm, .int .i64 uid, .int .i64 rev, .bool gone, .slice am ms.length cm, .string bo] 25) = wB := ⟨_, rfl⟩
  have zB : wB.heap.size = w1.heap.size + 1 := by rw [← hB, World.size_alloc]
  have BY := Lib.hid (show Box wB w1.heap.size [.string sp, .string nm, .int .i64 uid, .int .i64 rev, .bool gone, .slice am ms.length cm, .string bo] by rw [← hB]; exact Box.alloc w1 _ _)
  have BB := Lib.hid (show Below w1.heap.size w1 wB by rw [← hB]; exact below_alloc _ _)
  rw [hB]
  clear hB
  have HTB := Lib.hid (HT.out.below BB.out)
  refine (implCost_is HN.out t1 t2 ht3 _ HTB.out).mono ?_
  rintro e w2 ⟨rfl, b2⟩
  have BY2 := Lib.hid (BY.out.below b2)
  have HT2 := Lib.hid (HTB.out.below b2)
  have z2 := b2.size
  have B2 := Lib.hid (show Below w.heap.size w w2 from (B1.out.trans (BB.out.mono z1)).trans (b2.mono (by omega)))
  clear b2 BY BB HTB HT B1
  have KS : ∀ W', Below w2.heap.size w2 W' → W'.cell? ⟨w1.heap.size, 0, none⟩ = some (.string sp) ∧ W'.cell? ⟨w1.heap.size, 1, none⟩ = some (.string nm) ∧ W'.cell? ⟨w1.heap.size, 2, none⟩ = some (.int .i64 uid) ∧ W'.cell? ⟨w1.heap.size, 3, none⟩ = some (.int .i64 rev) ∧ W'.cell? ⟨w1.heap.size, 4, none⟩ = some (.bool gone) ∧ W'.cell? ⟨w1.heap.size, 5, none⟩ = some (.slice am ms.length cm) ∧ W'.cell? ⟨w1.heap.size, 6, none⟩ = some (.string bo) ∧ Below w2.heap.size w2 W' := fun W' hb => by
    have h := BY2.out.below hb
    exact ⟨(h 0 _ rfl).1, (h 1 _ rfl).1, (h 2 _ rfl).1, (h 3 _ rfl).1, (h 4 _ rfl).1, (h 5 _ rfl).1, (h 6 _ rfl).1, hb⟩
  have HKS := Lib.hid KS
  clear KS
  go_wp2_with fail
  go_region_held3 (fun W' => W'.cell? ⟨w1.heap.size, 0, none⟩ = some (.string sp) ∧ W'.cell? ⟨w1.heap.size, 1, none⟩ = some (.string nm) ∧ W'.cell? ⟨w1.heap.size, 2, none⟩ = some (.int .i64 uid) ∧ W'.cell? ⟨w1.heap.size, 3, none⟩ = some (.int .i64 rev) ∧ W'.cell? ⟨w1.heap.size, 4, none⟩ = some (.bool gone) ∧ W'.cell? ⟨w1.heap.size, 5, none⟩ = some (.slice am ms.length cm) ∧ W'.cell? ⟨w1.heap.size, 6, none⟩ = some (.string bo) ∧ Below w2.heap.size w2 W')
    (first | exact HKS.out _ (Below.refl _ _).drew | exact HKS.out _ B5 | exact HKS.out _ B4 | exact HKS.out _ B3)
    (first
      | (go_at_call 9; refine (specCost_is HN.out t1 t2 ht3 _ (HT2.out.below (Below.refl _ _).drew)).mono ?_; rintro e w3 ⟨rfl, b3⟩; have B3 : Below w2.heap.size w2 w3 := (Below.refl _ _).drew.trans b3)
      | (go_at_call 10; refine (implTh_is HQ.out t1 t2 ht3 _ (HT2.out.below B3)).mono ?_; rintro e w4 ⟨rfl, b4⟩; have B4 : Below w2.heap.size w2 w4 := B3.trans (b4.mono B3.size))
      | (go_at_call 11; refine (specTh_is HQ.out t1 t2 ht3 _ (HT2.out.below B4)).mono ?_; rintro e w5 ⟨rfl, b5⟩; have B5 : Below w2.heap.size w2 w5 := B4.trans (b5.mono B4.size)))
  have B5' := Lib.hid B5
  have z5 := B5.size
  have HT5 := Lib.hid (HT2.out.below B5)
  have BY5 := Lib.hid (BY2.out.below B5)
  have W5 := Lib.hid (B2.out.trans (B5.mono (by omega)))
  clear B3 B4 B5 b3 b4 b5 HKS HT2 BY2 B2 B5'
  obtain ⟨⟨y0, v0⟩, ⟨y1, v1⟩, ⟨y2, v2⟩, ⟨y3, v3⟩, ⟨y4, v4⟩, ⟨y5, v5⟩, y6, v6⟩ := show _ ∧ _ ∧ _ ∧ _ ∧ _ ∧ _ ∧ _ from ⟨BY5.out 0 _ rfl, BY5.out 1 _ rfl, BY5.out 2 _ rfl, BY5.out 3 _ rfl, BY5.out 4 _ rfl, BY5.out 5 _ rfl, BY5.out 6 _ rfl⟩
  go_wp2_with fail
  refine (specTh_is HQ.out t1 t2 ht3 _ HT5.out).mono ?_
  rintro e w6 ⟨rfl, b6⟩
  have BY6 := Lib.hid (BY5.out.below b6)
  have HT6 := Lib.hid (HT5.out.below b6)
  have W6 := Lib.hid (W5.out.trans (b6.mono (by omega)))
  have z6 := b6.size
  clear b6 BY5 HT5 W5 y0 y1 y2 y3 y4 y5 y6 v0 v1 v2 v3 v4 v5 v6
  cases q with
  | false =>
    have h0 := HN.out.symm.trans (cost_no HQ.out)
    subst h0
    go_wp2_with fail
    go_ret
    exact ⟨rfl, W6.out⟩
  | true =>
    have hNb := (cost_yes HQ.out).2
    have hNe : N = 1 + (bo.size : Int) := HN.out.symm.trans (cost_yes HQ.out).1
    subst hNe
    obtain ⟨⟨y0, v0⟩, ⟨y1, v1⟩, ⟨y2, v2⟩, ⟨y3, v3⟩, ⟨y4, v4⟩, ⟨y5, v5⟩, y6, v6⟩ := show _ ∧ _ ∧ _ ∧ _ ∧ _ ∧ _ ∧ _ from ⟨BY6.out 0 _ rfl, BY6.out 1 _ rfl, BY6.out 2 _ rfl, BY6.out 3 _ rfl, BY6.out 4 _ rfl, BY6.out 5 _ rfl, BY6.out 6 _ rfl⟩
    have hne1 : w1.heap.size ≠ w6.heap.size := by omega
    have hne2 : w6.heap.size ≠ w1.heap.size := by omega
    have a6 : (w6.alloc (Obj.cells #[.string sp, .string nm, .int .i64 uid, .int .i64 rev, .bool gone, .slice am ms.length cm, .string bo] 25)).cell? ⟨w1.heap.size, 6, none⟩ = some (.string bo) := (BY6.out.below (below_alloc _ _) 6 _ rfl).1
    go_wp2_with fail
    clear a6
    obtain ⟨w7, h7⟩ : ∃ w7, w6.alloc (Obj.cells #[.string sp, .string nm, .int .i64 uid, .int .i64 rev, .bool gone, .slice am ms.length cm, .string (bo ++ ⟨#[120]⟩)] 25) = w7 := ⟨_, rfl⟩
    have BX := Lib.hid (show Box w7 w6.heap.size [.string sp, .string nm, .int .i64 uid, .int .i64 rev, .bool gone, .slice am ms.length cm, .string (bo ++ ⟨#[120]⟩)] by rw [← h7]; exact Box.alloc w6 _ _)
    have b7 : Below w6.heap.size w6 w7 := by rw [← h7]; exact below_alloc _ _
    have HT7 := Lib.hid (HT6.out.below b7)
    have W7 := Lib.hid (W6.out.trans (b7.mono (by omega)))
    have z7 := b7.size
    rw [h7]
    clear h7 b7 BY6 HT6 W6 y0 y1 y2 y3 y4 y5 y6 v0 v1 v2 v3 v4 v5 v6
    refine (wmIn_c _ _ _ _).mono ?_
    rintro e w8 ⟨rfl, rfl⟩
    rw [show inB (1 + (bo.size : Int)) 1 41 = true by simp [inB]; omega]
    have hsz : (bo ++ (⟨#[120]⟩ : ByteArray)).size = bo.size + 1 := by rw [ByteArray.size_append]; rfl
    obtain ⟨bx, hbx⟩ : ∃ bx, bo ++ (⟨#[120]⟩ : ByteArray) = bx := ⟨_, rfl⟩
    obtain ⟨⟨y0, v0⟩, ⟨y1, v1⟩, ⟨y2, v2⟩, ⟨y3, v3⟩, ⟨y4, v4⟩, ⟨y5, v5⟩, y6, v6⟩ := show _ ∧ _ ∧ _ ∧ _ ∧ _ ∧ _ ∧ _ from ⟨BX.out 0 _ rfl, BX.out 1 _ rfl, BX.out 2 _ rfl, BX.out 3 _ rfl, BX.out 4 _ rfl, BX.out 5 _ rfl, BX.out 6 _ rfl⟩
    by_cases hs : bo.size + 1 ≤ 40
    · have HM := Lib.hid (cost_more HQ.out hs)
      rw [hbx] at HM y6 hsz ⊢
      have hs7 : bx.size ≤ 70 := by omega
      clear hsz hbx
      go_wp2_with fail
      refine (implCost_is HM.out t1 t2 hs7 _ HT7.out).mono ?_
      rintro e w8 ⟨rfl, b8⟩
      clear y0 y1 y2 y3 y4 y5 y6 v0 v1 v2 v3 v4 v5 v6
      go_wp2
      go_ret
      exact ⟨rfl, W7.out.trans (b8.mono (by omega))⟩
    · have hno : thingB ⟨sp, nm, uid, rev, gone, ms, bx⟩ = false := by
        have : bodyB1 bx = false := by
          unfold bodyB1
          rw [Bool.and_eq_false_iff]
          left
          rw [decide_eq_false_iff_not, ← hbx, hsz]
          omega
        unfold thingB
        simp only [this, Bool.false_and, Bool.and_false]
      have HM := Lib.hid (cost_no hno)
      rw [hbx] at BX y6 hsz ⊢
      have hs7 : bx.size ≤ 70 := by omega
      have hs8 : 40 < bx.size := by omega
      have hbe : bo.size = 40 := by omega
      clear hsz hbx hno
      go_wp2_with fail
      refine (implCost_is HM.out t1 t2 hs7 _ HT7.out).mono ?_
      rintro e w8 ⟨rfl, b8⟩
      have BX8 := BX.out.below b8
      have x6 := (BX8 6 _ rfl).1
      clear y0 y1 y2 y3 y4 y5 y6 v0 v1 v2 v3 v4 v5 v6 BX8
      go_wp2
      go_ret
      exact ⟨ret_bool (by simp; omega), W7.out.trans (b8.mono (by omega))⟩
end Go.Proofs.Ytbdicaanniffpab
