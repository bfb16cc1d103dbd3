import Derived.Test.YthcndaeacjloaaaDoorThingD
import Derived.Test.YthcndaeacjloaaaDoorThingW
import Derived.Test.YthcndaeacjloaaaDoorThingOpen
import Derived.Deep.RegionHeld3
/- The walk of FnExactThingWrite. -/
namespace Go.Proofs.YthcndaeacjloaaaDoor
open Go Go.RowKit Go.ChangeShapes Go.WideShapes

theorem bulkThing_le {t : ThingD} (h : (bulkThing t : Int) ≤ 1048576) : t.marks.length ≤ 1048576 := by
  unfold bulkThing bulkS at h
  omega
theorem ThingO.str {w : World} {base : Nat} {a : Option Addr} {c : Nat} {t : ThingD} (hk : OkThing2 t) (h : w.ownsRow base 9 1 (.slice a t.marks.length c) t.marks.length (t.marks.map .string)) : StrS w a t.marks := thing_str hk h
theorem okThing2 {w : World} {a : Option Addr} {t : ThingD} (hk : OkThing t) (hm : StrS w a t.marks) (hl : t.marks.length ≤ 1048576) : OkThing2 t := ⟨hk, hl, hm.2.1⟩
theorem own_cap {w : World} {base : Nat} {e : TypeId} {size : Nat} {a : Option Addr} {n c : Nat} {xs : List Value} (h : w.ownsRow base e size (.slice a n c) n xs) : n ≤ c := by
  rcases h.2 with ⟨hv, hn⟩ | ⟨g, cap, cur, hv, hB, hgg, hle, hr⟩
  · omega
  · simp only [Value.slice.injEq] at hv
    rw [hv.2.2]
    exact hle
def VwThingV (w : World) (v : Value) (x : ThingD) : Prop := ∃ a c, v = thingV a c x ∧ StrS w a x.marks ∧ OkThing x
set_option maxRecDepth 100000 in
theorem openThingV {H : Type} {enc : TypeId × Value → H} {w : World} {r : Reach} {b0 : Nat} {v : Value} {d : DataW H} {p : List MemPlace} (hv : Value.okWide Tryd.prog w r b0 35 v) (h : DataW.Trod enc Tryd.prog w 0 (fun _ => true) true 35 v d p) :
    ∃ x, VwThingV w v x := by
  obtain ⟨a, c, t, e, h1, h2⟩ := open_thing hv h
  exact ⟨t, a, c, e, h1, h2⟩

set_option maxRecDepth 100000 in
set_option maxHeartbeats 2000000 in
theorem fnExactThingWriteW (a : Option Addr) (c : Nat) (t : ThingD) {w : World} (hm : StrS w a t.marks) (hk : OkThing t) (htab : Lib.TabIs Tryd.prog w "internal/strconv.uint64pow10" .u64 Lib.pow10Tab) :
    Calls Tryd.prog 5 #[thingV a c t] w fun e w' => e = .returned (.bool true) ∧ Below w.heap.size w w' := by
  have HT := Lib.hid htab
  clear htab
  by_cases hb : (1048576 : Int) < (bulkThing t : Int)
  · have HR := Lib.hid (szR_no hb)
    clear hb
    have HX := Lib.hid hm
    clear hm
    obtain ⟨sp, nm, uid, rev, gone, marks, body⟩ := t
    simp only at HX
    unfold thingV
    dsimp only
    go_enter Tryd.func5, Tryd.ntmps5
    go_wp2_with fail
    refine (szThing_any a c ⟨sp, nm, uid, rev, gone, marks, body⟩ _ _ (by omega) (by omega) (HX.out.below (by repeat (first | exact Below.refl _ _ | (refine Below.alloc ?_ (by first | (simp; done) | (simp; omega)) _) | (refine Below.setCell ?_ (by first | (simp; done) | (simp; omega)) _) | (refine Below.drew ?_)))) hk).mono ?_
    rintro e w1 ⟨rfl, hb1⟩
    rw [HR.out]
    have hB : Below w.heap.size w w1 := Below.trans (by repeat (first | exact Below.refl _ _ | (refine Below.alloc ?_ (by first | (simp; done) | (simp; omega)) _) | (refine Below.setCell ?_ (by first | (simp; done) | (simp; omega)) _) | (refine Below.drew ?_))) (hb1.mono (by simp))
    go_wp2
    go_ret
    exact ⟨rfl, hB⟩
  · have HR := Lib.hid (szR_yes (show (bulkThing t : Int) ≤ 1048576 by omega))
    have hl := bulkThing_le (show (bulkThing t : Int) ≤ 1048576 by omega)
    have hk2 := Lib.hid (okThing2 hk hm hl)
    have hq : 0 ≤ (1048576 : Int) - bulkThing t := by omega
    clear hb
    have HX := Lib.hid hm
    clear hm
    generalize hQ : (1048576 : Int) - bulkThing t = Q at HR hq
    clear hQ
    obtain ⟨th, hth⟩ : ∃ b, twB t = b := ⟨_, rfl⟩
    have HS := Lib.hid hth
    clear hth
    obtain ⟨sp, nm, uid, rev, gone, marks, body⟩ := t
    simp only at HX hl
    unfold thingV
    dsimp only
    go_enter Tryd.func5, Tryd.ntmps5
    go_wp2_with fail
    refine (szThing_any a c ⟨sp, nm, uid, rev, gone, marks, body⟩ _ _ (by omega) (by omega) (HX.out.below (by repeat (first | exact Below.refl _ _ | (refine Below.alloc ?_ (by first | (simp; done) | (simp; omega)) _) | (refine Below.setCell ?_ (by first | (simp; done) | (simp; omega)) _) | (refine Below.drew ?_)))) hk).mono ?_
    rintro e w1 ⟨rfl, hb1⟩
    rw [HR.out]
    have B1 : Below w.heap.size w w1 := Below.trans (by repeat (first | exact Below.refl _ _ | (refine Below.alloc ?_ (by first | (simp; done) | (simp; omega)) _) | (refine Below.setCell ?_ (by first | (simp; done) | (simp; omega)) _) | (refine Below.drew ?_))) (hb1.mono (by simp))
    obtain ⟨hc1, hf1⟩ := bcellT hb1
    have hz1 := hb1.size
    simp only [World.size_alloc] at hz1
    have hy1 : w.heap.size < w1.heap.size := by omega
    go_wp2_with fail
    refine (toThing_any a c ⟨sp, nm, uid, rev, gone, marks, body⟩ _ (HX.out.below B1) hl).mono ?_
    rintro e w2 ⟨u1, rfl, ⟨a1, c1, rfl, hn1, o1⟩, hb2⟩
    have B2 : Below w.heap.size w w2 := B1.trans (hb2.mono B1.size)
    obtain ⟨hc2, hf2⟩ := bcellT hb2
    have hz2 := hb2.size
    have hy2 : w.heap.size < w2.heap.size := by omega
    go_wp2_with fail
    refine (specThW_any a1 c1 ⟨sp, nm, uid, rev, gone, marks, body⟩ _ (thing_str hk2.out o1) hk hl).mono ?_
    rintro e w3 ⟨rfl, hb3⟩
    have B3 : Below w.heap.size w w3 := B2.trans (hb3.mono B2.size)
    obtain ⟨hc3, hf3⟩ := bcellT hb3
    have hz3 := hb3.size
    have hy3 : w.heap.size < w3.heap.size := by omega
    rw [HS.out]
    go_wp2_with fail
    refine (toThing_any a c ⟨sp, nm, uid, rev, gone, marks, body⟩ _ (HX.out.below B3) hl).mono ?_
    rintro e w4 ⟨u2, rfl, ⟨a2, c2, rfl, hn2, o2⟩, hb4⟩
    have B4 : Below w.heap.size w w4 := B3.trans (hb4.mono B3.size)
    obtain ⟨hc4, hf4⟩ := bcellT hb4
    have hz4 := hb4.size
    have hy4 : w.heap.size < w4.heap.size := by omega
    have r2 := Lib.hid (thing_str hk2.out o2)
    have hcap2 := own_cap o2
    unfold thingV
    dsimp only at hn2 hcap2 ⊢
    go_wp2_with fail
    refine (implThW_any a2 c2 ⟨sp, nm, uid, rev, gone, marks, body⟩ _ (r2.out.below (by repeat (first | exact Below.refl _ _ | (refine Below.alloc ?_ (by first | (simp; done) | (simp; omega)) _) | (refine Below.setCell ?_ (by first | (simp; done) | (simp; omega)) _) | (refine Below.drew ?_)))) hk hn2 hcap2 (tab_below HT.out (B4.trans (Below.mono (show Below w4.heap.size w4 _ from (by repeat (first | exact Below.refl _ _ | (refine Below.alloc ?_ (by first | (simp; done) | (simp; omega)) _) | (refine Below.setCell ?_ (by first | (simp; done) | (simp; omega)) _) | (refine Below.drew ?_)))) B4.size)))).mono ?_
    rintro e w5 ⟨rfl, hb5⟩
    rw [HS.out]
    have B45 : Below w4.heap.size w4 w5 := Below.trans (by repeat (first | exact Below.refl _ _ | (refine Below.alloc ?_ (by first | (simp; done) | (simp; omega)) _) | (refine Below.setCell ?_ (by first | (simp; done) | (simp; omega)) _) | (refine Below.drew ?_))) (hb5.mono (by simp))
    have B5 : Below w.heap.size w w5 := B4.trans (B45.mono B4.size)
    obtain ⟨hc5, hf5⟩ := bcellT hb5
    have hz5 := hb5.size
    simp only [World.size_alloc] at hz5
    have hy5 : w.heap.size < w5.heap.size := by omega
    have hy5' : w4.heap.size < w5.heap.size := by omega
    have PB := (((((Box.alloc w (thingCells a c ⟨sp, nm, uid, rev, gone, marks, body⟩).toArray 35).below hb1).below hb2).below hb3).below hb4).below B45
    have XB := (Box.alloc w4 (thingCells a2 c2 ⟨sp, nm, uid, rev, gone, marks, body⟩).toArray 38).below hb5
    unfold thingCells at PB XB
    have r5 := Lib.hid (r2.out.below B45)
    go_wp2_with fail
    have p0 := (PB 0 _ rfl).1
    have p1 := (PB 1 _ rfl).1
    have p2 := (PB 2 _ rfl).1
    have p3 := (PB 3 _ rfl).1
    have p4 := (PB 4 _ rfl).1
    have p5 := (PB 5 _ rfl).1
    have p6 := (PB 6 _ rfl).1
    have x0 := (XB 0 _ rfl).1
    have x1 := (XB 1 _ rfl).1
    have x2 := (XB 2 _ rfl).1
    have x3 := (XB 3 _ rfl).1
    have x4 := (XB 4 _ rfl).1
    have x5 := (XB 5 _ rfl).1
    have x6 := (XB 6 _ rfl).1
    go_region_held3 (fun w' => w'.cell? ⟨w.heap.size, 0, none⟩ = some (.string sp) ∧ w'.cell? ⟨w.heap.size, 1, none⟩ = some (.string nm) ∧ w'.cell? ⟨w.heap.size, 2, none⟩ = some (.int .i64 uid) ∧ w'.cell? ⟨w.heap.size, 3, none⟩ = some (.int .i64 rev) ∧ w'.cell? ⟨w.heap.size, 4, none⟩ = some (.bool gone) ∧ w'.cell? ⟨w.heap.size, 5, none⟩ = some (.slice a marks.length c) ∧ w'.cell? ⟨w.heap.size, 6, none⟩ = some (.string body) ∧ w'.cell? ⟨w4.heap.size, 0, none⟩ = some (.string sp) ∧ w'.cell? ⟨w4.heap.size, 1, none⟩ = some (.string nm) ∧ w'.cell? ⟨w4.heap.size, 2, none⟩ = some (.int .i64 uid) ∧ w'.cell? ⟨w4.heap.size, 3, none⟩ = some (.int .i64 rev) ∧ w'.cell? ⟨w4.heap.size, 4, none⟩ = some (.bool gone) ∧ w'.cell? ⟨w4.heap.size, 5, none⟩ = some (.slice a2 marks.length c2) ∧ w'.cell? ⟨w4.heap.size, 6, none⟩ = some (.string body) ∧ Below w5.heap.size w5 w')
      (first | exact ⟨p0, p1, p2, p3, p4, p5, p6, x0, x1, x2, x3, x4, x5, x6, (Below.refl _ _).drew⟩ | exact ⟨(PB6 0 _ rfl).1, (PB6 1 _ rfl).1, (PB6 2 _ rfl).1, (PB6 3 _ rfl).1, (PB6 4 _ rfl).1, (PB6 5 _ rfl).1, (PB6 6 _ rfl).1, (XB6 0 _ rfl).1, (XB6 1 _ rfl).1, (XB6 2 _ rfl).1, (XB6 3 _ rfl).1, (XB6 4 _ rfl).1, (XB6 5 _ rfl).1, (XB6 6 _ rfl).1, B6⟩ | exact ⟨(PB7 0 _ rfl).1, (PB7 1 _ rfl).1, (PB7 2 _ rfl).1, (PB7 3 _ rfl).1, (PB7 4 _ rfl).1, (PB7 5 _ rfl).1, (PB7 6 _ rfl).1, (XB7 0 _ rfl).1, (XB7 1 _ rfl).1, (XB7 2 _ rfl).1, (XB7 3 _ rfl).1, (XB7 4 _ rfl).1, (XB7 5 _ rfl).1, (XB7 6 _ rfl).1, B7⟩)
      (first | (go_at_call 18; refine (toThing_any a c ⟨sp, nm, uid, rev, gone, marks, body⟩ _ (HX.out.below B5.drew) hl).mono ?_; rintro e w6 ⟨u3, rfl, ⟨a3, c3, rfl, hn3, o3⟩, hb6⟩; have B6 : Below w5.heap.size w5 w6 := (Below.refl _ _).drew.trans hb6; have PB6 := PB.below B6; have XB6 := XB.below B6) | (go_at_call 20; refine (eqThing_any _ _ _ _ ⟨sp, nm, uid, rev, gone, marks, body⟩ _ (r5.out.below B6) (thing_str hk2.out o3)).mono ?_; rintro e w7 ⟨rfl, hb7⟩; have B7 : Below w5.heap.size w5 w7 := B6.trans (hb7.mono B6.size); have PB7 := PB.below B7; have XB7 := XB.below B7))
    go_wp2
    go_ret
    exact ⟨rfl, B5.trans (B7.mono B5.size)⟩
theorem fnExactThingWriteWalk {w : World} (v : Value) (x : ThingD) (h : VwThingV w v x) (htab : Lib.TabIs Tryd.prog w "internal/strconv.uint64pow10" .u64 Lib.pow10Tab) : Calls Tryd.prog 5 #[v] w fun e w' => e = .returned (.bool true) ∧ Below w.heap.size w w' := by
  obtain ⟨a, c, rfl, h1, h2⟩ := h
  exact fnExactThingWriteW a c x h1 h2 htab
end Go.Proofs.YthcndaeacjloaaaDoor
