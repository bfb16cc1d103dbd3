import Derived.Test.YtbioljpjpflboaaGreatDoorThingOk
import Derived.Test.YtbioljpjpflboaaGreatDoorStrEq
import Derived.Test.YtbioljpjpflboaaGreatDoorStrTo
import Derived.Test.YtbioljpjpflboaaGreatDoorStrSz
import Derived.WalkSmall
/- Things: what the helpers of the exact laws do with one. -/
namespace Go.Proofs.YtbioljpjpflboaaGreatDoor
open Go Go.RowKit

theorem bcellT {W w1 : World} (hb : Below W.heap.size W w1) : (∀ b o, b < W.heap.size → w1.cell? ⟨b, o, none⟩ = W.cell? ⟨b, o, none⟩) ∧ (∀ b o, b < W.heap.size → w1.frozen? ⟨b, o, none⟩ = W.frozen? ⟨b, o, none⟩) :=
  ⟨fun b o h => hb.cell (p := ⟨b, o, none⟩) h, fun b o h => hb.frozen (p := ⟨b, o, none⟩) h⟩
def bulkThing (t : ThingD) : Nat := t.sp.size + t.nm.size + bulkS t.marks + t.body.size
set_option maxRecDepth 100000 in
set_option maxHeartbeats 1000000 in
theorem szThing_any (a : Option Addr) (c : Nat) (t : ThingD) (left : Int) (w : World) (h0 : 0 ≤ left) (h1 : left ≤ 1048576) (hm : StrS w a t.marks) (hk : OkThing t) :
    Calls Tryz.prog 51 #[thingV a c t, .int .i64 left] w fun e w' => e = .returned (.int .i64 (szR left (bulkThing t))) ∧ Below w.heap.size w w' := by
  have HX := Lib.hid hm
  obtain ⟨sp, nm, uid, rev, gone, marks, body⟩ := t
  obtain ⟨k1, k2, k3⟩ := hk
  simp only at k1 k2 k3 HX
  unfold maxLen at k1 k2 k3
  clear hm
  unfold thingV
  dsimp only
  have HB := Lib.hid (show bulkThing ⟨sp, nm, uid, rev, gone, marks, body⟩ = sp.size + nm.size + bulkS marks + body.size from rfl)
  have hb0 : (0 : Int) ≤ (bulkS marks : Int) := by omega
  by_cases g1 : left < (sp.size : Int)
  · have HR := Lib.hid (show szR left (bulkThing ⟨sp, nm, uid, rev, gone, marks, body⟩) = -1 by rw [HB.out]; exact szR_no (by omega))
    go_enter Tryz.func51, Tryz.ntmps51
    go_wp2
    go_ret
    exact ⟨ret_int (by rw [HR.out]), (by repeat (first | exact Below.refl _ _ | (refine Below.alloc ?_ (by first | (simp; done) | (simp; omega)) _) | (refine Below.setCell ?_ (by first | (simp; done) | (simp; omega)) _) | (refine Below.drew ?_)))⟩
  have g1' : (sp.size : Int) ≤ left := by omega
  clear g1
  by_cases g2 : left - (sp.size : Int) < (nm.size : Int)
  · have HR := Lib.hid (show szR left (bulkThing ⟨sp, nm, uid, rev, gone, marks, body⟩) = -1 by rw [HB.out]; exact szR_no (by omega))
    go_enter Tryz.func51, Tryz.ntmps51
    go_wp2
    go_ret
    exact ⟨ret_int (by rw [HR.out]), (by repeat (first | exact Below.refl _ _ | (refine Below.alloc ?_ (by first | (simp; done) | (simp; omega)) _) | (refine Below.setCell ?_ (by first | (simp; done) | (simp; omega)) _) | (refine Below.drew ?_)))⟩
  have g2' : (nm.size : Int) ≤ left - (sp.size : Int) := by omega
  clear g2
  by_cases g3 : left - (sp.size : Int) - (nm.size : Int) < (bulkS marks : Int)
  · have HR := Lib.hid (show szR left (bulkThing ⟨sp, nm, uid, rev, gone, marks, body⟩) = -1 by rw [HB.out]; exact szR_no (by omega))
    have HQ := Lib.hid (szR_no g3)
    go_enter Tryz.func51, Tryz.ntmps51
    go_wp2_with fail
    refine (szStr_any _ _ _ _ _ (by omega) (by omega) (HX.out.below (by repeat (first | exact Below.refl _ _ | (refine Below.alloc ?_ (by first | (simp; done) | (simp; omega)) _) | (refine Below.setCell ?_ (by first | (simp; done) | (simp; omega)) _) | (refine Below.drew ?_))))).mono ?_
    rintro e w1 ⟨rfl, rfl⟩
    rw [HQ.out]
    go_wp2
    go_ret
    exact ⟨ret_int (by rw [HR.out]), (by repeat (first | exact Below.refl _ _ | (refine Below.alloc ?_ (by first | (simp; done) | (simp; omega)) _) | (refine Below.setCell ?_ (by first | (simp; done) | (simp; omega)) _) | (refine Below.drew ?_)))⟩
  have g3' : (bulkS marks : Int) ≤ left - (sp.size : Int) - (nm.size : Int) := by omega
  have HQ := Lib.hid (szR_yes g3')
  clear g3
  by_cases g4 : left - (sp.size : Int) - (nm.size : Int) - (bulkS marks : Int) < (body.size : Int)
  · have HR := Lib.hid (show szR left (bulkThing ⟨sp, nm, uid, rev, gone, marks, body⟩) = -1 by rw [HB.out]; exact szR_no (by omega))
    go_enter Tryz.func51, Tryz.ntmps51
    go_wp2_with fail
    refine (szStr_any _ _ _ _ _ (by omega) (by omega) (HX.out.below (by repeat (first | exact Below.refl _ _ | (refine Below.alloc ?_ (by first | (simp; done) | (simp; omega)) _) | (refine Below.setCell ?_ (by first | (simp; done) | (simp; omega)) _) | (refine Below.drew ?_))))).mono ?_
    rintro e w1 ⟨rfl, rfl⟩
    rw [HQ.out]
    go_wp2
    go_ret
    exact ⟨ret_int (by rw [HR.out]), (by repeat (first | exact Below.refl _ _ | (refine Below.alloc ?_ (by first | (simp; done) | (simp; omega)) _) | (refine Below.setCell ?_ (by first | (simp; done) | (simp; omega)) _) | (refine Below.drew ?_)))⟩
  have g4' : (body.size : Int) ≤ left - (sp.size : Int) - (nm.size : Int) - (bulkS marks : Int) := by omega
  clear g4
  have HR := Lib.hid (show szR left (bulkThing ⟨sp, nm, uid, rev, gone, marks, body⟩) = left - (sp.size : Int) - (nm.size : Int) - (bulkS marks : Int) - (body.size : Int) by rw [szR_yes (by rw [HB.out]; omega), HB.out]; omega)
  go_enter Tryz.func51, Tryz.ntmps51
  go_wp2_with fail
  refine (szStr_any _ _ _ _ _ (by omega) (by omega) (HX.out.below (by repeat (first | exact Below.refl _ _ | (refine Below.alloc ?_ (by first | (simp; done) | (simp; omega)) _) | (refine Below.setCell ?_ (by first | (simp; done) | (simp; omega)) _) | (refine Below.drew ?_))))).mono ?_
  rintro e w1 ⟨rfl, rfl⟩
  rw [HQ.out]
  go_wp2
  go_ret
  exact ⟨ret_int (by rw [HR.out]), (by repeat (first | exact Below.refl _ _ | (refine Below.alloc ?_ (by first | (simp; done) | (simp; omega)) _) | (refine Below.setCell ?_ (by first | (simp; done) | (simp; omega)) _) | (refine Below.drew ?_)))⟩

/-- a thing by value whose marks lie in memory of its own -/
def ThingO (w : World) (base : Nat) (v : Value) (t : ThingD) : Prop := ∃ a c, v = thingV a c t ∧ (a = none → t.marks.length = 0 ∧ c = 0) ∧ w.ownsRow base 9 1 (.slice a t.marks.length c) t.marks.length (t.marks.map .string)
theorem own_none {w : World} {base : Nat} {e : TypeId} {size : Nat} {a : Option Addr} {n c : Nat} {xs : List Value} (h : w.ownsRow base e size (.slice a n c) n xs) : a = none → n = 0 ∧ c = 0 := by
  intro ha
  subst ha
  rcases h.2 with ⟨hv, hn⟩ | ⟨g, cap, cur, hv, _⟩
  · simp at hv; exact ⟨hn, hv.2⟩
  · cases hv
theorem ThingO.below {w w' : World} {base : Nat} {v : Value} {t : ThingD} (h : ThingO w base v t) (hb : Below w.heap.size w w') : ThingO w' base v t := by
  obtain ⟨a, c, rfl, hn, ho⟩ := h
  exact ⟨a, c, rfl, hn, own_below ho hb⟩
def OkThing2 (t : ThingD) : Prop := OkThing t ∧ t.marks.length ≤ 1048576 ∧ ∀ s ∈ t.marks, s.size ≤ maxLen
theorem thing_str {w : World} {base : Nat} {t : ThingD} {a : Option Addr} {c : Nat} (hk : OkThing2 t) (h : w.ownsRow base 9 1 (.slice a t.marks.length c) t.marks.length (t.marks.map .string)) : StrS w a t.marks :=
  own_str (by have := hk.2.1; unfold maxLen; omega) hk.2.2 h

set_option maxRecDepth 100000 in
set_option maxHeartbeats 1000000 in
theorem toThing_any (a : Option Addr) (c : Nat) (t : ThingD) (w : World) (hm : StrS w a t.marks) (hlen : t.marks.length ≤ 1048576) :
    Calls Tryz.prog 65 #[thingV a c t] w fun e w' => ∃ u, e = .returned u ∧ ThingO w' w.heap.size u t ∧ Below w.heap.size w w' := by
  have HX := Lib.hid hm
  obtain ⟨sp, nm, uid, rev, gone, marks, body⟩ := t
  simp only at HX hlen
  clear hm
  unfold thingV
  dsimp only
  go_enter Tryz.func65, Tryz.ntmps65
  go_wp2_with fail
  refine (toStr_any _ _ marks _ hlen (HX.out.below (by repeat (first | exact Below.refl _ _ | (refine Below.alloc ?_ (by first | (simp; done) | (simp; omega)) _) | (refine Below.setCell ?_ (by first | (simp; done) | (simp; omega)) _) | (refine Below.drew ?_))))).mono ?_
  rintro e w1 ⟨rfl, o1, b1⟩
  have hB : Below w.heap.size w w1 := Below.trans (by repeat (first | exact Below.refl _ _ | (refine Below.alloc ?_ (by first | (simp; done) | (simp; omega)) _) | (refine Below.setCell ?_ (by first | (simp; done) | (simp; omega)) _) | (refine Below.drew ?_))) (b1.mono (by simp; omega))
  obtain ⟨hc, hf⟩ := bcellT b1
  have hz := b1.size
  simp only [World.size_alloc] at hz
  have hza : w.heap.size < w1.heap.size := by omega
  have hzb : w.heap.size + 1 < w1.heap.size := by omega
  have hzc : w.heap.size + 1 + 1 < w1.heap.size := by omega
  have HO := Lib.hid o1
  clear o1
  go_wp2
  have o2 := HO.out
  simp only [World.size_alloc] at o2
  refine bodyPost_ret (v := thingV (some ⟨w.heap.size + 1 + 1 + 1, 0, none⟩) marks.length ⟨sp, nm, uid, rev, gone, marks, body⟩) (by unfold thingV; simp [results, Tryz.results65, go_sem, hc]) rfl ⟨_, rfl, ⟨_, _, rfl, (fun h => by cases h), ?_⟩, ?_⟩
  · exact own_mono (by omega) (own_kept (S := fun k => k = w.heap.size + 1 ∨ k = w.heap.size + 1 + 1) o2 (by repeat (first | with_reducible exact KeptOut.refl _ _ | refine KeptOut.setCell ?_ (by first | exact .inl rfl | exact .inr rfl) _)) (fun k hk => by obtain ⟨p, hp, rfl⟩ := slice_blk hk; simp at hp; subst hp; simp; omega))
  · exact KeptOut.below (S := fun k => k = w.heap.size + 1 ∨ k = w.heap.size + 1 + 1) hB hB.size (by repeat (first | with_reducible exact KeptOut.refl _ _ | refine KeptOut.setCell ?_ (by first | exact .inl rfl | exact .inr rfl) _)) (fun k hk => by omega)

theorem eqStr_T (a b : Option Addr) (ca cb : Nat) (l : List ByteArray) (w : World) (hl : StrS w a l) (hm : StrS w b l) :
    Calls Tryz.prog 109 #[.slice a l.length ca, .slice b l.length cb] w fun e w' => e = .returned (.bool true) ∧ Below w.heap.size w w' :=
  (eqStr_any a b ca cb l l w hl hm).mono fun e w' ⟨he, n, hw⟩ => ⟨by rw [he]; simp [eqStr], by rw [hw]; exact below_drewN (Below.refl _ _) n⟩
set_option maxRecDepth 100000 in
set_option maxHeartbeats 1000000 in
theorem eqThing_any (a b : Option Addr) (c d : Nat) (t : ThingD) (w : World) (hm : StrS w a t.marks) (hn : StrS w b t.marks) :
    Calls Tryz.prog 80 #[thingV a c t, thingV b d t] w fun e w' => e = .returned (.bool true) ∧ Below w.heap.size w w' := by
  have HX := Lib.hid hm
  have HY := Lib.hid hn
  obtain ⟨sp, nm, uid, rev, gone, marks, body⟩ := t
  simp only at HX HY
  clear hm hn
  unfold thingV
  dsimp only
  have q1 : (!sp.toList == sp.toList) = false := by simp
  have q2 : (!nm.toList == nm.toList) = false := by simp
  have q3 : (uid != uid) = false := by simp
  have q4 : (rev != rev) = false := by simp
  have q5 : (gone != gone) = false := by simp
  have q6 : (!body.toList == body.toList) = false := by simp
  go_enter Tryz.func80, Tryz.ntmps80
  go_wp2_with fail
  refine (eqStr_T _ _ _ _ marks _ (HX.out.below (by repeat (first | exact Below.refl _ _ | (refine Below.alloc ?_ (by first | (simp; done) | (simp; omega)) _) | (refine Below.setCell ?_ (by first | (simp; done) | (simp; omega)) _) | (refine Below.drew ?_)))) (HY.out.below (by repeat (first | exact Below.refl _ _ | (refine Below.alloc ?_ (by first | (simp; done) | (simp; omega)) _) | (refine Below.setCell ?_ (by first | (simp; done) | (simp; omega)) _) | (refine Below.drew ?_))))).mono ?_
  rintro e w1 ⟨rfl, b1⟩
  have hB : Below w.heap.size w w1 := Below.trans (by repeat (first | exact Below.refl _ _ | (refine Below.alloc ?_ (by first | (simp; done) | (simp; omega)) _) | (refine Below.setCell ?_ (by first | (simp; done) | (simp; omega)) _) | (refine Below.drew ?_))) (b1.mono (by simp; omega))
  obtain ⟨hc, hf⟩ := bcellT b1
  have hz := b1.size
  simp only [World.size_alloc] at hz
  have hza : w.heap.size < w1.heap.size := by omega
  have hzb : w.heap.size + 1 < w1.heap.size := by omega
  go_wp2
  go_ret
  exact ⟨rfl, hB⟩
end Go.Proofs.YtbioljpjpflboaaGreatDoor
