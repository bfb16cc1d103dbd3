import Derived.Test.YtbioljpjpflboaaGreatDoorSpaceS
import Derived.Test.YtbioljpjpflboaaGreatDoorApp
import Derived.Test.YtbioljpjpflboaaGreatDoorShape
import Derived.Test.YtbioljpjpflboaaGreatDoorOrdSet
import Derived.Deep.LoopGhost
/- From a space on outward: the model. -/
namespace Go.Proofs.YtbioljpjpflboaaGreatDoor
open Go Go.RowKit

theorem cells_oneU (w : World) (x : Value) (e : TypeId) : ∀ j u, [x][j]? = some u → (w.alloc (.cells #[x] e)).cell? ((⟨w.heap.size, 0, none⟩ : Addr).add j) = some u := by
  intro j u hj
  rw [addr_add]
  have := (Box.alloc w #[x] e j u (by simpa using hj)).1
  simpa using this
theorem own_shpU {w : World} {base : Nat} {e : TypeId} {size : Nat} {v : Value} {n : Nat} {xs : List Value} (h : w.ownsRow base e size v n xs) : ∃ a c, v = .slice a n c := by
  rcases h.2 with ⟨hv, hn⟩ | ⟨g, cap, cur, hv, _⟩
  · exact ⟨none, 0, by rw [hv, hn]⟩
  · exact ⟨_, _, hv⟩
def UpPost (w : World) (u : List ByteArray) (e : Ending) (w' : World) : Prop := ∃ v, e = .returned v ∧ w'.ownsRow w.heap.size 9 1 v u.length (u.map .string) ∧ Below w.heap.size w w'
theorem optI_neg {o : Option Nat} : o = none ↔ optI o < 0 := by
  cases o with
  | none => simp [optI]
  | some k => simp [optI]

set_option maxRecDepth 100000 in
set_option maxHeartbeats 2000000 in
theorem l8Up_any (a : Option Addr) (ca : Nat) (l : List SpaceD) (name : ByteArray) (w : World) (hl : ElS 5 encSpace w a l) :
    Calls Tryz.prog 88 #[.slice a l.length ca, .string name] w (UpPost w (upS l name)) := by
  obtain ⟨i0, hi, hz0, hz1, hz2⟩ := info_parts infoStrO
  have O0 := Lib.hid (World.ownsRow_made (e := 9) (size := 1) w #[] 0 (Nat.le_refl _) (by unfold maxLen; omega) rfl)
  have HX := Lib.hid hl
  clear hl
  obtain ⟨o, ho⟩ : ∃ o, idxS l name = o := ⟨_, rfl⟩
  have HU := Lib.hid (show upS l name = (trail (nxS l) o 8).map (nmS l) by rw [← ho]; rfl)
  have HO1 := Lib.hid (show ∀ i, o = some i → i < l.length from fun i hi => idxS_lt (ho.trans hi))
  have HOE := Lib.hid ho
  clear ho
  go_enter Tryz.func88, Tryz.ntmps88
  go_wp2_with fail
  refine (l8At_any a ca l name _ (HX.out.below (by repeat (first | exact Below.refl _ _ | (refine Below.alloc ?_ (by first | (simp; done) | (simp; omega)) _) | (refine Below.setCell ?_ (by first | (simp; done) | (simp; omega)) _) | (refine Below.drew ?_))))).mono ?_
  rintro e w1 ⟨rfl, b1⟩
  rw [HOE.out]
  have B1 : Below w.heap.size w w1 := (below_alloc _ _).trans (b1.mono (by simp))
  have O1 := Lib.hid (own_below O0.out b1)
  have B1H := Lib.hid B1
  clear O0 b1
  go_wp2_with fail
  clear B1
  go_loopg [5, 6] 8 (fun q v v6 wr => ∃ (m : Nat) (d : List ByteArray) (c : Option Nat), m + q = 8 ∧ v6 = .int .i64 (optI c) ∧ after (nxS l) o m = c ∧ (trail (nxS l) o m).map (nmS l) = d ∧ (∀ i, c = some i → d.length = m ∧ i < l.length) ∧ d.length ≤ 8 ∧ wr.ownsRow w.heap.size 9 1 v d.length (d.map .string) ∧ Below w.heap.size w wr)
  case atStart => exact ⟨0, [], o, rfl, rfl, rfl, by rw [trail_zero]; rfl, fun i hi => ⟨rfl, HO1.out i hi⟩, by simp, O1.out, B1H.out⟩
  case round =>
    clear O1
    obtain ⟨m, d, c, hmq, rfl, hcc, hd, hci, hd8, ho, hbel⟩ := hrel
    have HQ := Lib.hid hmq
    have HO := Lib.hid ho
    have HB := Lib.hid hbel
    have HC := Lib.hid hcc
    have HD := Lib.hid hd
    have hbz := hbel.size
    obtain ⟨va, vc, rfl⟩ := own_shpU ho
    clear ho hbel hcc hd
    cases c with
    | none =>
      have HN := Lib.hid (show upS l name = d by rw [HU.out, (trail_end HC.out (by have := HQ.out; omega)).1, HD.out])
      clear hci hmq
      rw [show optI (none : Option Nat) = -1 from rfl]
      go_wp2
      go_ret
      rw [HN.out]
      exact ⟨_, rfl, HO.out, HB.out⟩
    | some i =>
      obtain ⟨hdm, hil⟩ := hci i rfl
      have hi0 : (0 : Int) ≤ (i : Int) := by omega
      have hii : (i : Int) < (l.length : Int) := by omega
      rw [show optI (some i) = (i : Int) from rfl]
      by_cases h8 : m = 8
      · have hd' : (7 : Int) < (d.length : Int) := by omega
        have HN := Lib.hid (show upS l name = d by rw [HU.out, ← HD.out, h8])
        clear hci hmq h8 hdm
        go_wp2
        go_ret
        rw [HN.out]
        exact ⟨_, rfl, HO.out, HB.out⟩
      · have hd' : (d.length : Int) ≤ 7 := by omega
        obtain ⟨b, ob, rfl, hcell⟩ := HX.out.2.resolve_left (fun e => by rw [e] at hil; simp at hil)
        obtain ⟨c0, c1, c2, c3, c4⟩ := cellsSpace HB.out hcell i hil
        have HC5 := Lib.hid hcell
        have hO2 : ∀ k, nxS l i = some k → k < l.length := fun k hk => nxS_lt hk
        have HNX := Lib.hid (nxS_at hil)
        have HT := Lib.hid (show (trail (nxS l) o (m + 1)).map (nmS l) = d ++ [l[i].1] by rw [trail_succ, HC.out, List.map_append, HD.out]; simp [nmS_at hil])
        have HA := Lib.hid (show after (nxS l) o (m + 1) = nxS l i by rw [after_succ, HC.out]; rfl)
        have HO2 := Lib.hid hO2
        clear hcell hO2 hci
        go_wp2_with (first
          | (at_builtin; refine wpList_append_own _ rfl _ _ 55 rfl w.heap.size 9 i0 (.string ⟨#[]⟩) 1 16 Tryz.underlying55 hi hz0 hz1 hz2 rfl (by decide) _ d.length _ rfl (HO.out.alloc _) ⟨wr.heap.size, 0, none⟩ 1 1 [.string l[i].1] rfl rfl (cells_oneU _ _ _) (fun u hu => by simp at hu; subst hu; rfl) (by unfold maxLen; omega) (by omega) (by simp; omega) ?_; intro v2 w2 o2 g2 _; have B2 := Lib.hid (show Below w.heap.size w w2 from (HB.out.alloc hbz _).grown g2 (by simp; omega) (fun k hk => (HO.out.lt k hk).1)); have O2 := Lib.hid (show w2.ownsRow w.heap.size 9 1 v2 (d ++ [l[i].1]).length ((d ++ [l[i].1]).map .string) by rw [List.length_append, List.map_append]; exact o2); have cc1 : w2.cell? ⟨b, ob + i * 5 + 1, none⟩ = some (.string l[i].2.1) := (cellsSpace B2.out HC5.out i hil).2.1; clear o2 g2)
          | (go_at_call 89; refine (l8At_any _ ca l l[i].2.1 _ (HX.out.below B2.out)).mono ?_; rintro e w3 ⟨rfl, b3⟩))
        have B3 := B2.out.trans (b3.mono B2.out.size)
        rw [← HNX.out]
        go_roundg (gk - 1)
        case measure => have := HQ.out; omega
        case rel => exact ⟨m + 1, d ++ [l[i].1], nxS l i, by have := HQ.out; omega, rfl, HA.out, HT.out, fun k hk => ⟨by rw [List.length_append, hdm]; rfl, HO2.out k hk⟩, by rw [List.length_append, hdm]; simp; omega, own_below O2.out b3, B3⟩
end Go.Proofs.YtbioljpjpflboaaGreatDoor
