import Derived.Test.YtbioljpjpflboaaGreatDoorComes
import Derived.Test.YtbioljpjpflboaaGreatDoorKept
import Derived.Deep.QuietTactic
import Derived.BigQuiet
import Derived.ControlIn
import Derived.Sort.QuietIn
import Derived.Deep.RegionHeld3
/- Whether a node is another one, or in it. -/
namespace Go.Proofs.YtbioljpjpflboaaGreatDoor
open Go Go.RowKit Go.Shelf

attribute [local go_sem] Oper.semAt_some


def isN {m : Nat} (nm : Fin m → ByteArray) (over : ByteArray) (i : Fin m) : Bool := decide (nm i = over)
/-- between two rounds -/
def IsE (w : World) (k : Nat) {m : Nat} (nm : Fin m → ByteArray) (over : ByteArray) (s : List (Fin m)) (W : World) : Prop :=
  (Boxed W w.heap.size 9 (.string over) ∧ Boxed W (w.heap.size + 1) 4 (.bool false)) ∧ (Below w.heap.size w W ∧ s.any (isN nm over) = false) ∧ k ≤ W.heap.size
theorem isE_own (w : World) (k : Nat) {m : Nat} (nm : Fin m → ByteArray) (over : ByteArray) (B : Nat) (hB : w.heap.size ≤ B) : OwnFrom B (IsE w k nm over) :=
  OwnFrom.and (OwnFrom.and (Own.from (boxed_own (β := List (Fin m)) _ _ (fun _ => _)) _) (Own.from (boxed_own (β := List (Fin m)) _ _ (fun _ => _)) _))
    (OwnFrom.and (OwnFrom.and (ownFrom_below (Nat.le_refl _) hB) (ownFrom_pure _ _)) (fun _ _ _ _ hs hg _ => Nat.le_trans hs hg.size))
/-- left -/
def IsX (w : World) {m : Nat} (nm : Fin m → ByteArray) (over : ByteArray) (s : List (Fin m)) (W : World) : Prop :=
  Boxed W (w.heap.size + 1) 4 (.bool true) ∧ Below w.heap.size w W ∧ s.any (isN nm over) = true
theorem isX_own (w : World) {m : Nat} (nm : Fin m → ByteArray) (over : ByteArray) (B : Nat) (hB : w.heap.size ≤ B) : OwnFrom B (IsX w nm over) :=
  OwnFrom.and (Own.from (boxed_own (β := List (Fin m)) _ _ (fun _ => _)) _) (OwnFrom.and (ownFrom_below (Nat.le_refl _) hB) (ownFrom_pure _ _))

set_option maxRecDepth 100000 in
set_option maxHeartbeats 2000000 in
theorem isIn_any (nbl : List Nat) (nm : Fin nbl.length → ByteArray) (nx : Fin nbl.length → Option (Fin nbl.length)) (o : Option (Fin nbl.length)) (N : Nat) (hN : after nx o N = none) (over : ByteArray) (w : World) (hns : NodesS w nbl nm nx) :
    Calls Tryz.prog 117 #[.pointer (adrN nbl o), .string over] w fun e w' => e = .returned (.bool ((trail nx o N).any (isN nm over))) ∧ Below w.heap.size w w' := by
  have HNS := Lib.hid hns
  have HNE := Lib.hid hN
  clear hns
  refine (callsIn_wide (n := 3)).1 ?_
  refine callsIn_of_wp_marks Tryz.func117 rfl trivial ?_ rfl
  simp only [Tryz.ntmps117, List.size_toArray, List.length_cons, List.length_nil, Nat.reduceAdd, Nat.reduceSub, Array.replicate_succ, Array.replicate_zero, List.push_toArray, List.append_toArray, List.nil_append, List.cons_append]
  gi_wp2_with fail
  refine ⟨trivial, ?_⟩
  refine (callsIn_wide.2 (around_any _ _)).mono ?_
  rintro e w3 ⟨rfl, rfl⟩
  obtain ⟨W0, hW0⟩ : ∃ W0, (((w.alloc (.cells #[.string over] 9)).alloc (.cells #[.bool false] 4)).alloc (.cells #[.pointer (adrN nbl o)] 146)) = W0 := ⟨_, rfl⟩
  have S0 : W0.heap.size = w.heap.size + 3 := by rw [← hW0]; simp
  have B0 : Below w.heap.size w W0 := by
    rw [← hW0]
    exact (((Below.refl _ w).alloc (Nat.le_refl _) _).alloc (by simp) _).alloc (by simp; omega) _
  have bl : Boxed W0 w.heap.size 9 (.string over) := by
    rw [← hW0]
    exact Boxed.alloc (Boxed.alloc (Boxed.new w 9 (.string over)) _) _
  have br : Boxed W0 (w.heap.size + 1) 4 (.bool false) := by
    rw [← hW0]
    have := Boxed.new (w.alloc (.cells #[.string over] 9)) 4 (.bool false)
    rw [World.size_alloc] at this
    exact Boxed.alloc this _
  have bp : Boxed W0 (w.heap.size + 2) 146 (.pointer (adrN nbl o)) := by
    rw [← hW0]
    have := Boxed.new ((w.alloc (.cells #[.string over] 9)).alloc (.cells #[.bool false] 4)) 146 (.pointer (adrN nbl o))
    simpa using this
  rw [hW0]
  have cp := bp.cell
  clear hW0
  gi_wp2_with fail
  have HIV := isE_own w (w.heap.size + 3) nm over W0.heap.size (by omega)
  have HIX := isX_own w nm over W0.heap.size (by omega)
  have HTb := Lib.hid (show ∀ i : Fin nbl.length, ¬ (nbl[i] = w.heap.size ∨ nbl[i] = w.heap.size + 1 ∨ w.heap.size + 3 ≤ nbl[i]) from fun i => by have := HNS.out.lt i; omega)
  have HN0 := Lib.hid (HNS.out.below B0)
  refine wpIn_rangeFunc_ownH (F := Fence.wide) (n := 3) rfl (by omega) (gf := 149) (lb := #[.pointer (some ⟨w.heap.size + 1 + 1, 0, none⟩)]) rfl trivial (enters_of Tryz.func149 (by kernel_rfl) rfl)
    (around_stops 2 (by omega) nbl nx o (w.heap.size + 1 + 1) (fun b => b = w.heap.size ∨ b = w.heap.size + 1 ∨ w.heap.size + 3 ≤ b) HTb.out N HNE.out W0 cp HN0.out.over)
    KeptOut.trans (fun W k o o' hk h _ _ => (kept_of_grown (grownBy_putObj' W k o')).mono (fun j _ e => .inr (.inr (by cases e; omega)))) (Below.refl _ _) (fun _ => rfl)
    (IsE w (w.heap.size + 3) nm over) (fun cd s W => cd = .ret ∧ IsX w nm over s W)
    HIV (fun cd s A B row hs hg hr => ⟨hs.1, HIX s A B row hs.2 hg hr⟩) ⟨⟨bl, br⟩, ⟨B0, rfl⟩, by omega⟩
    (fun y a' W => a' = { tmps := #[.pointer (adrN nbl o), .string over, undef, .pointer (some ⟨w.heap.size, 0, none⟩), .pointer (some ⟨w.heap.size + 1, 0, none⟩), .pointer (some ⟨nbl[y], 0, none⟩), .pointer (adrN nbl o), .func (.func 149) #[] #[.pointer (some ⟨w.heap.size + 1 + 1, 0, none⟩)], .pointer (some ⟨nbl[y], 0, none⟩), undef, undef, undef, undef, undef, undef, undef], defers := [] })
    (fun x a' s A B row hs hg hr => hs) ?assign ?body ?done ?stop
  case assign =>
    rintro lp s y W K hi hK
    simp only [encN]
    gi_wp2
    exact hK _ _ (KeepsFrom.refl _ _) (KeptOut.refl _ _) hi rfl
  case body =>
    rintro lp s y a' W hlp ⟨r, hr⟩ ⟨⟨hbl, hbr⟩, ⟨hB, hany⟩, hsz⟩ rfl hlt
    have HBL := Lib.hid hbl
    have HBR := Lib.hid hbr
    have hc1 := hbl.cell
    have hc3 := hbr.cell
    have hf3 := hbr.frozen
    have HBB := Lib.hid hB
    have hc5 := (hB.cell (p := ⟨nbl[y], 0, none⟩) (HNS.out.lt y)).trans (HNS.out.name y)
    have hly := HNS.out.lt y
    have HY := Lib.hid (show (s ++ [y]).any (isN nm over) = isN nm over y by rw [List.any_append, hany]; simp)
    have HYD := Lib.hid (show isN nm over y = decide (nm y = over) from rfl)
    clear hbl hbr hB hany
    generalize nbl[y] = by_ at hc5 hly ⊢
    generalize nm y = ny at hc5 HYD
    by_cases e : ny = over
    · have q2 : (ny.toList == over.toList) = true := by rw [e]; simp
      have HX := Lib.hid (show (s ++ [y]).any (isN nm over) = true by rw [HY.out, HYD.out]; exact decide_eq_true e)
      clear e
      gi_wp2_with fail
      gi_region
      all_goals
        gi_wp2_with fail
        exact ⟨⟨((KeepsOthers.setCell W _ _).from W0.heap.size).size, ((KeepsOthers.setCell W _ _).from W0.heap.size).same⟩, rfl, HBR.out.set _, (HBB.out.setCell (p := ⟨w.heap.size + 1, 0, none⟩) (by show w.heap.size ≤ w.heap.size + 1; omega) _).drew, HX.out⟩
    · have q2 : (ny.toList == over.toList) = false := toList_no e
      have HX := Lib.hid (show (s ++ [y]).any (isN nm over) = false by rw [HY.out, HYD.out]; exact decide_eq_false e)
      clear e
      gi_wp2_with fail
      gi_region
      all_goals
        gi_wp2_with fail
        exact ⟨⟨(KeepsFrom.refl W0.heap.size W).size, (KeepsFrom.refl W0.heap.size W).same⟩, (KeptOut.refl _ W).drew, ⟨HBL.out, HBR.out⟩, ⟨HBB.out.drew, HX.out⟩, hsz⟩
  case done =>
    rintro D ys W hD ⟨k, hk, hend⟩ ⟨⟨hbl, hbr⟩, ⟨hB, hany⟩, hsz⟩ hK
    have hc3 := hbr.cell
    have hf3 := hbr.frozen
    have HBR := Lib.hid hbr
    have HBB := Lib.hid hB
    have HT := Lib.hid (show (trail nx o N).any (isN nm over) = false by
      have e1 := trail_end hend (Nat.le_max_left k N)
      have e2 := trail_end HNE.out (Nat.le_max_right k N)
      rw [← e2.1, e1.1, ← hk, hany])
    clear hbl hbr hB
    have hK2 : (W.setCell ⟨w.heap.size + 1, 0, none⟩ (.bool false)).heap[D]? = some (.deferred (some [])) := (Below.heap_setCell _ _ _ _ (by show D ≠ w.heap.size + 1; omega)).trans hK
    have hc5 := ((HBR.out.set (.bool false)).kept (grownBy_putObj' _ D (.deferred none)) (by simp; omega)).cell
    gi_wp2
    refine ⟨by simp, .inl ⟨_, _, rfl, run_takeDeferred hK2, ?_⟩⟩
    refine ⟨.bool false, by simp [results, Tryz.results117, go_sem, hc5], by rw [HT.out], ?_⟩
    exact (HBB.out.setCell (p := ⟨w.heap.size + 1, 0, none⟩) (by show w.heap.size ≤ w.heap.size + 1; omega) _).trans (belowK_b (w := w) (Nat.le_refl _) _ D _ _ (by omega) hK2 rfl rfl)
  case stop =>
    rintro D cd s W hD hSp ⟨rfl, hbr, hB, hany⟩ hK
    have hc3 := hbr.cell
    have HBB := Lib.hid hB
    have HT := Lib.hid (show (trail nx o N).any (isN nm over) = true by
      have e2 := trail_end HNE.out (Nat.le_max_right s.length N)
      obtain ⟨r, hr⟩ := trail_more (nx := nx) (Nat.le_max_left s.length N) o
      rw [← e2.1, hr, ← hSp, List.any_append, hany]; rfl)
    have HBR := Lib.hid hbr
    clear hbr hB hSp
    have hc5 := (HBR.out.kept (grownBy_putObj' _ D (.deferred none)) (by simp; omega)).cell
    gi_wp2
    refine ⟨by simp, .inl ⟨_, _, rfl, run_takeDeferred hK, ?_⟩⟩
    refine ⟨.bool true, by simp [results, Tryz.results117, go_sem, hc5], by rw [HT.out], ?_⟩
    exact HBB.out.trans (belowK_b (w := w) (Nat.le_refl _) _ D _ _ (by omega) hK rfl rfl)
end Go.Proofs.YtbioljpjpflboaaGreatDoor
