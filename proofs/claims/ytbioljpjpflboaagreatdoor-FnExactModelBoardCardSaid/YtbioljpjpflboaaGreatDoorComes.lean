import Derived.Test.YtbioljpjpflboaaGreatDoorFind
import Derived.Test.YtbioljpjpflboaaGreatDoorKept
import Derived.Deep.QuietTactic
import Derived.BigQuiet
import Derived.ControlIn
import Derived.Deep.RegionHeld3
/- Whether a node comes to a space within so many. -/
namespace Go.Proofs.YtbioljpjpflboaaGreatDoor
open Go Go.RowKit Go.Shelf

attribute [local go_sem] Oper.semAt_some

/-- nodes: their names, and what each is in -/
structure NodesS (w : World) (nbl : List Nat) (nm : Fin nbl.length → ByteArray) (nx : Fin nbl.length → Option (Fin nbl.length)) : Prop where
  name : ∀ i : Fin nbl.length, w.cell? ⟨nbl[i], 0, none⟩ = some (.string (nm i))
  over : ∀ i : Fin nbl.length, w.cell? ⟨nbl[i], 6, none⟩ = some (.pointer (adrN nbl (nx i)))
theorem NodesS.lt {w : World} {nbl : List Nat} {nm : Fin nbl.length → ByteArray} {nx : Fin nbl.length → Option (Fin nbl.length)} (h : NodesS w nbl nm nx) (i : Fin nbl.length) : nbl[i] < w.heap.size := by
  have := World.block_lt_of_cell? w _ (h.name i)
  simpa using this
theorem NodesS.below {w w' : World} {nbl : List Nat} {nm : Fin nbl.length → ByteArray} {nx : Fin nbl.length → Option (Fin nbl.length)} (h : NodesS w nbl nm nx) (hb : Below w.heap.size w w') : NodesS w' nbl nm nx :=
  ⟨fun i => (hb.cell (p := ⟨nbl[i], 0, none⟩) (h.lt i)).trans (h.name i), fun i => (hb.cell (p := ⟨nbl[i], 6, none⟩) (h.lt i)).trans (h.over i)⟩

def isAll {m : Nat} (nm : Fin m → ByteArray) (i : Fin m) : Bool := decide (nm i = allB)
/-- between two rounds -/
def ComE (w : World) (k : Nat) {m : Nat} (nm : Fin m → ByteArray) (N : Nat) (s : List (Fin m)) (W : World) : Prop :=
  (Boxed W w.heap.size 3 (.int .i64 ((N - s.length : Nat) : Int)) ∧ Boxed W (w.heap.size + 1) 4 (.bool false)) ∧ (Below w.heap.size w W ∧ (s.length < N ∧ s.any (isAll nm) = false)) ∧ k ≤ W.heap.size
theorem comE_own (w : World) (k : Nat) {m : Nat} (nm : Fin m → ByteArray) (N B : Nat) (hB : w.heap.size ≤ B) : OwnFrom B (ComE w k nm N) :=
  OwnFrom.and (OwnFrom.and (Own.from (boxed_own (β := List (Fin m)) _ _ (fun s => .int .i64 ((N - s.length : Nat) : Int))) _) (Own.from (boxed_own (β := List (Fin m)) _ _ (fun _ => _)) _))
    (OwnFrom.and (OwnFrom.and (ownFrom_below (Nat.le_refl _) hB) (ownFrom_pure _ _)) (fun _ _ _ _ hs hg _ => Nat.le_trans hs hg.size))
/-- left -/
def ComX (w : World) {m : Nat} (nm : Fin m → ByteArray) (N : Nat) (s : List (Fin m)) (W : World) : Prop :=
  Boxed W (w.heap.size + 1) 4 (.bool (s.any (isAll nm))) ∧ Below w.heap.size w W ∧ (s.length ≤ N ∧ (s.any (isAll nm) = false → s.length = N))
theorem comX_own (w : World) {m : Nat} (nm : Fin m → ByteArray) (N B : Nat) (hB : w.heap.size ≤ B) : OwnFrom B (ComX w nm N) :=
  OwnFrom.and (Own.from (boxed_own (β := List (Fin m)) _ _ (fun s => .bool (s.any (isAll nm)))) _) (OwnFrom.and (ownFrom_below (Nat.le_refl _) hB) (ownFrom_pure _ _))

set_option maxRecDepth 100000 in
set_option maxHeartbeats 2000000 in
theorem comes_any (nbl : List Nat) (nm : Fin nbl.length → ByteArray) (nx : Fin nbl.length → Option (Fin nbl.length)) (o : Option (Fin nbl.length)) (N : Nat) (hN1 : 1 ≤ N) (hN : N ≤ 1048576) (w : World) (hns : NodesS w nbl nm nx) :
    Calls Tryz.prog 134 #[.pointer (adrN nbl o), .int .i64 N] w fun e w' => e = .returned (.bool ((trail nx o N).any (isAll nm))) ∧ Below w.heap.size w w' := by
  have HNS := Lib.hid hns
  clear hns
  refine (callsIn_wide (n := 3)).1 ?_
  refine callsIn_of_wp_marks Tryz.func134 rfl trivial ?_ rfl
  simp only [Tryz.ntmps134, List.size_toArray, List.length_cons, List.length_nil, Nat.reduceAdd, Nat.reduceSub, Array.replicate_succ, Array.replicate_zero, List.push_toArray, List.append_toArray, List.nil_append, List.cons_append]
  gi_wp2_with fail
  refine ⟨trivial, ?_⟩
  refine (callsIn_wide.2 (around_any _ _)).mono ?_
  rintro e w3 ⟨rfl, rfl⟩
  obtain ⟨W0, hW0⟩ : ∃ W0, (((w.alloc (.cells #[.int .i64 (N : Int)] 3)).alloc (.cells #[.bool false] 4)).alloc (.cells #[.pointer (adrN nbl o)] 146)) = W0 := ⟨_, rfl⟩
  have S0 : W0.heap.size = w.heap.size + 3 := by rw [← hW0]; simp
  have B0 : Below w.heap.size w W0 := by
    rw [← hW0]
    exact (((Below.refl _ w).alloc (Nat.le_refl _) _).alloc (by simp) _).alloc (by simp; omega) _
  have bl : Boxed W0 w.heap.size 3 (.int .i64 (N : Int)) := by
    rw [← hW0]
    exact Boxed.alloc (Boxed.alloc (Boxed.new w 3 (.int .i64 (N : Int))) _) _
  have br : Boxed W0 (w.heap.size + 1) 4 (.bool false) := by
    rw [← hW0]
    have := Boxed.new (w.alloc (.cells #[.int .i64 (N : Int)] 3)) 4 (.bool false)
    rw [World.size_alloc] at this
    exact Boxed.alloc this _
  have bp : Boxed W0 (w.heap.size + 2) 146 (.pointer (adrN nbl o)) := by
    rw [← hW0]
    have := Boxed.new ((w.alloc (.cells #[.int .i64 (N : Int)] 3)).alloc (.cells #[.bool false] 4)) 146 (.pointer (adrN nbl o))
    simpa using this
  rw [hW0]
  have cp := bp.cell
  clear hW0
  gi_wp2_with fail
  have HIV := comE_own w (w.heap.size + 3) nm N W0.heap.size (by omega)
  have HIX := comX_own w nm N W0.heap.size (by omega)
  have HTb := Lib.hid (show ∀ i : Fin nbl.length, ¬ (nbl[i] = w.heap.size ∨ nbl[i] = w.heap.size + 1 ∨ w.heap.size + 3 ≤ nbl[i]) from fun i => by have := HNS.out.lt i; omega)
  have HN0 := Lib.hid (HNS.out.below B0)
  refine wpIn_rangeM (F := Fence.wide) (n := 3) rfl (by omega) (gf := 149) (lb := #[.pointer (some ⟨w.heap.size + 1 + 1, 0, none⟩)]) rfl trivial (enters_of Tryz.func149 (by kernel_rfl) rfl)
    (around_seq 2 (by omega) nbl nx o (w.heap.size + 1 + 1) (fun b => b = w.heap.size ∨ b = w.heap.size + 1 ∨ w.heap.size + 3 ≤ b) HTb.out N W0 cp HN0.out.over)
    KeptOut.trans (fun W k o o' hk h _ _ => (kept_of_grown (grownBy_putObj' W k o')).mono (fun j _ e => .inr (.inr (by cases e; omega)))) (Below.refl _ _) (fun _ => rfl)
    (ComE w (w.heap.size + 3) nm N) (ComX w nm N) (fun pre W h => Nat.le_of_lt h.2.1.2.1)
    HIV HIX ⟨⟨by simpa using bl, br⟩, ⟨B0, by simp; omega, rfl⟩, by omega⟩
    (fun y => { tmps := #[.pointer (adrN nbl o), .int .i64 N, undef, .pointer (some ⟨w.heap.size, 0, none⟩), .pointer (some ⟨w.heap.size + 1, 0, none⟩), .pointer (some ⟨nbl[y], 0, none⟩), .pointer (adrN nbl o), .func (.func 149) #[] #[.pointer (some ⟨w.heap.size + 1 + 1, 0, none⟩)], .pointer (some ⟨nbl[y], 0, none⟩), undef, undef, undef, undef, undef, undef, undef, undef, undef, undef], defers := [] })
    ?assign ?body ?done ?stop
  case assign =>
    rintro lp y W K hK
    simp only [encN]
    gi_wp2
    exact hK
  case body =>
    rintro lp s y W hlp ⟨⟨hbl, hbr⟩, ⟨hB, hsl, hany⟩, hsz⟩
    have HBL := Lib.hid hbl
    have HBR := Lib.hid hbr
    have hc1 := hbl.cell
    have hf1 := hbl.frozen
    have hc3 := hbr.cell
    have hf3 := hbr.frozen
    have HBB := Lib.hid hB
    have HAN := Lib.hid hany
    have hc5 := (hB.cell (p := ⟨nbl[y], 0, none⟩) (HNS.out.lt y)).trans (HNS.out.name y)
    have hly := HNS.out.lt y
    have HY := Lib.hid (show (s ++ [y]).any (isAll nm) = isAll nm y by rw [List.any_append, hany]; simp)
    have HL := Lib.hid (show (s ++ [y]).length = s.length + 1 by simp)
    have HYD := Lib.hid (show isAll nm y = decide (nm y = allB) from rfl)
    clear hbl hbr hB hany
    generalize nbl[y] = by_ at hc5 hly ⊢
    generalize nm y = ny at hc5 HYD
    by_cases e : ny = allB
    · have q2 : (ny.toList == [97, 108, 108]) = true := by rw [e]; simp [allB]
      have HX := Lib.hid (show (s ++ [y]).any (isAll nm) = true by rw [HY.out, HYD.out]; exact decide_eq_true e)
      clear e
      gi_wp2_with fail
      refine ⟨(KeepsOthers.setCell W _ _).from _, rfl, ?_, HBB.out.setCell (p := ⟨w.heap.size + 1, 0, none⟩) (by show w.heap.size ≤ w.heap.size + 1; omega) _, by rw [HL.out]; omega, fun h => by rw [HX.out] at h; cases h⟩
      rw [HX.out]
      exact HBR.out.set _
    · have q2 : (ny.toList == [97, 108, 108]) = false := (by have := toList_no e; simpa [allB] using this)
      have HX := Lib.hid (show (s ++ [y]).any (isAll nm) = false by rw [HY.out, HYD.out]; exact decide_eq_false e)
      clear e
      obtain ⟨q, hq⟩ : ∃ q, N - s.length = q + 1 := ⟨N - s.length - 1, by omega⟩
      have hw := wrap_sub hq (by omega)
      have hq1 : ((N - s.length : Nat) : Int) - 1 = (q : Int) := by omega
      have hqw : IntKind.i64.wrap (q : Int) = (q : Int) := by have h := hw; rw [hq1] at h; exact h
      have HQ := Lib.hid hq
      have HSL := Lib.hid hsl
      clear hw hsl
      by_cases hq0 : q = 0
      · subst hq0
        gi_wp2_with fail
        refine ⟨((KeepsOthers.setCell W _ _).trans (KeepsOthers.setCell _ _ _)).from _, rfl, ?_, (HBB.out.setCell (p := ⟨w.heap.size, 0, none⟩) (Nat.le_refl _) _).setCell (p := ⟨w.heap.size + 1, 0, none⟩) (by show w.heap.size ≤ w.heap.size + 1; omega) _, by rw [HL.out]; have := HSL.out; omega, fun _ => by rw [HL.out]; have := HSL.out; have := HQ.out; omega⟩
        rw [HX.out]
        exact (HBR.out.other (by omega) _).set _
      · have hq0i : ((q : Int) == 0) = false := by rw [beq_eq_false_iff_ne]; omega
        have hlq : ((N - (s ++ [y]).length : Nat) : Int) = (q : Int) := by rw [HL.out]; have := HQ.out; omega
        gi_wp2_with fail
        refine ⟨(KeepsOthers.setCell W _ _).from _, (KeptOut.refl _ W).setCell (p := ⟨w.heap.size, 0, none⟩) (.inl rfl) _, ⟨?_, HBR.out.other (by omega) _⟩, ⟨HBB.out.setCell (p := ⟨w.heap.size, 0, none⟩) (Nat.le_refl _) _, by rw [HL.out]; have := HQ.out; omega, HX.out⟩, by simpa [World.setCell] using hsz⟩
        rw [hlq]
        exact HBL.out.set _
  case done =>
    rintro D ys W hD ⟨k, hk, hend⟩ ⟨⟨hbl, hbr⟩, ⟨hB, hsl, hany⟩, hsz⟩ hK
    have hc3 := hbr.cell
    have hf3 := hbr.frozen
    have HBR := Lib.hid hbr
    have HBB := Lib.hid hB
    have HT := Lib.hid (show (trail nx o N).any (isAll nm) = false by rw [trail_stop k o hend N (by rw [← hk]; omega), ← hk, hany])
    clear hbl hbr hB
    have hK2 : (W.setCell ⟨w.heap.size + 1, 0, none⟩ (.bool false)).heap[D]? = some (.deferred (some [])) := (Below.heap_setCell _ _ _ _ (by show D ≠ w.heap.size + 1; omega)).trans hK
    have hc5 := ((HBR.out.set (.bool false)).kept (grownBy_putObj' _ D (.deferred none)) (by simp; omega)).cell
    gi_wp2
    refine ⟨by simp, .inl ⟨_, _, rfl, run_takeDeferred hK2, ?_⟩⟩
    refine ⟨.bool false, by simp [results, Tryz.results134, go_sem, hc5], by rw [HT.out], ?_⟩
    exact (HBB.out.setCell (p := ⟨w.heap.size + 1, 0, none⟩) (by show w.heap.size ≤ w.heap.size + 1; omega) _).trans (belowK_b (w := w) (Nat.le_refl _) _ D _ _ (by omega) hK2 rfl rfl)
  case stop =>
    rintro D s W hD hSp ⟨hbr, hB, hl1, hl2⟩ hK
    have hc3 := hbr.cell
    have HBB := Lib.hid hB
    have HT := Lib.hid (show (trail nx o N).any (isAll nm) = s.any (isAll nm) by
      obtain ⟨r, hr⟩ := trail_more (nx := nx) hl1 o
      cases h : s.any (isAll nm) with
      | true => rw [hr, ← hSp, List.any_append, h]; rfl
      | false => rw [← hl2 h, ← hSp, h])
    have HBR := Lib.hid hbr
    clear hbr hB hSp
    have hc5 := (HBR.out.kept (grownBy_putObj' _ D (.deferred none)) (by simp; omega)).cell
    gi_wp2
    refine ⟨by simp, .inl ⟨_, _, rfl, run_takeDeferred hK, ?_⟩⟩
    refine ⟨.bool (s.any (isAll nm)), by simp [results, Tryz.results134, go_sem, hc5], by rw [HT.out], ?_⟩
    exact HBB.out.trans (belowK_b (w := w) (Nat.le_refl _) _ D _ _ (by omega) hK rfl rfl)
end Go.Proofs.YtbioljpjpflboaaGreatDoor
