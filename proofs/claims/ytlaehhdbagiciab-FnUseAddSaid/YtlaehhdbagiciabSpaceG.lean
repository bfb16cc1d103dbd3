import Derived.Test.YtlaehhdbagiciabSpaceI
/- SpaceGoing of the program. -/
namespace Go.Proofs.Ytlaehhdbagiciab
open Go Go.RowKit Go.Shelf

attribute [local go_sem] Oper.semAt_some

/-- the spaces of the tree that the program makes -/
def treeOf (l : List SpaceD) : List SpaceD := if spsOk l then l else []
theorem link_uni {w w' : World} {l : List SpaceD} {e : Ending} (h : LinkPost w l e w') : ∃ a c nbl, nbl.length = (treeOf l).length ∧ e = .returned (.tuple #[.agg #[.slice a nbl.length c], .bool (spsOk l)]) ∧ TreeS w' w.heap.size a nbl (treeOf l) ∧ Below w.heap.size w w' := by
  rcases h with ⟨h, rfl, b⟩ | ⟨h, a, c, nbl, rfl, t, b⟩
  · have e1 : treeOf l = [] := by unfold treeOf; rw [h]; rfl
    refine ⟨none, 0, [], by rw [e1]; rfl, by rw [h]; rfl, ?_, b⟩
    rw [e1]
    exact ⟨rfl, ⟨by simp, .inl rfl⟩, fun i hi => absurd hi (Nat.not_lt_zero _), by simp⟩
  · have e1 : treeOf l = l := by unfold treeOf; rw [h]; rfl
    rw [e1]
    exact ⟨a, c, nbl, t.len, by rw [h, t.len], t, b⟩
theorem treeOf_len (l : List SpaceD) : (treeOf l).length ≤ 7 := by
  unfold treeOf
  split
  · next h => exact (sps_len h).2.1
  · simp
theorem treeOf_end {l : List SpaceD} {m : Nat} (h : m = (treeOf l).length) (name : ByteArray) : after (nxF (treeOf l) m) (finO m (idxS (treeOf l) name)) 7 = none := by
  by_cases hk : spsOk l = true
  · have e1 : treeOf l = l := by unfold treeOf; rw [hk]; rfl
    rw [e1] at h ⊢
    exact (trail_end (end_fin h hk name) (sps_len hk).2.1).2
  · have e1 : treeOf l = [] := by unfold treeOf; rw [if_neg hk]
    rw [e1]
    exact after_none _ _
def gnF (l : List SpaceD) (m : Nat) (i : Fin m) : Bool := (l.getD i.val default).2.2.2.1
theorem going_names {l : List SpaceD} {m : Nat} (h : m = (treeOf l).length) (name : ByteArray) : (trail (nxF (treeOf l) m) (finO m (idxS (treeOf l) name)) 7).any (gnF (treeOf l) m) = (spsOk l && goSp l name) := by
  by_cases hk : spsOk l = true
  · have e1 : treeOf l = l := by unfold treeOf; rw [hk]; rfl
    rw [e1] at h ⊢
    rw [hk, Bool.true_and, (trail_end (end_fin h hk name) (sps_len hk).2.1).1]
    unfold goSp
    rw [← ups_names h hk name, List.any_map]
    have hl := (sps_len hk).2.2
    have : gnF l m = goneN l ∘ nmF l m := by
      funext i
      have hi : i.val < l.length := by rw [← h]; exact i.2
      show (l.getD i.val default).2.2.2.1 = goneN l (nmS l i.val)
      unfold goneN
      rw [line_idx hl hi]
    rw [this]
  · have e1 : treeOf l = [] := by unfold treeOf; rw [if_neg hk]
    rw [e1]
    have : idxS [] name = none := rfl
    rw [this, show finO m none = none from rfl, trail_none]
    rw [Bool.not_eq_true] at hk
    rw [hk]; rfl

theorem ownFrom_kept {β : Type} {B : Nat} {T : Nat → Prop} (W0 : World) (hT : ∀ b, B ≤ b → T b) : OwnFrom B (fun (_ : β) W => KeptOut T W0 W) := fun _ _ _ _ hs hg hr =>
  hs.trans ((kept_of_grown hg).mono (fun k _ e => hT k (hr k e).1))
/-- between two rounds -/
def GoE (r : Nat) (W0 : World) (T : Nat → Prop) {m : Nat} (gn : Fin m → Bool) (s : List (Fin m)) (W : World) : Prop :=
  Boxed W r 4 (.bool false) ∧ (KeptOut T W0 W ∧ s.any gn = false)
theorem goE_own (r : Nat) (W0 : World) (T : Nat → Prop) {m : Nat} (gn : Fin m → Bool) (B : Nat) (hT : ∀ b, B ≤ b → T b) : OwnFrom B (GoE r W0 T gn) :=
  OwnFrom.and (Own.from (boxed_own (β := List (Fin m)) _ _ (fun _ => _)) _) (OwnFrom.and (ownFrom_kept W0 hT) (ownFrom_pure _ _))
/-- left -/
def GoX (r : Nat) (W0 : World) (T : Nat → Prop) {m : Nat} (gn : Fin m → Bool) (s : List (Fin m)) (W : World) : Prop :=
  Boxed W r 4 (.bool true) ∧ (KeptOut T W0 W ∧ s.any gn = true)
theorem goX_own (r : Nat) (W0 : World) (T : Nat → Prop) {m : Nat} (gn : Fin m → Bool) (B : Nat) (hT : ∀ b, B ≤ b → T b) : OwnFrom B (GoX r W0 T gn) :=
  OwnFrom.and (Own.from (boxed_own (β := List (Fin m)) _ _ (fun _ => _)) _) (OwnFrom.and (ownFrom_kept W0 hT) (ownFrom_pure _ _))

set_option maxRecDepth 100000 in
set_option maxHeartbeats 2000000 in
theorem implSpaceGoing_any (a : Option Addr) (ca : Nat) (l : List SpaceD) (name : ByteArray) (w : World) (hl : ElS 5 encSpace w a l) (hok : ∀ x ∈ l, OkSpace x) :
    Calls Try.prog 41 #[.slice a l.length ca, .string name] w fun e w' => e = .returned (.bool (spsOk l && goSp l name)) ∧ Below w.heap.size w w' := by
  refine (callsIn_wide (n := 3)).1 ?_
  refine callsIn_of_wp_marks Try.func41 rfl trivial ?_ rfl
  simp only [Try.ntmps41, List.size_toArray, List.length_cons, List.length_nil, Nat.reduceAdd, Nat.reduceSub, Array.replicate_succ, Array.replicate_zero, List.push_toArray, List.append_toArray, List.nil_append, List.cons_append]
  gi_wp2_with fail
  refine ⟨trivial, ?_⟩
  refine (callsIn_wide.2 (spaceLink_any a ca l _ (hl.below (below_alloc _ _)) hok)).mono ?_
  rintro e w1 hlp
  obtain ⟨a1, c1, nbl, hln, rfl, ht, b1⟩ := link_uni hlp
  clear hlp
  rw [World.size_alloc] at ht
  have B1 : Below w.heap.size w w1 := (below_alloc _ _).trans (b1.mono (by simp))
  have br1 : Boxed w1 w.heap.size 4 (.bool false) := (b1.block _ (by simp)).trans (Boxed.new w 4 (.bool false))
  have hz1 := b1.size
  rw [World.size_alloc] at hz1
  have HT := Lib.hid ht
  obtain ⟨o, ho⟩ : ∃ o, finO nbl.length (idxS (treeOf l) name) = o := ⟨_, rfl⟩
  have HA := Lib.hid (show adrO nbl (idxS (treeOf l) name) = adrN nbl o by rw [← ho]; exact (adrN_fin (fun j hj => by rw [hln]; exact idxS_lt hj)).symm)
  have HE := Lib.hid (treeOf_end hln name)
  have HR := Lib.hid (going_names hln name)
  rw [ho] at HE HR
  generalize spsOk l = ok0
  have HLN := Lib.hid hln
  clear ht b1 hl hok ho hln
  gi_wp2_with fail
  refine ⟨trivial, ?_⟩
  refine (callsIn_wide.2 (find_any a1 c1 nbl (treeOf l) HLN.out name _ (HT.out.pts.below (below_alloc _ _)) (HT.out.nms.below (below_alloc _ _)))).mono ?_
  rintro e w2 ⟨rfl, b2⟩
  rw [HA.out]
  gi_wp2_with fail
  have HLB := Lib.hid (show ∀ b ∈ nbl, w.heap.size < b from fun b hb => by have := HT.out.blk b hb; omega)
  have B2 : Below w.heap.size w w2 := (B1.alloc B1.size _).trans (b2.mono (by simp; omega))
  have br2 : Boxed w2 w.heap.size 4 (.bool false) := (b2.block _ (by simp; omega)).trans (br1.alloc _)
  have HT2 := Lib.hid ((HT.out.below (below_alloc w1 (.cells #[.slice a1 nbl.length c1] 78))).below b2)
  have hz2 : w1.heap.size < w2.heap.size := by have := b2.size; simp at this; omega
  clear HT B1 br1 b2
  refine ⟨trivial, ?_⟩
  refine (callsIn_wide.2 (around_any _ _)).mono ?_
  rintro e w3 ⟨rfl, rfl⟩
  obtain ⟨W0, hW0⟩ : ∃ W0, w2.alloc (.cells #[.pointer (adrN nbl o)] 81) = W0 := ⟨_, rfl⟩
  have S0 : W0.heap.size = w2.heap.size + 1 := by rw [← hW0]; simp
  have B0 : Below w.heap.size w W0 := by rw [← hW0]; exact B2.alloc B2.size _
  have br : Boxed W0 w.heap.size 4 (.bool false) := by rw [← hW0]; exact br2.alloc _
  have bp : Boxed W0 w2.heap.size 81 (.pointer (adrN nbl o)) := by rw [← hW0]; exact Boxed.new w2 _ _
  have HT0 := Lib.hid (show TreeS W0 (w.heap.size + 1) a1 nbl (treeOf l) by rw [← hW0]; exact HT2.out.below (below_alloc _ _))
  have cp := bp.cell
  rw [hW0]
  clear hW0 B2 br2 bp HT2
  gi_wp2_with fail
  obtain ⟨T, hT⟩ : ∃ T : Nat → Prop, T = fun b => b = w.heap.size ∨ w2.heap.size + 1 ≤ b := ⟨_, rfl⟩
  have hTB : ∀ b, W0.heap.size ≤ b → T b := fun b hb => by rw [hT]; exact .inr (by omega)
  have HIV := goE_own w.heap.size W0 T (gnF (treeOf l) nbl.length) W0.heap.size hTB
  have HIX := goX_own w.heap.size W0 T (gnF (treeOf l) nbl.length) W0.heap.size hTB
  have HN0 := Lib.hid (nodesS_of HLN.out HT0.out.nod)
  have HTb := Lib.hid (show ∀ i : Fin nbl.length, ¬ T nbl[i] from fun i => by
    have h1 := HLB.out nbl[i] (List.getElem_mem _)
    have h2 := HN0.out.lt i
    rw [hT]
    omega)
  have HTr := Lib.hid (show T w.heap.size by rw [hT]; exact .inl rfl)
  have HTw := Lib.hid (show ∀ b, T b → w.heap.size ≤ b from fun b hb => by rw [hT] at hb; omega)
  have HGN := Lib.hid (show ∀ i : Fin nbl.length, W0.cell? ⟨nbl[i], 3, none⟩ = some (.bool (gnF (treeOf l) nbl.length i)) from fun i => by
    have hi : i.val < (treeOf l).length := by rw [← HLN.out]; exact i.2
    have := (HT0.out.nod i.val i.2 3 (.bool (treeOf l)[i.val].2.2.2.1) (by rw [nodV_at hi]; rfl)).1
    unfold gnF
    rw [getD_sp hi]
    exact this)
  clear hT
  refine wpIn_rangeFunc_ownH (F := Fence.wide) (n := 3) rfl (by omega) (gf := 97) (lb := #[.pointer (some ⟨w2.heap.size, 0, none⟩)]) rfl trivial (enters_of Try.func97 (by kernel_rfl) rfl)
    (around_stops 2 (by omega) nbl (nxF (treeOf l) nbl.length) o w2.heap.size T HTb.out 7 HE.out W0 cp HN0.out.over)
    KeptOut.trans (fun W k o o' hk h _ _ => (kept_of_grown (grownBy_putObj' W k o')).mono (fun j _ e => hTB j (by cases e; omega))) (Below.refl _ _) (fun _ => rfl)
    (GoE w.heap.size W0 T (gnF (treeOf l) nbl.length)) (fun cd s W => cd = .ret ∧ GoX w.heap.size W0 T (gnF (treeOf l) nbl.length) s W)
    HIV (fun cd s A B row hs hg hr => ⟨hs.1, HIX s A B row hs.2 hg hr⟩) ⟨br, KeptOut.refl _ _, rfl⟩
    (fun y a' W => a' = { tmps := #[.slice a l.length ca, .string name, undef, undef, .pointer (some ⟨w.heap.size, 0, none⟩), .pointer (some ⟨w1.heap.size, 0, none⟩), .bool ok0, .pointer (some ⟨nbl[y], 0, none⟩), .tuple #[.agg #[.slice a1 nbl.length c1], .bool ok0], .slice a l.length ca, .tuple #[.agg #[.slice a1 nbl.length c1], .bool ok0], .agg #[.slice a1 nbl.length c1], .bool ok0, .agg #[.slice a1 nbl.length c1], .string name, .pointer (adrN nbl o), .func (.func 97) #[] #[.pointer (some ⟨w2.heap.size, 0, none⟩)], .pointer (some ⟨nbl[y], 0, none⟩), undef, undef, undef, undef, undef], defers := [] })
    (fun x a' s A B row hs hg hr => hs) ?assign ?body ?done ?stop
  case assign =>
    rintro lp s y W K hi hK
    simp only [encN]
    gi_wp2
    exact hK _ _ (KeepsFrom.refl _ _) (KeptOut.refl _ _) hi rfl
  case body =>
    rintro lp s y a' W hlp ⟨r, hr⟩ ⟨hbr, hkp, hany⟩ rfl hlt
    have HBR := Lib.hid hbr
    have hc3 := hbr.cell
    have hf3 := hbr.frozen
    have HKP := Lib.hid hkp
    have hc5 := (hkp.cell (p := ⟨nbl[y], 3, none⟩) (HN0.out.lt y) (HTb.out y)).trans (HGN.out y)
    have HY := Lib.hid (show (s ++ [y]).any (gnF (treeOf l) nbl.length) = gnF (treeOf l) nbl.length y by rw [List.any_append, hany]; simp)
    clear hbr hkp hany
    generalize nbl[y] = by_ at hc5 ⊢
    cases hg : gnF (treeOf l) nbl.length y with
    | true =>
      rw [hg] at hc5 HY
      clear hg
      gi_wp2_with fail
      exact ⟨(KeepsOthers.setCell W _ _).from _, rfl, HBR.out.set _, HKP.out.setCell (p := ⟨w.heap.size, 0, none⟩) HTr.out _, HY.out⟩
    | false =>
      rw [hg] at hc5 HY
      clear hg
      gi_wp2_with fail
      exact ⟨KeepsFrom.refl _ _, KeptOut.refl _ _, HBR.out, HKP.out, HY.out⟩
  case done =>
    rintro D ys W hD ⟨k, hk, hend⟩ ⟨hbr, hkp, hany⟩ hK
    have hc3 := hbr.cell
    have hf3 := hbr.frozen
    have HBR := Lib.hid hbr
    have HRR := Lib.hid (show (spsOk l && goSp l name) = false by
      rw [← HR.out]
      have e1 := trail_end hend (Nat.le_max_left k 7)
      have e2 := trail_end HE.out (Nat.le_max_right k 7)
      rw [← e2.1, e1.1, ← hk, hany])
    have HBB := Lib.hid (hkp.below B0 B0.size HTw.out)
    clear hbr hkp
    have hDw : D ≠ w.heap.size := by omega
    have hK2 : (W.setCell ⟨w.heap.size, 0, none⟩ (.bool false)).heap[D]? = some (.deferred (some [])) := (Below.heap_setCell _ _ _ _ (by show D ≠ w.heap.size; exact hDw)).trans hK
    have hc5 := ((HBR.out.set (.bool false)).kept (grownBy_putObj' _ D (.deferred none)) (by simp; omega)).cell
    gi_wp2
    refine ⟨by simp, .inl ⟨_, _, rfl, run_takeDeferred hK2, ?_⟩⟩
    refine ⟨.bool false, by simp [results, Try.results41, go_sem, hc5], by rw [HRR.out], ?_⟩
    exact (HBB.out.setCell (p := ⟨w.heap.size, 0, none⟩) (Nat.le_refl _) _).trans (belowK_b (w := w) (Nat.le_refl _) _ D _ _ (by omega) hK2 rfl rfl)
  case stop =>
    rintro D cd s W hD hSp ⟨rfl, hbr, hkp, hany⟩ hK
    have hc3 := hbr.cell
    have HRR := Lib.hid (show (spsOk l && goSp l name) = true by
      rw [← HR.out]
      have e2 := trail_end HE.out (Nat.le_max_right s.length 7)
      obtain ⟨r, hr⟩ := trail_more (nx := nxF (treeOf l) nbl.length) (Nat.le_max_left s.length 7) o
      rw [← e2.1, hr, ← hSp, List.any_append, hany]; rfl)
    have HBB := Lib.hid (hkp.below B0 B0.size HTw.out)
    have HBR := Lib.hid hbr
    clear hbr hkp hSp
    have hc5 := (HBR.out.kept (grownBy_putObj' _ D (.deferred none)) (by simp; omega)).cell
    gi_wp2
    refine ⟨by simp, .inl ⟨_, _, rfl, run_takeDeferred hK, ?_⟩⟩
    refine ⟨.bool true, by simp [results, Try.results41, go_sem, hc5], by rw [HRR.out], ?_⟩
    exact HBB.out.trans (belowK_b (w := w) (Nat.le_refl _) _ D _ _ (by omega) hK rfl rfl)
end Go.Proofs.Ytlaehhdbagiciab
