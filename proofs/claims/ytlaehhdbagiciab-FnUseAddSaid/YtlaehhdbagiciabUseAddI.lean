import Derived.Test.YtlaehhdbagiciabUseAddP
import Derived.Maps.OwnIn
/- UseAdd of the program. -/
namespace Go.Proofs.Ytlaehhdbagiciab
open Go Go.RowKit Go.Shelf

attribute [local go_sem] Oper.semAt_some

theorem addPost_nil {w w1 : World} {R : List UseD} (h : R = []) (b : Below w.heap.size w w1) : AddPost w R (.returned (.slice none 0 0)) w1 := by
  subst h
  exact ⟨_, rfl, owUseS_of (World.ownsRow_nil _ _ _ _) (by simp) (by simp), b⟩
/-- between two rounds -/
def AdE (r rb base : Nat) (va : Value) (u : List UseD) (more : Int) (W0 : World) (T : Nat → Prop) {m : Nat} (s : List (Fin m)) (W : World) : Prop :=
  Boxed W r 37 (.slice none 0 0) ∧ (∃ v, Boxed W rb 37 v ∧ W.ownsRow base 69 2 v u.length (((stU more (s.map Fin.val) u).getD []).flatMap encUse) ∧ v = va) ∧ (KeptOut T W0 W ∧ (stU more (s.map Fin.val) u).isSome = true)
theorem adE_own (r rb base : Nat) (va : Value) (u : List UseD) (more : Int) (W0 : World) (T : Nat → Prop) {m : Nat} (B : Nat) (hT : ∀ b, B ≤ b → T b) : OwnFrom B (AdE r rb base va u more W0 T (m := m)) :=
  OwnFrom.and (Own.from (boxed_own (β := List (Fin m)) _ _ (fun _ => _)) _) (OwnFrom.and (Own.from (holdsRow_own (β := List (Fin m)) base rb 37 69 2 (fun _ => u.length) (fun s => ((stU more (s.map Fin.val) u).getD []).flatMap encUse) (fun _ v => v = va)) _) (OwnFrom.and (ownFrom_kept W0 hT) (ownFrom_pure _ _)))
/-- left -/
def AdX (r : Nat) (u : List UseD) (more : Int) (W0 : World) (T : Nat → Prop) {m : Nat} (s : List (Fin m)) (W : World) : Prop :=
  Boxed W r 37 (.slice none 0 0) ∧ (KeptOut T W0 W ∧ stU more (s.map Fin.val) u = none)
theorem adX_own (r : Nat) (u : List UseD) (more : Int) (W0 : World) (T : Nat → Prop) {m : Nat} (B : Nat) (hT : ∀ b, B ≤ b → T b) : OwnFrom B (AdX r u more W0 T (m := m)) :=
  OwnFrom.and (Own.from (boxed_own (β := List (Fin m)) _ _ (fun _ => _)) _) (OwnFrom.and (ownFrom_kept W0 hT) (ownFrom_pure _ _))
/-- rows on the way are within limits, and as long -/
theorem stU_row {more : Int} : ∀ (s : List Nat) (row r : List UseD), (∀ x ∈ row, 0 ≤ x.2 ∧ x.2 ≤ 99999) → stU more s row = some r → r.length = row.length ∧ (∀ x ∈ r, 0 ≤ x.2 ∧ x.2 ≤ 99999)
  | [], row, r, hr, h => by cases h; exact ⟨rfl, hr⟩
  | i :: t, row, r, hr, h => by
    have h : (stepU more row i).bind (stU more t) = some r := h
    unfold stepU at h
    cases hq : inB ((row.getD i default).2 + more) 0 99999 with
    | false => rw [hq] at h; cases h
    | true =>
      rw [hq] at h
      have h : stU more t (row.set i (moreAt row more i)) = some r := h
      have := stU_row t _ r (fun x hx => by
        rcases List.mem_or_eq_of_mem_set hx with hx | rfl
        · exact hr x hx
        · exact (show 0 ≤ (row.getD i default).2 + more ∧ (row.getD i default).2 + more ≤ 99999 from of_decide_eq_true hq)) h
      rw [List.length_set] at this
      exact this
theorem stU_oks {more : Int} : ∀ (s : List Nat) (row r : List UseD), (∀ x ∈ row, OkUse x) → (∀ i ∈ s, i < row.length) → stU more s row = some r → ∀ x ∈ r, OkUse x
  | [], row, r, hr, _, h => by cases h; exact hr
  | i :: t, row, r, hr, hs, h => by
    have h : (stepU more row i).bind (stU more t) = some r := h
    have hil := hs i (by simp)
    unfold stepU at h
    cases hq : inB ((row.getD i default).2 + more) 0 99999 with
    | false => rw [hq] at h; cases h
    | true =>
      rw [hq] at h
      have h : stU more t (row.set i (moreAt row more i)) = some r := h
      refine stU_oks t _ r (fun x hx => ?_) (fun j hj => by rw [List.length_set]; exact hs j (by simp [hj])) h
      rcases List.mem_or_eq_of_mem_set hx with hx | rfl
      · exact hr x hx
      · have e1 : row.getD i default = row[i] := by simp [List.getD_eq_getElem?_getD, hil]
        unfold moreAt
        rw [e1]
        exact hr row[i] (List.getElem_mem hil)

theorem boxed_apart {W : World} {B : Nat} {t : TypeId} {v : Value} (h : Boxed W B t v) {p : Addr} (hne : B ≠ p.block) (u : Value) : Boxed (W.setCell p u) B t v := (Below.heap_setCell _ _ _ _ hne).trans h
set_option maxRecDepth 100000 in
set_option maxHeartbeats 2000000 in
theorem implUseAdd_any (a b : Option Addr) (ca cb : Nat) (l : List SpaceD) (u : List UseD) (name : ByteArray) (more : Int) (w : World) (hl : ElS 5 encSpace w a l) (hok : ∀ x ∈ l, OkSpace x) (hu : ElS 2 encUse w b u) (huk : ∀ x ∈ u, OkUse x) :
    Calls Try.prog 26 #[.slice a l.length ca, .slice b u.length cb, .string name, .int .i64 more] w (AddPost w (addO l u name more)) := by
  have HX := Lib.hid hl
  have HY := Lib.hid hu
  have HK := Lib.hid hok
  have HUK := Lib.hid huk
  clear hl hu hok huk
  refine (callsIn_wide (n := 3)).1 ?_
  refine callsIn_of_wp_marks Try.func26 rfl trivial ?_ rfl
  simp only [Try.ntmps26, List.size_toArray, List.length_cons, List.length_nil, Nat.reduceAdd, Nat.reduceSub, Array.replicate_succ, Array.replicate_zero, List.push_toArray, List.append_toArray, List.nil_append, List.cons_append]
  have A2 : Below w.heap.size w ((w.alloc (.cells #[.int .i64 more] 3)).alloc (.cells #[.slice none 0 0] 37)) := ((Below.refl _ w).alloc (Nat.le_refl _) _).alloc (by simp) _
  gi_wp2_with fail
  refine ⟨trivial, ?_⟩
  refine (callsIn_wide.2 (spaceLink_any a ca l _ (HX.out.below A2) HK.out)).mono ?_
  rintro e w1 hlp
  obtain ⟨a1, c1, nbl, hln, rfl, ht, b1⟩ := link_uni hlp
  clear hlp
  have B1 := A2.trans (b1.mono (by simp; omega))
  have hz1 := b1.size
  rw [World.size_alloc, World.size_alloc] at hz1
  have bm1 : Boxed w1 w.heap.size 3 (.int .i64 more) := (b1.block _ (by simp; omega)).trans ((Boxed.new w 3 (.int .i64 more)).alloc _)
  have br1 : Boxed w1 (w.heap.size + 1) 37 (.slice none 0 0) := (b1.block _ (by simp)).trans (by have := Boxed.new (w.alloc (.cells #[.int .i64 more] 3)) 37 (.slice none 0 0); rw [World.size_alloc] at this; exact this)
  have HT := Lib.hid ht
  have HLN := Lib.hid hln
  have HB1 := Lib.hid B1
  have HBM1 := Lib.hid bm1
  have HBR1 := Lib.hid br1
  have hc1 := br1.cell
  have hf1 := br1.frozen
  have hc2 := bm1.cell
  clear ht hln b1 A2 B1 bm1 br1
  cases h0 : spsOk l with
  | false =>
    have H0 := Lib.hid h0
    have HF := Lib.hid (addO_no (show addOk l u name more = false by unfold addOk; rw [h0]; rfl))
    clear h0 hc1 hf1 hc2
    have br1 := HBR1.out.alloc (.cells #[.slice a1 nbl.length c1] 78)
    have hc1 := br1.cell
    have hf1 := br1.frozen
    clear br1
    gi_wp2_with fail
    refine ⟨trivial, ?_⟩
    gi_wp2_with fail
    refine ⟨trivial, ?_⟩
    gi_wp2_with fail
    have hc5 := ((HBR1.out.alloc (.cells #[.slice a1 nbl.length c1] 78)).set (.slice none 0 0)).cell
    refine ⟨.slice none 0 0, by simp [results, Try.results26, go_sem, hc5], addPost_nil HF.out ((HB1.out.alloc HB1.out.size _).setCell (by simp) _)⟩
  | true =>
    have H0 := Lib.hid h0
    rw [treeOf_yes h0] at HT HLN
    clear h0
    have A1 := below_alloc w1 (.cells #[.slice a1 nbl.length c1] 78)
    have bt1 := Boxed.new w1 78 (.slice a1 nbl.length c1)
    have HT1 := Lib.hid (HT.out.below A1)
    gi_wp2_with fail
    refine ⟨trivial, ?_⟩
    have B1t := HB1.out.trans (A1.mono HB1.out.size)
    refine (callsIn_wide.2 (usesOk_any a1 b c1 cb nbl l HLN.out u _ HT1.out.pts HT1.out.nms (HY.out.below B1t))).mono ?_
    rintro e w2 ⟨rfl, b2⟩
    have hz2 : w1.heap.size < w2.heap.size := by have := b2.size; simp at this; omega
    have HB2 := Lib.hid (B1t.trans (b2.mono B1t.size))
    have HT2 := Lib.hid (HT1.out.below b2)
    have HBM2 := Lib.hid (show Boxed w2 w.heap.size 3 (.int .i64 more) from (b2.block _ (by simp; omega)).trans (HBM1.out.alloc _))
    have br2 : Boxed w2 (w.heap.size + 1) 37 (.slice none 0 0) := (b2.block _ (by simp; omega)).trans (HBR1.out.alloc _)
    have HBT2 := Lib.hid (show Boxed w2 w1.heap.size 78 (.slice a1 nbl.length c1) from (b2.block _ (by simp)).trans bt1)
    have HBR2 := Lib.hid br2
    clear hc1 hf1 hc2 b2 A1 bt1 B1t HT HT1
    have hc1 := br2.cell
    have hf1 := br2.frozen
    have hc2 := HBM2.out.cell
    have hc3 := HBT2.out.cell
    clear br2
    cases h1 : usesB l u with
    | false =>
      have HF := Lib.hid (addO_no (show addOk l u name more = false by unfold addOk; rw [H0.out, h1]; rfl))
      clear h1
      gi_wp2_with fail
      refine ⟨trivial, ?_⟩
      gi_wp2_with fail
      have hc5 := (HBR2.out.set (.slice none 0 0)).cell
      refine ⟨.slice none 0 0, by simp [results, Try.results26, go_sem, hc5], addPost_nil HF.out (HB2.out.setCell (by simp) _)⟩
    | true =>
      have H1 := Lib.hid h1
      obtain ⟨hub, hul, -⟩ := usesB_ub h1
      have HUB := Lib.hid hub
      have HUL := Lib.hid hul
      clear h1 hub hul
      gi_wp2_with fail
      refine ⟨trivial, ?_⟩
      refine (callsIn_wide.2 (count_any more (-99999) _)).mono ?_
      rintro e wq ⟨rfl, hwq⟩
      obtain rfl := hwq
      cases h2 : inB more (-99999) 99999 with
      | false =>
        have HF := Lib.hid (addO_no (show addOk l u name more = false by unfold addOk; rw [H0.out, H1.out, h2]; rfl))
        clear h2
        gi_wp2_with fail
        have hc5 := (HBR2.out.set (.slice none 0 0)).cell
        refine ⟨.slice none 0 0, by simp [results, Try.results26, go_sem, hc5], addPost_nil HF.out (HB2.out.setCell (by simp) _)⟩
      | true =>
        have H2 := Lib.hid h2
        obtain ⟨hm0, hm1⟩ := of_decide_eq_true h2
        clear h2
        have h71 := (sps_len H0.out).1
        have h77 := (sps_len H0.out).2.1
        have hun : u.length ≤ 1048576 := by have := HUL.out; omega
        have hu0 : 0 < u.length := by have := HUL.out; omega
        gi_wp2_with fail
        refine ⟨trivial, ?_⟩
        refine (callsIn_wide.2 (cloneUse_any b cb u _ (HY.out.below HB2.out) hun (fun e => by have := (HY.out.2.resolve_left (fun e => by rw [e] at hu0; simp at hu0)); obtain ⟨_, _, e2, _⟩ := this; rw [e] at e2; cases e2))).mono ?_
        rintro e w3 ⟨v3, rfl, o3, b3⟩
        obtain ⟨g, cap, rfl⟩ : ∃ g cap, v3 = .slice (some ⟨g, 0, none⟩) u.length cap := by
          rcases o3.2 with ⟨_, hn⟩ | ⟨g, cap, cur, hv, _⟩
          · omega
          · exact ⟨g, cap, hv⟩
        have hg := o3.lt g rfl
        have hz3 := b3.size
        have HB3 := Lib.hid (HB2.out.trans (b3.mono HB2.out.size))
        have HT3 := Lib.hid (HT2.out.below b3)
        have HBM3 := Lib.hid (show Boxed w3 w.heap.size 3 (.int .i64 more) from (b3.block _ (by omega)).trans HBM2.out)
        have HBR3 := Lib.hid (show Boxed w3 (w.heap.size + 1) 37 (.slice none 0 0) from (b3.block _ (by omega)).trans HBR2.out)
        have HBT3 := Lib.hid (show Boxed w3 w1.heap.size 78 (.slice a1 nbl.length c1) from (b3.block _ (by omega)).trans HBT2.out)
        have HO3 := Lib.hid o3
        clear o3 b3 hc1 hf1 hc2 hc3
        have A3 := below_alloc w3 (.cells #[.slice (some ⟨g, 0, none⟩) u.length cap] 37)
        have hc3 := (HBT3.out.alloc (.cells #[.slice (some ⟨g, 0, none⟩) u.length cap] 37)).cell
        gi_wp2_with fail
        refine ⟨trivial, ?_⟩
        refine (callsIn_wide.2 (find_any a1 c1 nbl l HLN.out name _ (HT3.out.pts.below A3) (HT3.out.nms.below A3))).mono ?_
        rintro e w4 ⟨rfl, b4⟩
        obtain ⟨o, ho⟩ : ∃ o, finO nbl.length (idxS l name) = o := ⟨_, rfl⟩
        have HA := Lib.hid (show adrO nbl (idxS l name) = adrN nbl o by rw [← ho]; exact (adrN_fin (fun j hj => by rw [HLN.out]; exact idxS_lt hj)).symm)
        have HE := Lib.hid (show after (nxF l nbl.length) o l.length = none by rw [← ho]; exact end_fin HLN.out H0.out name)
        have HR := Lib.hid (show (stU more ((trail (nxF l nbl.length) o l.length).map Fin.val) u).getD [] = addO l u name more by rw [← ho]; exact add_names HLN.out H0.out H1.out name H2.out)
        rw [HA.out]
        have hz4 : w3.heap.size < w4.heap.size := by have := b4.size; simp at this; omega
        have B3t := HB3.out.trans (A3.mono HB3.out.size)
        have HB4 := Lib.hid (B3t.trans (b4.mono B3t.size))
        have HT4 := Lib.hid ((HT3.out.below A3).below b4)
        have HBM4 := Lib.hid (show Boxed w4 w.heap.size 3 (.int .i64 more) from (b4.block _ (by simp; omega)).trans (HBM3.out.alloc _))
        have HBR4 := Lib.hid (show Boxed w4 (w.heap.size + 1) 37 (.slice none 0 0) from (b4.block _ (by simp; omega)).trans (HBR3.out.alloc _))
        have HBA4 := Lib.hid (show Boxed w4 w3.heap.size 37 (.slice (some ⟨g, 0, none⟩) u.length cap) from (b4.block _ (by simp)).trans (Boxed.new w3 _ _))
        have HO4 := Lib.hid (own_below (own_below HO3.out A3) b4)
        clear ho hc3 b4 A3 B3t HT3 HO3
        gi_wp2_with fail
        refine ⟨trivial, ?_⟩
        refine (callsIn_wide.2 (around_any _ _)).mono ?_
        rintro e w5 ⟨rfl, rfl⟩
        obtain ⟨W0, hW0⟩ : ∃ W0, w4.alloc (.cells #[.pointer (adrN nbl o)] 81) = W0 := ⟨_, rfl⟩
        have S0 : W0.heap.size = w4.heap.size + 1 := by rw [← hW0]; simp
        have HB0 := Lib.hid (show Below w.heap.size w W0 by rw [← hW0]; exact HB4.out.alloc HB4.out.size _)
        have HBR0 := Lib.hid (show Boxed W0 (w.heap.size + 1) 37 (.slice none 0 0) by rw [← hW0]; exact HBR4.out.alloc _)
        have HBM0 := Lib.hid (show Boxed W0 w.heap.size 3 (.int .i64 more) by rw [← hW0]; exact HBM4.out.alloc _)
        have HBA0 := Lib.hid (show Boxed W0 w3.heap.size 37 (.slice (some ⟨g, 0, none⟩) u.length cap) by rw [← hW0]; exact HBA4.out.alloc _)
        have HO0 := Lib.hid (show W0.ownsRow w2.heap.size 69 2 (.slice (some ⟨g, 0, none⟩) u.length cap) u.length (u.flatMap encUse) by rw [← hW0]; exact own_below HO4.out (below_alloc _ _))
        have HT0 := Lib.hid (show TreeS W0 (w.heap.size + 1 + 1) a1 nbl l by rw [← hW0]; have := HT4.out.below (below_alloc w4 (.cells #[.pointer (adrN nbl o)] 81)); simpa using this)
        have HCP := Lib.hid (show W0.cell? ⟨w4.heap.size, 0, none⟩ = some (.pointer (adrN nbl o)) by rw [← hW0]; exact (Boxed.new w4 _ _).cell)
        rw [hW0]
        clear hW0
        gi_wp2_with fail
        obtain ⟨T, hT⟩ : ∃ T : Nat → Prop, T = fun b => b = w.heap.size + 1 ∨ b = g ∨ w4.heap.size + 1 ≤ b := ⟨_, rfl⟩
        have hTB : ∀ b, W0.heap.size ≤ b → T b := fun b hb => by rw [hT]; exact .inr (.inr (by omega))
        have HIV := adE_own (w.heap.size + 1) w3.heap.size w2.heap.size (.slice (some ⟨g, 0, none⟩) u.length cap) u more W0 T (m := nbl.length) W0.heap.size hTB
        have HIX := adX_own (w.heap.size + 1) u more W0 T (m := nbl.length) W0.heap.size hTB
        have HN0 := Lib.hid (nodesS_of HLN.out HT0.out.nod)
        have HLB := Lib.hid (show ∀ b ∈ nbl, w.heap.size + 1 < b ∧ b < w2.heap.size from fun b hb => by
          obtain ⟨i, hi, rfl⟩ := List.mem_iff_getElem.1 hb
          exact ⟨by have := HT0.out.blk _ (List.getElem_mem hi); omega, Box.lt (HT2.out.nod i hi)⟩)
        have HTb := Lib.hid (show ∀ i : Fin nbl.length, ¬ T nbl[i] from fun i => by
          have h1 := HLB.out nbl[i] (List.getElem_mem _)
          rw [hT]
          omega)
        have HTr := Lib.hid (show T (w.heap.size + 1) by rw [hT]; exact .inl rfl)
        have HTg := Lib.hid (show T g by rw [hT]; exact .inr (.inl rfl))
        have HTw := Lib.hid (show ∀ b, T b → w.heap.size ≤ b from fun b hb => by rw [hT] at hb; omega)
        have HTn := Lib.hid (show ¬ T w.heap.size by rw [hT]; omega)
        have HTa := Lib.hid (show ¬ T w3.heap.size by rw [hT]; omega)
        clear hT
        refine wpIn_rangeFunc_ownH (F := Fence.wide) (n := 3) rfl (by omega) (gf := 97) (lb := #[.pointer (some ⟨w4.heap.size, 0, none⟩)]) rfl trivial (enters_of Try.func97 (by kernel_rfl) rfl)
          (around_stops 2 (by omega) nbl (nxF l nbl.length) o w4.heap.size T HTb.out l.length HE.out W0 HCP.out HN0.out.over)
          KeptOut.trans (fun W k o o' hk h _ _ => (kept_of_grown (grownBy_putObj' W k o')).mono (fun j _ e => hTB j (by cases e; omega))) (Below.refl _ _) (fun _ => rfl)
          (AdE (w.heap.size + 1) w3.heap.size w2.heap.size (.slice (some ⟨g, 0, none⟩) u.length cap) u more W0 T (m := nbl.length)) (fun cd s W => cd = .ret ∧ AdX (w.heap.size + 1) u more W0 T (m := nbl.length) s W)
          HIV (fun cd s A B row hs hg hr => ⟨hs.1, HIX s A B row hs.2 hg hr⟩) ⟨HBR0.out, ⟨_, HBA0.out, HO0.out, rfl⟩, KeptOut.refl _ _, rfl⟩
          (fun (y : Fin nbl.length) a' W => a' = { tmps := #[.slice a l.length ca, .slice b u.length cb, .string name, .int .i64 more, undef, undef, undef, .pointer (some ⟨w.heap.size, 0, none⟩), .pointer (some ⟨w.heap.size + 1, 0, none⟩), .pointer (some ⟨w1.heap.size, 0, none⟩), .bool true, .pointer (some ⟨w3.heap.size, 0, none⟩), .pointer (some ⟨nbl[y], 0, none⟩), undef, .tuple #[.agg #[.slice a1 nbl.length c1], .bool true], .slice a l.length ca, .tuple #[.agg #[.slice a1 nbl.length c1], .bool true], .agg #[.slice a1 nbl.length c1], .bool true, .bool true, .bool false, .bool false, .agg #[.slice a1 nbl.length c1], .slice b u.length cb, .bool true, .bool false, .bool false, .bool false, .int .i64 more, .bool true, .bool false, .bool false, .slice b u.length cb, .slice (some ⟨g, 0, none⟩) u.length cap, .agg #[.slice a1 nbl.length c1], .string name, .pointer (adrN nbl o), .func (.func 97) #[] #[.pointer (some ⟨w4.heap.size, 0, none⟩)], .pointer (some ⟨nbl[y], 0, none⟩), undef, undef, undef, undef, undef, undef, undef, undef, undef, undef, undef, undef, undef, undef, undef, undef, undef, undef, undef, undef, undef], defers := [] })
          ?own ?assign ?body ?done ?stop
        case own =>
          intro x a' s A B row hs hg hr
          exact hs
        case assign =>
          rintro lp s y W K hi hK
          simp only [encN]
          gi_wp2
          exact hK _ _ (KeepsFrom.refl _ _) (KeptOut.refl _ _) hi rfl
        case body =>
          rintro lp s y a' W hlp ⟨r, hr⟩ ⟨hbr, ⟨v, hba, hro, rfl⟩, hkp, hsome⟩ rfl hlt
          have hyl : y.val < l.length := by rw [← HLN.out]; exact y.2
          have hyu : y.val < u.length := by rw [HUL.out]; exact hyl
          obtain ⟨row, hrow⟩ := Option.isSome_iff_exists.1 hsome
          obtain ⟨hrl, hrb⟩ := stU_row _ u row HUB.out hrow
          rw [hrow] at hro
          have hro : W.ownsRow w2.heap.size 69 2 (.slice (some ⟨g, 0, none⟩) u.length cap) u.length (row.flatMap encUse) := hro
          have hyr : y.val < row.length := by rw [hrl]; exact hyu
          obtain ⟨hz0, hz9⟩ := hrb _ (List.getElem_mem hyr)
          have HBR := Lib.hid hbr
          have HBA := Lib.hid hba
          have HKP := Lib.hid hkp
          have HRO := Lib.hid hro
          have HROW := Lib.hid hrow
          have HRL := Lib.hid hrl
          have hc3 := hbr.cell
          have hf3 := hbr.frozen
          have hc4 := hba.cell
          have hc5 := (hkp.cell (p := ⟨w.heap.size, 0, none⟩) HBM0.out.lt HTn.out).trans HBM0.out.cell
          have hc8 := (hkp.cell (p := ⟨nbl[y], 5, none⟩) (HN0.out.lt y) (HTb.out y)).trans (HT0.out.nod y.val y.2 5 (.int .i64 (y.val : Int)) (by rw [nodV_at hyl]; rfl)).1
          obtain ⟨-, hcm⟩ := own_el encUse_len (l := row) (by rw [hrl]; unfold maxLen; omega) (by rw [hrl]; exact hro)
          obtain ⟨b1, o1, e1, hcm⟩ := hcm.resolve_left (fun e => by rw [e] at hyr; simp at hyr)
          obtain ⟨rfl, rfl⟩ : b1 = g ∧ o1 = 0 := by cases e1; exact ⟨rfl, rfl⟩
          obtain ⟨c0, c1⟩ := cellsUse (Below.refl _ _) hcm y.val hyr
          simp only [Nat.zero_add] at c0 c1
          have f1 := (own_cells hro (Below.refl _ _) (y.val * 2 + 1) (by omega)).2
          have hym : (0 : Int) ≤ (y.val : Int) := by omega
          have hyn : (y.val : Int) < (u.length : Int) := by omega
          clear hbr hba hkp hro hrow hrl hrb hcm e1 hsome c0
          generalize nbl[y] = by_ at hc8 ⊢
          gi_wp2_with fail
          refine wpIn_region_quiet_round (by kernel_rfl) (by kernel_rfl) (by kernel_rfl) (fun a w h => h) ?_
          repeat (go_big_quiet_step (fail))
          refine wpQuiet_nil ?_
          intro _ hw'
          obtain ⟨nq, hw''⟩ := hw'
          subst hw''
          gi_wp2_with fail
          have HST := Lib.hid (show stU more ((s ++ [y]).map Fin.val) u = stepU more row y.val by rw [List.map_append, List.map_singleton, stU_snoc, HROW.out]; rfl)
          have HGD := Lib.hid (show row.getD y.val default = row[y.val] by simp [List.getD_eq_getElem?_getD, hyr])
          have HRN := Lib.hid (show ((W.drewN (nq + 1)).setCell ⟨b1, y.val * 2 + 1, none⟩ (.int .i64 (row[y.val].2 + more))).ownsRow w2.heap.size 69 2 (.slice (some ⟨b1, 0, none⟩) u.length cap) u.length ((row.set y.val (moreAt row more y.val)).flatMap encUse) by
            have h2 := ((own_below HRO.out (below_drewN (Below.refl _ _) (nq + 1))).stored (y.val * 2 + 1) (.int .i64 (row[y.val].2 + more))).1
            rw [flat_set row y.val hyr] at h2
            unfold moreAt
            rw [HGD.out]
            exact h2)
          have HKN := Lib.hid (show KeptOut T W ((W.drewN (nq + 1)).setCell ⟨b1, y.val * 2 + 1, none⟩ (.int .i64 (row[y.val].2 + more))) from (KeptOut.of_below (below_drewN (Below.refl _ _) (nq + 1))).setCell (p := ⟨b1, y.val * 2 + 1, none⟩) HTg.out _)
          obtain ⟨q, hq⟩ : ∃ q, inB (row[y.val].2 + more) 0 99999 = q := ⟨_, rfl⟩
          have HQ := Lib.hid hq
          clear hq
          cases q with
          | true =>
            have HS1 := Lib.hid (show stU more ((s ++ [y]).map Fin.val) u = some (row.set y.val (moreAt row more y.val)) by rw [HST.out]; unfold stepU; rw [HGD.out, HQ.out]; rfl)
            gi_region
            all_goals
              gi_wp2_with fail
              refine ⟨trivial, ?_⟩
              refine (CallsIn.inRound lp (callsIn_wide.2 (count_isE HQ.out _))).mono ?_
              rintro e wq ⟨rfl, hwq⟩
              obtain rfl := hwq
              gi_wp2_with fail
              refine ⟨⟨((KeepsOthers.setCell W _ _).from W0.heap.size).size, ((KeepsOthers.setCell W _ _).from W0.heap.size).same⟩, HKN.out, boxed_apart HBR.out (by show w.heap.size + 1 ≠ b1; omega) _, ⟨_, boxed_apart HBA.out (by show w3.heap.size ≠ b1; omega) _, by rw [HS1.out]; exact HRN.out, rfl⟩, HKP.out.trans HKN.out, by rw [HS1.out]; rfl⟩
          | false =>
            have HS1 := Lib.hid (show stU more ((s ++ [y]).map Fin.val) u = none by rw [HST.out]; unfold stepU; rw [HGD.out, HQ.out]; rfl)
            gi_region
            all_goals
              gi_wp2_with fail
              refine ⟨trivial, ?_⟩
              refine (CallsIn.inRound lp (callsIn_wide.2 (count_isE HQ.out _))).mono ?_
              rintro e wq ⟨rfl, hwq⟩
              obtain rfl := hwq
              gi_wp2_with fail
              refine ⟨⟨(((KeepsOthers.setCell W _ _).from W0.heap.size).trans ((KeepsOthers.setCell _ _ _).from W0.heap.size)).size, (((KeepsOthers.setCell W _ _).from W0.heap.size).trans ((KeepsOthers.setCell _ _ _).from W0.heap.size)).same⟩, rfl, (show Boxed ((W.drewN (nq + 1)).setCell ⟨b1, y.val * 2 + 1, none⟩ (.int .i64 (row[y.val].2 + more))) (w.heap.size + 1) 37 (.slice none 0 0) from boxed_apart HBR.out (by show w.heap.size + 1 ≠ b1; omega) _).set _, (HKP.out.trans HKN.out).setCell (p := ⟨w.heap.size + 1, 0, none⟩) HTr.out _, HS1.out⟩
        case done =>
          rintro D ys W hD ⟨k, hk, hend⟩ ⟨hbr, ⟨v, hba, hro, rfl⟩, hkp, hsome⟩ hK
          have hc3 := hbr.cell
          have hf3 := hbr.frozen
          have hc4 := hba.cell
          have HBR := Lib.hid hbr
          have HRO := Lib.hid hro
          have HRR := Lib.hid (show addO l u name more = (stU more (ys.map Fin.val) u).getD [] by
            rw [← HR.out]
            have e1 := trail_end hend (Nat.le_max_left k l.length)
            have e2 := trail_end HE.out (Nat.le_max_right k l.length)
            rw [← e2.1, e1.1, ← hk])
          obtain ⟨row, hrow⟩ := Option.isSome_iff_exists.1 hsome
          have HRL := Lib.hid (stU_row _ u row HUB.out hrow).1
          have HRK := Lib.hid (stU_oks _ u row HUK.out (fun i hi => by obtain ⟨y, _, rfl⟩ := List.mem_map.1 hi; rw [HUL.out, ← HLN.out]; exact y.2) hrow)
          have HROW := Lib.hid hrow
          have HBB := Lib.hid (hkp.below HB0.out HB0.out.size HTw.out)
          clear hbr hkp hba hro hsome hrow
          have hDw : D ≠ w.heap.size + 1 := by omega
          have hK2 : (W.setCell ⟨w.heap.size + 1, 0, none⟩ (.slice (some ⟨g, 0, none⟩) u.length cap)).heap[D]? = some (.deferred (some [])) := (Below.heap_setCell _ _ _ _ (by show D ≠ w.heap.size + 1; exact hDw)).trans hK
          have hc5 := ((HBR.out.set (.slice (some ⟨g, 0, none⟩) u.length cap)).kept (grownBy_putObj' _ D (.deferred none)) (by simp; omega)).cell
          gi_wp2
          refine ⟨by simp, .inl ⟨_, _, rfl, run_takeDeferred hK2, ?_⟩⟩
          have BF := (HBB.out.setCell (p := ⟨w.heap.size + 1, 0, none⟩) (by show w.heap.size ≤ w.heap.size + 1; omega) (.slice (some ⟨g, 0, none⟩) u.length cap)).trans (belowK_b (w := w) (Nat.le_refl _) _ D _ (.deferred none) (by omega) hK2 rfl rfl)
          have KF : KeptOut (fun b => b = w.heap.size + 1 ∨ b = D) W ((W.setCell ⟨w.heap.size + 1, 0, none⟩ (.slice (some ⟨g, 0, none⟩) u.length cap)).putObj D (.deferred none)) :=
            ((KeptOut.refl _ W).setCell (p := ⟨w.heap.size + 1, 0, none⟩) (.inl rfl) _).trans ((kept_of_grown (grownBy_putObj' _ D (.deferred none))).mono (fun k _ e => .inr (by cases e; rfl)))
          have ho := own_kept HRO.out KF (fun b hb => by have := own_blk hb; omega)
          rw [HROW.out] at ho
          have ho : ((W.setCell ⟨w.heap.size + 1, 0, none⟩ (.slice (some ⟨g, 0, none⟩) u.length cap)).putObj D (.deferred none)).ownsRow w2.heap.size 69 2 (.slice (some ⟨g, 0, none⟩) u.length cap) u.length (row.flatMap encUse) := ho
          rw [← HRL.out] at ho
          refine ⟨.slice (some ⟨g, 0, none⟩) u.length cap, by simp [results, Try.results26, go_sem, hc5], _, rfl, ?_, BF⟩
          rw [HRR.out, HROW.out, ← HRL.out]
          exact owUseS_of (l := row) (own_mono HB2.out.size ho) (by rw [HRL.out]; unfold maxLen; omega) HRK.out
        case stop =>
          rintro D cd s W hD hSp ⟨rfl, hbr, hkp, hnone⟩ hK
          have hc3 := hbr.cell
          have HRR := Lib.hid (show addO l u name more = [] by
            rw [← HR.out]
            have e2 := trail_end HE.out (Nat.le_max_right s.length l.length)
            obtain ⟨r, hr⟩ := trail_more (nx := nxF l nbl.length) (Nat.le_max_left s.length l.length) o
            rw [← e2.1, hr, ← hSp, List.map_append, stU_none _ _ _ _ hnone]
            rfl)
          have HBB := Lib.hid (hkp.below HB0.out HB0.out.size HTw.out)
          have HBR := Lib.hid hbr
          clear hbr hkp hSp hnone
          have hc5 := (HBR.out.kept (grownBy_putObj' _ D (.deferred none)) (by simp; omega)).cell
          gi_wp2
          refine ⟨by simp, .inl ⟨_, _, rfl, run_takeDeferred hK, ?_⟩⟩
          exact ⟨.slice none 0 0, by simp [results, Try.results26, go_sem, hc5], addPost_nil HRR.out (HBB.out.trans (belowK_b (w := w) (Nat.le_refl _) _ D _ _ (by omega) hK rfl rfl))⟩
end Go.Proofs.Ytlaehhdbagiciab
