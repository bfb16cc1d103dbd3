import Derived.Test.YtlaehhdbagiciabUsesI
import Derived.Test.YtlaehhdbagiciabSpaceUpI
import Derived.Test.YtlaehhdbagiciabRoundR
/- UseMay of the program. -/
namespace Go.Proofs.Ytlaehhdbagiciab
open Go Go.RowKit Go.Shelf

attribute [local go_sem] Oper.semAt_some

def hitF (l : List SpaceD) (u : List UseD) (more : Int) (m : Nat) (i : Fin m) : Bool := exI l u more i.val
/-- the first that is hit -/
def ansF (l : List SpaceD) (u : List UseD) (more : Int) (m : Nat) (s : List (Fin m)) : ByteArray := ((s.find? (hitF l u more m)).map (nmF l m)).getD ⟨#[]⟩
theorem may_names {l : List SpaceD} {m : Nat} (h : m = l.length) (hk : spsOk l = true) (u : List UseD) (name : ByteArray) (more : Int) :
    ansF l u more m (trail (nxF l m) (finO m (idxS l name)) l.length) = mayN l u name more := by
  unfold mayN ansF
  rw [← ups_names h hk name, List.find?_map]
  have hl := (sps_len hk).2.2
  have : hitF l u more m = exN l u more ∘ nmF l m := by
    funext i
    have hi : i.val < l.length := by rw [← h]; exact i.2
    show exI l u more i.val = exN l u more (nmS l i.val)
    unfold exN
    rw [line_idx hl hi]
  rw [this]
theorem ans_none {l : List SpaceD} {u : List UseD} {more : Int} {m : Nat} {s : List (Fin m)} (h : s.any (hitF l u more m) = false) : ansF l u more m s = ⟨#[]⟩ := by
  unfold ansF
  rw [List.find?_eq_none.2 (fun x hx => by rw [List.any_eq_false] at h; exact h x hx)]
  rfl
theorem ans_snoc {l : List SpaceD} {u : List UseD} {more : Int} {m : Nat} {s r : List (Fin m)} {y : Fin m} (h : s.any (hitF l u more m) = false) (hy : hitF l u more m y = true) : ansF l u more m (s ++ y :: r) = nmF l m y := by
  unfold ansF
  rw [List.find?_append, List.find?_eq_none.2 (fun x hx => by rw [List.any_eq_false] at h; exact h x hx)]
  simp [hy]
theorem hit_at {l : List SpaceD} {u : List UseD} {more : Int} {m : Nat} (hk : spsOk l = true) (hu : usesB l u = true) (i : Fin m) (hl : i.val < l.length) (hi : i.val < u.length) :
    hitF l u more m i = (decide (0 ≤ l[i.val].2.2.1) && decide (l[i.val].2.2.1 < u[i.val].2 + more)) := by
  have hln := (sps_len hk).2.2
  have hn := (usesB_ub hu).2.2
  have : useN u (nmS l i.val) = u[i.val].2 := by
    refine useN_at hi (hn _ hi) (fun j hj hjl => ?_)
    rw [hn j hjl]
    exact fun e => by
      have := line_lt hln i.val hl j hj
      rw [e] at this
      exact absurd this (by simp [ltS_irrefl])
  unfold hitF exI limS
  rw [this, getD_sp hl]
/-- between two rounds -/
def MyE (r : Nat) (W0 : World) (T : Nat → Prop) {m : Nat} (hit : Fin m → Bool) (s : List (Fin m)) (W : World) : Prop :=
  Boxed W r 9 (.string ⟨#[]⟩) ∧ (KeptOut T W0 W ∧ s.any hit = false)
theorem myE_own (r : Nat) (W0 : World) (T : Nat → Prop) {m : Nat} (hit : Fin m → Bool) (B : Nat) (hT : ∀ b, B ≤ b → T b) : OwnFrom B (MyE r W0 T hit) :=
  OwnFrom.and (Own.from (boxed_own (β := List (Fin m)) _ _ (fun _ => _)) _) (OwnFrom.and (ownFrom_kept W0 hT) (ownFrom_pure _ _))
/-- left -/
def MyX (r : Nat) (W0 : World) (T : Nat → Prop) {m : Nat} (ans : List (Fin m) → ByteArray) (hit : Fin m → Bool) (s : List (Fin m)) (W : World) : Prop :=
  Boxed W r 9 (.string (ans s)) ∧ (KeptOut T W0 W ∧ ∃ t y, s = t ++ [y] ∧ t.any hit = false ∧ hit y = true)
theorem myX_own (r : Nat) (W0 : World) (T : Nat → Prop) {m : Nat} (ans : List (Fin m) → ByteArray) (hit : Fin m → Bool) (B : Nat) (hT : ∀ b, B ≤ b → T b) : OwnFrom B (MyX r W0 T ans hit) :=
  OwnFrom.and (Own.from (boxed_own (β := List (Fin m)) _ _ (fun s => .string (ans s))) _) (OwnFrom.and (ownFrom_kept W0 hT) (ownFrom_pure _ _))

theorem may_box {w w1 w2 : World} {v1 v2 v3 v4 : Value} {t1 t2 t3 t4 : TypeId}
    (b1 : Below (((w.alloc (.cells #[v1] t1)).alloc (.cells #[v2] t2)).alloc (.cells #[v3] t3)).heap.size (((w.alloc (.cells #[v1] t1)).alloc (.cells #[v2] t2)).alloc (.cells #[v3] t3)) w1)
    (b2 : Below (w1.alloc (.cells #[v4] t4)).heap.size (w1.alloc (.cells #[v4] t4)) w2) :
    Below w.heap.size w w2 ∧ Boxed w2 (w.heap.size + 1 + 1) t3 v3 ∧ Boxed w2 w.heap.size t1 v1 ∧ Boxed w2 (w.heap.size + 1) t2 v2 ∧ Boxed w2 w1.heap.size t4 v4 ∧ w.heap.size + 3 ≤ w1.heap.size ∧ w1.heap.size < w2.heap.size := by
  have A : Below w.heap.size w (((w.alloc (.cells #[v1] t1)).alloc (.cells #[v2] t2)).alloc (.cells #[v3] t3)) := (((Below.refl _ w).alloc (Nat.le_refl _) _).alloc (by simp) _).alloc (by simp; omega) _
  have B1 := A.trans (b1.mono (by simp; omega))
  have hz := b1.size
  have hz2 := b2.size
  simp at hz hz2
  refine ⟨(B1.alloc B1.size _).trans (b2.mono (by simp; omega)), (b2.block _ (by simp; omega)).trans (Boxed.alloc ((b1.block _ (by simp)).trans ?_) _),
    (b2.block _ (by simp; omega)).trans (Boxed.alloc ((b1.block _ (by simp; omega)).trans (((Boxed.new w t1 v1).alloc _).alloc _)) _),
    (b2.block _ (by simp; omega)).trans (Boxed.alloc ((b1.block _ (by simp)).trans ?_) _), (b2.block _ (by simp)).trans (Boxed.new w1 t4 v4), hz, hz2⟩
  · have := Boxed.new ((w.alloc (.cells #[v1] t1)).alloc (.cells #[v2] t2)) t3 v3
    rw [World.size_alloc, World.size_alloc] at this
    exact this
  · have := Boxed.new (w.alloc (.cells #[v1] t1)) t2 v2
    rw [World.size_alloc] at this
    exact this.alloc _
theorem spOk_lim {x : SpaceD} (h : spOk x = true) : -1 ≤ x.2.2.1 ∧ x.2.2.1 ≤ 99999 := by
  unfold spOk at h
  simp only [Bool.and_eq_true] at h
  exact of_decide_eq_true h.1.1.2
theorem treeOf_yes {l : List SpaceD} (h : spsOk l = true) : treeOf l = l := by unfold treeOf; rw [if_pos h]

set_option maxRecDepth 100000 in
set_option maxHeartbeats 2000000 in
theorem implUseMay_any (a b : Option Addr) (ca cb : Nat) (l : List SpaceD) (u : List UseD) (name : ByteArray) (more : Int) (w : World) (hl : ElS 5 encSpace w a l) (hok : ∀ x ∈ l, OkSpace x) (hu : ElS 2 encUse w b u) :
    Calls Try.prog 23 #[.slice a l.length ca, .slice b u.length cb, .string name, .int .i64 more] w fun e w' => e = .returned (.string (mayO l u name more)) ∧ Below w.heap.size w w' := by
  have HX := Lib.hid hl
  have HY := Lib.hid hu
  have HK := Lib.hid hok
  clear hl hu hok
  cases h0 : spsOk l with
  | false =>
    have H0 := Lib.hid h0
    have HF := Lib.hid (mayO_no (show mayOk l u name more = false by unfold mayOk; rw [h0]; rfl))
    clear h0
    go_enter Try.func23, Try.ntmps23
    go_wp2_with fail
    refine (spaceLink_any a ca l _ (HX.out.below (by repeat (first | exact Below.refl _ _ | (refine Below.alloc ?_ (by first | (simp; done) | (simp; omega)) _) | (refine Below.setCell ?_ (by first | (simp; done) | (simp; omega)) _) | (refine Below.drew ?_)))) HK.out).mono ?_
    rintro e w1 (⟨h, rfl, b1⟩ | ⟨h, a1, c1, nbl, rfl, ht, b1⟩)
    · clear h
      go_wp2_with fail
      refine (find_no name _).mono ?_
      rintro e w2 ⟨rfl, b2⟩
      obtain ⟨B2, br2, -, -, -, -, -⟩ := may_box b1 b2
      have hc3 := br2.cell
      have hf3 := br2.frozen
      have HB := Lib.hid B2
      have HBR := Lib.hid br2
      clear b1 b2 br2 B2
      go_wp2
      have hc5 := (HBR.out.set (.string name)).cell
      exact bodyPost_ret (v := .string name) (by simp [results, Try.results23, go_sem, hc5]) rfl ⟨ret_str HF.out.symm, HB.out.setCell (by simp; omega) _⟩
    · rw [H0.out] at h; cases h
  | true =>
    have H0 := Lib.hid h0
    clear h0
    cases h1 : idxS l name with
    | none =>
      have HF := Lib.hid (mayO_no (show mayOk l u name more = false by unfold mayOk; rw [h1, H0.out]; simp))
      have HI := Lib.hid h1
      clear h1
      go_enter Try.func23, Try.ntmps23
      go_wp2_with fail
      refine (spaceLink_any a ca l _ (HX.out.below (by repeat (first | exact Below.refl _ _ | (refine Below.alloc ?_ (by first | (simp; done) | (simp; omega)) _) | (refine Below.setCell ?_ (by first | (simp; done) | (simp; omega)) _) | (refine Below.drew ?_)))) HK.out).mono ?_
      rintro e w1 (⟨h, rfl, b1⟩ | ⟨h, a1, c1, nbl, rfl, ht, b1⟩)
      · rw [H0.out] at h; cases h
      · clear h
        have HT := Lib.hid ht
        have hln := ht.len
        clear ht
        go_wp2_with fail
        rw [← hln]
        refine (find_any a1 c1 nbl l hln name _ (HT.out.pts.below (below_alloc _ _)) (HT.out.nms.below (below_alloc _ _))).mono ?_
        rintro e w2 ⟨rfl, b2⟩
        rw [HI.out, show adrO nbl none = none from rfl]
        obtain ⟨B2, br2, -, -, -, -, -⟩ := may_box b1 b2
        have hc3 := br2.cell
        have hf3 := br2.frozen
        have HB := Lib.hid B2
        have HBR := Lib.hid br2
        clear b1 b2 br2 B2 HT hln
        go_wp2
        have hc5 := (HBR.out.set (.string name)).cell
        exact bodyPost_ret (v := .string name) (by simp [results, Try.results23, go_sem, hc5]) rfl ⟨ret_str HF.out.symm, HB.out.setCell (by simp; omega) _⟩
    | some i0 =>
      have HI := Lib.hid h1
      clear h1
      refine (callsIn_wide (n := 3)).1 ?_
      refine callsIn_of_wp_marks Try.func23 rfl trivial ?_ rfl
      simp only [Try.ntmps23, List.size_toArray, List.length_cons, List.length_nil, Nat.reduceAdd, Nat.reduceSub, Array.replicate_succ, Array.replicate_zero, List.push_toArray, List.append_toArray, List.nil_append, List.cons_append]
      gi_wp2_with fail
      refine ⟨trivial, ?_⟩
      refine (callsIn_wide.2 (spaceLink_any a ca l _ (HX.out.below (by repeat (first | exact Below.refl _ _ | (refine Below.alloc ?_ (by first | (simp; done) | (simp; omega)) _) | (refine Below.setCell ?_ (by first | (simp; done) | (simp; omega)) _) | (refine Below.drew ?_)))) HK.out)).mono ?_
      rintro e w1 hlp
      obtain ⟨a1, c1, nbl, hln, rfl, ht, b1⟩ := link_uni hlp
      clear hlp
      rw [treeOf_yes H0.out] at hln ht
      have HT := Lib.hid ht
      have HLN := Lib.hid hln
      have H0b := Lib.hid H0.out
      generalize spsOk l = ok0
      have HB1 := Lib.hid b1
      have hi0 : i0 < nbl.length := by rw [hln]; exact idxS_lt HI.out
      obtain ⟨pb, hpb⟩ : ∃ pb, nbl[i0] = pb := ⟨_, rfl⟩
      have HPB := Lib.hid hpb
      have HAD := Lib.hid (show adrO nbl (idxS l name) = some ⟨pb, 0, none⟩ by rw [HI.out, ← hpb]; simp [adrO, hi0])
      clear ht b1 hln hpb
      gi_wp2_with fail
      refine ⟨trivial, ?_⟩
      refine (callsIn_wide.2 (find_any a1 c1 nbl l HLN.out name _ (HT.out.pts.below (below_alloc _ _)) (HT.out.nms.below (below_alloc _ _)))).mono ?_
      rintro e w2 ⟨rfl, b2⟩
      rw [HAD.out]
      obtain ⟨B2, br2, bu2, bm2, bt2, hz1, hz2⟩ := may_box HB1.out b2
      have HB2 := Lib.hid B2
      have HBR2 := Lib.hid br2
      have HBU2 := Lib.hid bu2
      have HBM2 := Lib.hid bm2
      have hc1 := bu2.cell
      have hc2 := bm2.cell
      have hc3 := bt2.cell
      clear B2 br2 bu2 bm2 bt2
      gi_wp2_with fail
      refine ⟨trivial, ?_⟩
      have HT2 := Lib.hid ((HT.out.below (below_alloc w1 (.cells #[.slice a1 nbl.length c1] 78))).below b2)
      refine (callsIn_wide.2 (usesOk_any a1 b c1 cb nbl l HLN.out u _ HT2.out.pts HT2.out.nms (HY.out.below HB2.out))).mono ?_
      rintro e w3 ⟨rfl, b3⟩
      have HB3 := Lib.hid (HB2.out.trans (b3.mono HB2.out.size))
      have br3 : Boxed w3 (w.heap.size + 1 + 1) 9 (.string ⟨#[]⟩) := (b3.block _ (by omega)).trans HBR2.out
      have HBU3 := Lib.hid (show Boxed w3 w.heap.size 37 (.slice b u.length cb) from (b3.block _ (by omega)).trans HBU2.out)
      have bm3 : Boxed w3 (w.heap.size + 1) 3 (.int .i64 more) := (b3.block _ (by omega)).trans HBM2.out
      have HT3 := Lib.hid (HT2.out.below b3)
      have hz3 := b3.size
      have HBR3 := Lib.hid br3
      have HBM3 := Lib.hid bm3
      clear hc1 hc2 hc3 b2 b3 HT HB1
      have hc3 := br3.cell
      have hf3 := br3.frozen
      have hc4 := bm3.cell
      clear br3 bm3
      cases h1 : usesB l u with
      | false =>
        have HF := Lib.hid (mayO_no (show mayOk l u name more = false by unfold mayOk; rw [h1]; simp))
        clear h1
        gi_wp2_with fail
        refine ⟨trivial, ?_⟩
        gi_wp2_with fail
        have hc5 := (HBR3.out.set (.string name)).cell
        refine ⟨.string name, by simp [results, Try.results23, go_sem, hc5], ret_str HF.out.symm, HB3.out.setCell (by simp; omega) _⟩
      | true =>
        have H1 := Lib.hid h1
        clear h1
        gi_wp2_with fail
        refine ⟨trivial, ?_⟩
        refine (callsIn_wide.2 (count_any more 0 _)).mono ?_
        rintro e wq ⟨rfl, hwq⟩
        obtain rfl := hwq
        cases h2 : inB more 0 99999 with
        | false =>
          have HF := Lib.hid (mayO_no (show mayOk l u name more = false by unfold mayOk; rw [h2]; simp))
          clear h2
          gi_wp2_with fail
          have hc5 := (HBR3.out.set (.string name)).cell
          refine ⟨.string name, by simp [results, Try.results23, go_sem, hc5], ret_str HF.out.symm, HB3.out.setCell (by simp; omega) _⟩
        | true =>
          have HF := Lib.hid (mayO_yes (show mayOk l u name more = true by unfold mayOk; rw [H0.out, H1.out, HI.out, h2]; rfl))
          obtain ⟨hm0, hm1⟩ := of_decide_eq_true h2
          clear h2
          gi_wp2_with fail
          refine ⟨trivial, ?_⟩
          refine (callsIn_wide.2 (around_any _ _)).mono ?_
          rintro e w4 ⟨rfl, rfl⟩
          obtain ⟨W0, hW0⟩ : ∃ W0, w3.alloc (.cells #[.pointer (some ⟨pb, 0, none⟩)] 81) = W0 := ⟨_, rfl⟩
          have S0 : W0.heap.size = w3.heap.size + 1 := by rw [← hW0]; simp
          have HB0 := Lib.hid (show Below w.heap.size w W0 by rw [← hW0]; exact HB3.out.alloc HB3.out.size _)
          have HBR0 := Lib.hid (show Boxed W0 (w.heap.size + 1 + 1) 9 (.string ⟨#[]⟩) by rw [← hW0]; exact HBR3.out.alloc _)
          have HBU0 := Lib.hid (show Boxed W0 w.heap.size 37 (.slice b u.length cb) by rw [← hW0]; exact HBU3.out.alloc _)
          have HBM0 := Lib.hid (show Boxed W0 (w.heap.size + 1) 3 (.int .i64 more) by rw [← hW0]; exact HBM3.out.alloc _)
          have HT0 := Lib.hid (show TreeS W0 (w.heap.size + 1 + 1 + 1) a1 nbl l by rw [← hW0]; have := HT3.out.below (below_alloc w3 (.cells #[.pointer (some ⟨pb, 0, none⟩)] 81)); simpa using this)
          obtain ⟨o, ho⟩ : ∃ o : Option (Fin nbl.length), some ⟨i0, hi0⟩ = o := ⟨_, rfl⟩
          have HCP := Lib.hid (show W0.cell? ⟨w3.heap.size, 0, none⟩ = some (.pointer (adrN nbl o)) by
            rw [← hW0, ← ho, show adrN nbl (some ⟨i0, hi0⟩) = some ⟨nbl[i0], 0, none⟩ from rfl, HPB.out]
            exact (Boxed.new w3 _ _).cell)
          have HE := Lib.hid (show after (nxF l nbl.length) o l.length = none by
            have := end_fin HLN.out H0b.out name
            rw [HI.out] at this
            rw [← ho]
            simpa [finO, hi0] using this)
          have HR := Lib.hid (show ansF l u more nbl.length (trail (nxF l nbl.length) o l.length) = mayN l u name more by
            have := may_names HLN.out H0b.out u name more
            rw [HI.out] at this
            rw [← ho]
            simpa [finO, hi0] using this)
          rw [hW0]
          clear hW0 ho hc3 hf3 hc4
          gi_wp2_with fail
          obtain ⟨T, hT⟩ : ∃ T : Nat → Prop, T = fun b => b = w.heap.size + 1 + 1 ∨ w3.heap.size + 1 ≤ b := ⟨_, rfl⟩
          have hTB : ∀ b, W0.heap.size ≤ b → T b := fun b hb => by rw [hT]; exact .inr (by omega)
          obtain ⟨hit, hhit⟩ : ∃ hit, hitF l u more nbl.length = hit := ⟨_, rfl⟩
          have HHIT := Lib.hid hhit
          obtain ⟨ans, hans⟩ : ∃ ans, ansF l u more nbl.length = ans := ⟨_, rfl⟩
          have HANS := Lib.hid hans
          have HIV := myE_own (w.heap.size + 1 + 1) W0 T hit W0.heap.size hTB
          have HIX := myX_own (w.heap.size + 1 + 1) W0 T ans hit W0.heap.size hTB
          have HN0 := Lib.hid (nodesS_of HLN.out HT0.out.nod)
          have HLB := Lib.hid (show ∀ b ∈ nbl, w.heap.size + 1 + 1 < b ∧ b < w2.heap.size from fun b hb => by
            obtain ⟨i, hi, rfl⟩ := List.mem_iff_getElem.1 hb
            exact ⟨by have := HT0.out.blk _ (List.getElem_mem hi); omega, Box.lt (HT2.out.nod i hi)⟩)
          have HTb := Lib.hid (show ∀ i : Fin nbl.length, ¬ T nbl[i] from fun i => by
            have h1 := HLB.out nbl[i] (List.getElem_mem _)
            rw [hT]
            omega)
          have HTr := Lib.hid (show T (w.heap.size + 1 + 1) by rw [hT]; exact .inl rfl)
          have HTw := Lib.hid (show ∀ b, T b → w.heap.size ≤ b from fun b hb => by rw [hT] at hb; omega)
          have HTn := Lib.hid (show ∀ b, b ≤ w.heap.size + 1 → ¬ T b from fun b hb => by rw [hT]; omega)
          clear hT hhit hans
          refine wpIn_rangeFunc_ownH (F := Fence.wide) (n := 3) rfl (by omega) (gf := 97) (lb := #[.pointer (some ⟨w3.heap.size, 0, none⟩)]) rfl trivial (enters_of Try.func97 (by kernel_rfl) rfl)
            (around_stops 2 (by omega) nbl (nxF l nbl.length) o w3.heap.size T HTb.out l.length HE.out W0 HCP.out HN0.out.over)
            KeptOut.trans (fun W k o o' hk h _ _ => (kept_of_grown (grownBy_putObj' W k o')).mono (fun j _ e => hTB j (by cases e; omega))) (Below.refl _ _) (fun _ => rfl)
            (MyE (w.heap.size + 1 + 1) W0 T hit) (fun cd s W => cd = .ret ∧ MyX (w.heap.size + 1 + 1) W0 T ans hit s W)
            HIV (fun cd s A B row hs hg hr => ⟨hs.1, HIX s A B row hs.2 hg hr⟩) ⟨HBR0.out, KeptOut.refl _ _, rfl⟩
            (fun y a' W => a' = { tmps := #[.slice a l.length ca, .slice b u.length cb, .string name, .int .i64 more, undef, .pointer (some ⟨w.heap.size, 0, none⟩), undef, .pointer (some ⟨w.heap.size + 1, 0, none⟩), .pointer (some ⟨w.heap.size + 1 + 1, 0, none⟩), .pointer (some ⟨w1.heap.size, 0, none⟩), .bool ok0, .pointer (some ⟨pb, 0, none⟩), .pointer (some ⟨nbl[y], 0, none⟩), undef, .tuple #[.agg #[.slice a1 nbl.length c1], .bool ok0], .slice a l.length ca, .tuple #[.agg #[.slice a1 nbl.length c1], .bool ok0], .agg #[.slice a1 nbl.length c1], .bool ok0, .agg #[.slice a1 nbl.length c1], .string name, .pointer (some ⟨pb, 0, none⟩), .pointer (some ⟨pb, 0, none⟩), .bool false, .bool false, .agg #[.slice a1 nbl.length c1], .slice b u.length cb, .bool true, .bool false, .bool false, .bool false, .int .i64 more, .bool true, .bool false, .bool false, undef, .pointer (some ⟨pb, 0, none⟩), .func (.func 97) #[] #[.pointer (some ⟨w3.heap.size, 0, none⟩)], .pointer (some ⟨nbl[y], 0, none⟩), undef, undef, undef, undef, undef, undef, undef, undef, undef, undef, undef, undef, undef, undef, undef, undef, undef, undef, undef, undef, undef, undef, undef, undef, undef, undef], defers := [] })
            (fun x a' s A B row hs hg hr => hs) ?assign ?body ?done ?stop
          case assign =>
            rintro lp s y W K hi hK
            simp only [encN]
            gi_wp2
            exact hK _ _ (KeepsFrom.refl _ _) (KeptOut.refl _ _) hi rfl
          case body =>
            rintro lp s y a' W hlp ⟨r, hr⟩ ⟨hbr, hkp, hany⟩ rfl hlt
            have hyl : y.val < l.length := by rw [← HLN.out]; exact y.2
            obtain ⟨hub, hul, -⟩ := usesB_ub H1.out
            have hyu : y.val < u.length := by rw [hul]; exact hyl
            have HH := Lib.hid (show hit y = (decide (0 ≤ l[y.val].2.2.1) && decide (l[y.val].2.2.1 < u[y.val].2 + more)) by rw [← HHIT.out]; exact hit_at H0b.out H1.out y hyl hyu)
            obtain ⟨hu0, hu1⟩ := hub _ (List.getElem_mem hyu)
            obtain ⟨hlm0, hlm1⟩ := spOk_lim (line_ok (sps_len H0b.out).2.2 hyl)
            have HBR := Lib.hid hbr
            have HKP := Lib.hid hkp
            have HAN := Lib.hid hany
            have hc3 := hbr.cell
            have hf3 := hbr.frozen
            have nd : ∀ j v, (nodV l y.val (adrO nbl (nxS l y.val)))[j]? = some v → W.cell? ⟨nbl[y], j, none⟩ = some v := fun j v hv =>
              (hkp.cell (p := ⟨nbl[y], j, none⟩) (HN0.out.lt y) (HTb.out y)).trans (HT0.out.nod y.val y.2 j v hv).1
            rw [nodV_at hyl] at nd
            have hc6 := nd 0 _ rfl
            have hc7 := nd 2 _ rfl
            have hc8 := nd 5 _ rfl
            have hc9 := (hkp.cell (p := ⟨w.heap.size, 0, none⟩) HBU0.out.lt (HTn.out _ (by simp))).trans HBU0.out.cell
            have hc10 := (hkp.cell (p := ⟨w.heap.size + 1, 0, none⟩) HBM0.out.lt (HTn.out _ (by simp))).trans HBM0.out.cell
            obtain ⟨b2, o2, rfl, hcu⟩ := HY.out.2.resolve_left (fun e => by rw [e] at hyu; simp at hyu)
            have hcu1 := hcu y.val hyu 1 (.int .i64 u[y.val].2) rfl
            have hb2 : b2 < w.heap.size := by have := World.block_lt_of_cell? w _ hcu1; simpa using this
            have hc11 : W.cell? ⟨b2, o2 + y.val * 2 + 1, none⟩ = some (.int .i64 u[y.val].2) :=
              (hkp.cell (p := ⟨b2, o2 + y.val * 2 + 1, none⟩) (by show b2 < W0.heap.size; have := HB0.out.size; omega) (HTn.out _ (by show b2 ≤ _; omega))).trans ((HB0.out.cell (p := ⟨b2, o2 + y.val * 2 + 1, none⟩) hb2).trans hcu1)
            have hym : (0 : Int) ≤ (y.val : Int) := by omega
            have hyn : (y.val : Int) < (u.length : Int) := by omega
            have HNM := Lib.hid (show nmF l nbl.length y = l[y.val].1 from nmS_at hyl)
            clear hbr hkp hany nd hcu hcu1 hub hul hb2
            generalize nbl[y] = by_ at hc6 hc7 hc8 ⊢
            by_cases g0 : 0 ≤ l[y.val].2.2.1
            · have g1 : (l[y.val].2.2.1 != -1) = true := by rw [bne_iff_ne]; omega
              by_cases g2 : l[y.val].2.2.1 < u[y.val].2 + more
              · have HX1 := Lib.hid (show hit y = true by rw [HH.out, decide_eq_true g0, decide_eq_true g2]; rfl)
                have g3 : decide (l[y.val].2.2.1 < u[y.val].2 + more) = true := decide_eq_true g2
                gi_wp2_with fail
                refine wpIn_region_quiet_round (by kernel_rfl) (by kernel_rfl) (by kernel_rfl) (fun a w h => h) ?_
                repeat (go_big_quiet_step (fail))
                refine wpQuiet_nil ?_
                intro _ hw'
                obtain ⟨nq, hw''⟩ := hw'
                subst hw''
                gi_wp2_with fail
                have HAS := Lib.hid (show ans (s ++ [y]) = l[y.val].1 by rw [← HANS.out, ans_snoc (r := []) (by rw [HHIT.out]; exact HAN.out) (by rw [HHIT.out]; exact HX1.out), HNM.out])
                have hbz : Boxed (W.drewN nq) (w.heap.size + 1 + 1) 9 (.string ⟨#[]⟩) := HBR.out
                refine ⟨⟨((KeepsOthers.setCell W _ _).from W0.heap.size).size, ((KeepsOthers.setCell W _ _).from W0.heap.size).same⟩, rfl, ?_, (HKP.out.trans (.of_below (below_drewN (Below.refl _ _) nq))).setCell (p := ⟨w.heap.size + 1 + 1, 0, none⟩) HTr.out _, ⟨s, y, rfl, HAN.out, HX1.out⟩⟩
                rw [HAS.out]
                exact hbz.set _
              · have HX1 := Lib.hid (show hit y = false by rw [HH.out, decide_eq_true g0, decide_eq_false g2]; rfl)
                have g3 : decide (l[y.val].2.2.1 < u[y.val].2 + more) = false := decide_eq_false g2
                gi_wp2_with fail
                refine wpIn_region_quiet_round (by kernel_rfl) (by kernel_rfl) (by kernel_rfl) (fun a w h => h) ?_
                repeat (go_big_quiet_step (fail))
                refine wpQuiet_nil ?_
                intro _ hw'
                obtain ⟨nq, hw''⟩ := hw'
                subst hw''
                gi_wp2_with fail
                exact ⟨⟨(KeepsFrom.refl W0.heap.size W).size, (KeepsFrom.refl W0.heap.size W).same⟩, .of_below (below_drewN (Below.refl _ _) nq), HBR.out, HKP.out.trans (.of_below (below_drewN (Below.refl _ _) nq)), by rw [List.any_append, HAN.out]; simp [HX1.out]⟩
            · have g1 : (l[y.val].2.2.1 != -1) = false := by rw [bne_eq_false_iff_eq]; omega
              have HX1 := Lib.hid (show hit y = false by rw [HH.out, decide_eq_false g0]; rfl)
              gi_wp2_with fail
              refine wpIn_region_quiet_round (by kernel_rfl) (by kernel_rfl) (by kernel_rfl) (fun a w h => h) ?_
              repeat (go_big_quiet_step (fail))
              refine wpQuiet_nil ?_
              intro _ hw'
              obtain ⟨nq, hw''⟩ := hw'
              subst hw''
              gi_wp2_with fail
              exact ⟨⟨(KeepsFrom.refl W0.heap.size W).size, (KeepsFrom.refl W0.heap.size W).same⟩, .of_below (below_drewN (Below.refl _ _) nq), HBR.out, HKP.out.trans (.of_below (below_drewN (Below.refl _ _) nq)), by rw [List.any_append, HAN.out]; simp [HX1.out]⟩
          case done =>
            rintro D ys W hD ⟨k, hk, hend⟩ ⟨hbr, hkp, hany⟩ hK
            have hc3 := hbr.cell
            have hf3 := hbr.frozen
            have HBR := Lib.hid hbr
            have HRR := Lib.hid (show mayO l u name more = ⟨#[]⟩ by
              rw [HF.out, ← HR.out]
              have e1 := trail_end hend (Nat.le_max_left k l.length)
              have e2 := trail_end HE.out (Nat.le_max_right k l.length)
              rw [← e2.1, e1.1, ← hk, ans_none (by rw [HHIT.out]; exact hany)])
            have HBB := Lib.hid (hkp.below HB0.out HB0.out.size HTw.out)
            clear hbr hkp
            have hDw : D ≠ w.heap.size + 1 + 1 := by omega
            have hK2 : (W.setCell ⟨w.heap.size + 1 + 1, 0, none⟩ (.string ⟨#[]⟩)).heap[D]? = some (.deferred (some [])) := (Below.heap_setCell _ _ _ _ (by show D ≠ w.heap.size + 1 + 1; exact hDw)).trans hK
            have hc5 := ((HBR.out.set (.string ⟨#[]⟩)).kept (grownBy_putObj' _ D (.deferred none)) (by simp; omega)).cell
            gi_wp2
            refine ⟨by simp, .inl ⟨_, _, rfl, run_takeDeferred hK2, ?_⟩⟩
            refine ⟨.string ⟨#[]⟩, by simp [results, Try.results23, go_sem, hc5], by rw [HRR.out], ?_⟩
            exact (HBB.out.setCell (p := ⟨w.heap.size + 1 + 1, 0, none⟩) (by show w.heap.size ≤ w.heap.size + 1 + 1; omega) _).trans (belowK_b (w := w) (Nat.le_refl _) _ D _ _ (by omega) hK2 rfl rfl)
          case stop =>
            rintro D cd s W hD hSp ⟨rfl, hbr, hkp, t, y, e, hany, hy⟩ hK
            have hc3 := hbr.cell
            have HRR := Lib.hid (show mayO l u name more = ans s by
              rw [HF.out, ← HR.out]
              have e2 := trail_end HE.out (Nat.le_max_right s.length l.length)
              obtain ⟨r, hr⟩ := trail_more (nx := nxF l nbl.length) (Nat.le_max_left s.length l.length) o
              rw [← e2.1, hr, ← hSp, ← HANS.out, e, List.append_assoc, List.singleton_append, ans_snoc (by rw [HHIT.out]; exact hany) (by rw [HHIT.out]; exact hy), ans_snoc (by rw [HHIT.out]; exact hany) (by rw [HHIT.out]; exact hy)])
            have HBB := Lib.hid (hkp.below HB0.out HB0.out.size HTw.out)
            have HBR := Lib.hid hbr
            generalize ans s = x at *
            clear hbr hkp hSp
            have hc5 := (HBR.out.kept (grownBy_putObj' _ D (.deferred none)) (by simp; omega)).cell
            gi_wp2
            refine ⟨by simp, .inl ⟨_, _, rfl, run_takeDeferred hK, ?_⟩⟩
            refine ⟨.string x, by simp [results, Try.results23, go_sem, hc5], by rw [HRR.out], ?_⟩
            exact HBB.out.trans (belowK_b (w := w) (Nat.le_refl _) _ D _ _ (by omega) hK rfl rfl)
end Go.Proofs.Ytlaehhdbagiciab
