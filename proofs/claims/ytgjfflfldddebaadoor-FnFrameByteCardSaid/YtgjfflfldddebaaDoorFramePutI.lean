import Derived.Test.YtgjfflfldddebaaDoorFrameB
import Derived.RangeFuncNested
/- FramePut of the program. -/
namespace Go.Proofs.YtgjfflfldddebaaDoor
open Go Go.RowKit Go.Shelf

attribute [local go_sem] Oper.semAt_some

theorem blocks_stops (n : Nat) (hn : 1 ≤ n) (Bx Bt Bn : Nat) (t m : Nat) (ht : t < 100000000) (hm : m < 100000000) (x : ByteArray) (hx : x.size ≤ 2000) (T : Nat → Prop) (hTx : ¬ T Bx) (hTt : ¬ T Bt) (hTn : ¬ T Bn) (hTT : OffTabs T) (w : World)
    (hBx : w.cell? ⟨Bx, 0, none⟩ = some (.string x)) (hBt : w.cell? ⟨Bt, 0, none⟩ = some (.int .i64 t)) (hBn : w.cell? ⟨Bn, 0, none⟩ = some (.int .i64 m)) (hTab : FrT w) :
    SeqStopsK Fence.wide n Tryd.prog 48 #[.pointer (some ⟨Bx, 0, none⟩), .pointer (some ⟨Bt, 0, none⟩), .pointer (some ⟨Bn, 0, none⟩)] encStr (KeptOut T) (fun ys => ys = putB t m x) (fun pre => pre <+: putB t m x) (partsN x.size) w := fun lp J Jx W hW hJ _ hY h0 => by
  have cell : ∀ {p : Addr} {v : Value}, w.cell? p = some v → W.cell? p = some v := fun {p v} h => by
    rw [hW.cell (World.block_lt_of_cell? w _ h)]; exact h
  exact blocks1_in n hn lp Bx Bt Bn t m ht hm x hx T hTx hTt hTn hTT J Jx hY W hJ (cell hBx) (cell hBt) (cell hBn) (hTab.below hW) h0

set_option maxRecDepth 100000 in
set_option maxHeartbeats 1000000 in
theorem blocksMk_any (t m : Int) (x : ByteArray) (w : World) :
    Calls Tryd.prog 29 #[.int .i64 t, .int .i64 m, .string x] w fun e w' => e = .returned (.func (.func 48) #[] #[.pointer (some ⟨w.heap.size + 2, 0, none⟩), .pointer (some ⟨w.heap.size, 0, none⟩), .pointer (some ⟨w.heap.size + 1, 0, none⟩)]) ∧ w' = ((w.alloc (.cells #[.int .i64 t] 3)).alloc (.cells #[.int .i64 m] 3)).alloc (.cells #[.string x] 9) := by
  go_enter Tryd.func29, Tryd.ntmps29
  go_wp2
  go_ret
  exact ⟨by simp, rfl⟩

/-- the three boxes of the iterator, as they lie -/
theorem boxes_three (w : World) (t m : Int) (x : ByteArray) (ti ts : TypeId) :
    ∃ W0, ((w.alloc (.cells #[.int .i64 t] ti)).alloc (.cells #[.int .i64 m] ti)).alloc (.cells #[.string x] ts) = W0 ∧ Below w.heap.size w W0 ∧ W0.heap.size = w.heap.size + 3 ∧
      W0.cell? ⟨w.heap.size, 0, none⟩ = some (.int .i64 t) ∧ W0.cell? ⟨w.heap.size + 1, 0, none⟩ = some (.int .i64 m) ∧ W0.cell? ⟨w.heap.size + 2, 0, none⟩ = some (.string x) := by
  refine ⟨_, rfl, (((Below.refl _ _).alloc (Nat.le_refl _) _).alloc (by simp) _).alloc (by simp; omega) _, by simp, ?_, ?_, ?_⟩
  · exact ((((Box.alloc w #[.int .i64 t] ti).below (below_alloc _ _)).below (below_alloc _ _)) 0 _ rfl).1
  · have := (((Box.alloc (w.alloc (.cells #[.int .i64 t] ti)) #[.int .i64 m] ti).below (below_alloc _ (.cells #[.string x] ts))) 0 _ rfl).1
    rwa [World.size_alloc] at this
  · have := ((Box.alloc ((w.alloc (.cells #[.int .i64 t] ti)).alloc (.cells #[.int .i64 m] ti)) #[.string x] ts) 0 _ rfl).1
    rwa [World.size_alloc, World.size_alloc] at this

/-- between two rounds -/
def InvF (w : World) (Bs P n2 : Nat) (s : List ByteArray) (W : World) : Prop :=
  (∃ v, Boxed W Bs 25 v ∧ W.ownsRow w.heap.size 9 1 v s.length (s.map .string) ∧ v = .slice (some ⟨w.heap.size, 0, none⟩) s.length P) ∧ Below w.heap.size w W ∧ n2 ≤ W.heap.size
theorem invF_own (w : World) (Bs P n2 B : Nat) (hB : w.heap.size ≤ B) : OwnFrom B (InvF w Bs P n2) :=
  OwnFrom.and (Own.from (holdsRow_own (β := List ByteArray) w.heap.size Bs 25 9 1 (fun s => s.length) (fun s => s.map .string) (fun s v => v = .slice (some ⟨w.heap.size, 0, none⟩) s.length P)) _)
    (OwnFrom.and (ownFrom_below (Nat.le_refl _) hB) (fun _ _ _ _ hs hg _ => Nat.le_trans hs hg.size))
theorem cellsNewS (w : World) (x : ByteArray) (e : TypeId) : ∀ j u, ([.string x] : List Value)[j]? = some u → (w.alloc (.cells #[.string x] e)).cell? ((⟨w.heap.size, 0, none⟩ : Addr).add j) = some u := cells_oneS w (.string x) e

set_option maxRecDepth 100000 in
set_option maxHeartbeats 2000000 in
theorem implFramePut_any (t m : Int) (x : ByteArray) (hx : x.size ≤ maxLen) (w : World) (hTab : FrT w) :
    Calls Tryd.prog 8 #[.int .i64 t, .int .i64 m, .string x] w (OutS w (putI t m x)) := by
  obtain ⟨i0, hi, hz0, hz1, hz2⟩ := info_parts infoStrF
  have HTab := Lib.hid hTab
  have hxl := hx
  unfold maxLen at hxl
  clear hTab
  refine (callsIn_wide (n := 3)).1 ?_
  refine callsIn_of_wp_marks Tryd.func8 rfl trivial ?_ rfl
  simp only [Tryd.ntmps8, List.size_toArray, List.length_cons, List.length_nil, Nat.reduceAdd, Nat.reduceSub, Array.replicate_succ, Array.replicate_zero, List.push_toArray, List.append_toArray, List.nil_append, List.cons_append]
  cases h : frameOkB t m x with
  | false =>
    rw [putI_no h]
    have H := Lib.hid h
    clear h
    gi_wp2_with (refine ⟨trivial, ?_⟩; gi_at_call 27; refine (callsIn_wide.2 (frameOk_any t m x hx _)).mono ?_; rintro e w1 ⟨rfl, rfl⟩; rw [H.out])
    exact ⟨_, results_tmp rfl _ _ _, _, rfl, World.ownsRow_nil _ _ _ _, Below.refl _ _⟩
  | true =>
    rw [putI_yes h]
    have H := Lib.hid h
    simp only [frameOkB, inB, Bool.and_eq_true, decide_eq_true_eq] at h
    obtain ⟨⟨⟨h1, h2⟩, h3, h4⟩, h5⟩ := h
    obtain ⟨t, rfl⟩ := Int.eq_ofNat_of_zero_le h1
    obtain ⟨m, rfl⟩ := Int.eq_ofNat_of_zero_le h3
    simp only [Int.toNat_natCast] at h1 h2 h3 h4 H ⊢
    obtain ⟨P, hP⟩ : ∃ P, P = partsN x.size := ⟨_, rfl⟩
    have hP1 : 1 ≤ P := by rw [hP]; exact parts_pos _
    have hP15 : P ≤ 15 := by rw [hP]; exact parts_le h5
    have HP := Lib.hid hP
    have HL := Lib.hid (show (putB t m x).length = P by rw [putB_len, ← hP])
    clear hP
    gi_wp2_with (first
      | (refine ⟨trivial, ?_⟩; gi_at_call 27; refine (callsIn_wide.2 (frameOk_any t m x hx _)).mono ?_; rintro e w1 ⟨rfl, rfl⟩; rw [H.out])
      | (refine ⟨trivial, ?_⟩; gi_at_call 28; refine (callsIn_wide.2 (frameParts_any x.size (by omega) _)).mono ?_; rintro e w1 ⟨rfl, rfl⟩; rw [← HP.out])
      | (gi_at_make; refine wpListIn_make_own _ rfl _ _ 25 rfl w.heap.size 9 i0 (.string ⟨#[]⟩) 1 Tryd.underlying25 hi hz0 hz1 .i64 .i64 (P : Int) P rfl rfl rfl (by rw [hz2]; omega) (by unfold maxLen; omega) (Nat.le_refl _) ?_; intro w1 hown hgrow; have HO := Lib.hid hown; have HG := Lib.hid hgrow; have zg := hgrow.size; clear hown hgrow)
      | fail)
    refine ⟨trivial, ?_⟩
    refine (callsIn_wide.2 (blocksMk_any t m x _)).mono ?_
    rintro e w3 ⟨rfl, rfl⟩
    rw [World.size_alloc]
    obtain ⟨W1, hW1⟩ : ∃ W1, w1.alloc (.cells #[.slice (some ⟨w.heap.size, 0, none⟩) 0 P] 25) = W1 := ⟨_, rfl⟩
    have S1 : W1.heap.size = w1.heap.size + 1 := by rw [← hW1, World.size_alloc]
    have zo : w.heap.size < w1.heap.size := (HO.out.lt _ rfl).2
    have B1 : Below w.heap.size w W1 := by rw [← hW1]; exact (below_of_grown HG.out).alloc (by omega) _
    have bs : Boxed W1 w1.heap.size 25 (.slice (some ⟨w.heap.size, 0, none⟩) 0 P) := by rw [← hW1]; exact Boxed.new w1 25 _
    have ho1 : W1.ownsRow w.heap.size 9 1 (.slice (some ⟨w.heap.size, 0, none⟩) 0 P) 0 [] := by rw [← hW1]; exact HO.out.alloc _
    rw [hW1]
    obtain ⟨W0, hW0, A0, S0, ct, cn, cx⟩ := boxes_three W1 t m x 3 9
    rw [hW0]
    simp only [S1] at ct cn cx S0 A0 ⊢
    have B0 : Below w.heap.size w W0 := B1.trans (A0.mono (by omega))
    have bs0 : Boxed W0 w1.heap.size 25 (.slice (some ⟨w.heap.size, 0, none⟩) 0 P) := (A0.block w1.heap.size (by omega)).trans bs
    have ho0 : W0.ownsRow w.heap.size 9 1 (.slice (some ⟨w.heap.size, 0, none⟩) 0 P) 0 [] := own_below ho1 (by rw [S1]; exact A0)
    have tl := HTab.out.lt
    have hTT : OffTabs (fun b => b = w.heap.size ∨ b = w1.heap.size ∨ w1.heap.size + 4 ≤ b) := ⟨by omega, by omega, by omega⟩
    have HT0 := Lib.hid (HTab.out.below B0)
    have HI := invF_own w w1.heap.size P (w1.heap.size + 4) W0.heap.size (by omega)
    have HTT := Lib.hid hTT
    clear hTT hW0 hW1
    gi_wp2_with fail
    refine wpIn_rangeFunc_ownH (F := Fence.wide) (n := 3) rfl (by omega) (gf := 48) (lb := #[.pointer (some ⟨w1.heap.size + 1 + 2, 0, none⟩), .pointer (some ⟨w1.heap.size + 1, 0, none⟩), .pointer (some ⟨w1.heap.size + 1 + 1, 0, none⟩)]) rfl trivial (enters_of Tryd.func48 (by kernel_rfl) rfl)
      (blocks_stops 2 (by omega) (w1.heap.size + 1 + 2) (w1.heap.size + 1) (w1.heap.size + 1 + 1) t m (by omega) (by omega) x h5 (fun b => b = w.heap.size ∨ b = w1.heap.size ∨ w1.heap.size + 4 ≤ b) (by omega) (by omega) (by omega) HTT.out W0 cx ct cn HT0.out)
      KeptOut.trans (fun W k o o' hk h _ _ => (kept_of_grown (grownBy_putObj' W k o')).mono (fun j _ e => .inr (.inr (by cases e; omega)))) (Below.refl _ _) (fun _ => rfl)
      (InvF w w1.heap.size P (w1.heap.size + 4)) (fun c s W => False)
      HI (fun c s A B row hs hg hr => hs)
      ⟨⟨_, bs0, ho0, rfl⟩, B0, by omega⟩
      (fun y a' W => a' = { tmps := #[.int .i64 t, .int .i64 m, .string x, undef, undef, undef, .slice none 0 0, .pointer (some ⟨w1.heap.size, 0, none⟩), .string y, .int .i64 t, .int .i64 m, .string x, .bool true, .bool false, .string x, .int .i64 x.size, .int .i64 P, .slice (some ⟨w.heap.size, 0, none⟩) 0 P, .int .i64 t, .int .i64 m, .string x, .func (.func 48) #[] #[.pointer (some ⟨w1.heap.size + 1 + 2, 0, none⟩), .pointer (some ⟨w1.heap.size + 1, 0, none⟩), .pointer (some ⟨w1.heap.size + 1 + 1, 0, none⟩)], .string y, undef, undef, undef, undef, undef], defers := [] })
      (fun x a' s A B row hs hg hr => hs) ?assign ?body ?done ?stop
    case assign =>
      rintro lp s y W K hi hK
      simp only [encStr]
      gi_wp2
      exact hK _ _ (KeepsFrom.refl _ _) (KeptOut.refl _ _) hi rfl
    case body =>
      rintro lp s y a' W hlp ⟨r, hr⟩ ⟨⟨v, hv, hrow, rfl⟩, hB, hsz⟩ rfl hlt
      have hc := hv.cell
      rw [← HP.out] at hlt
      have HRW := Lib.hid hrow
      have HVV := Lib.hid hv
      have HBB := Lib.hid hB
      have zb := hB.size
      clear hrow hv hB
      gi_wp2_with (gi_at_builtin; refine wpListIn_append_fits _ rfl _ _ 25 rfl w.heap.size 9 i0 1 Tryd.underlying25 hi hz1 w.heap.size s.length P _ rfl (HRW.out.alloc _) ⟨W.heap.size, 0, none⟩ 1 1 [.string y] rfl rfl (cellsNewS _ _ _) (fun u hu => by simp at hu; subst hu; rfl) (by omega) ?_; intro w5 hown' hgrow; obtain ⟨hv1, hv2, _, hk2, hb2⟩ := HVV.out.appended (by decide) HRW.out zb (by omega) hown' hgrow; have hr2 := hown'.kept (grownBy_setCell' w5 w1.heap.size (.slice (some ⟨w.heap.size, 0, none⟩) (s.length + 1) P)) (.inr (hv1.not_row (by decide) hown').symm); have hc1 := hv1.cell; have hf1 := hv1.frozen)
      have KK : KeptOut (fun b => b = w.heap.size ∨ b = w1.heap.size ∨ w1.heap.size + 4 ≤ b) W (w5.setCell ⟨w1.heap.size, 0, none⟩ (.slice (some ⟨w.heap.size, 0, none⟩) (s.length + 1) P)) := (((KeptOut.refl (fun b => b = w.heap.size ∨ b = w1.heap.size ∨ w1.heap.size + 4 ≤ b) W).alloc _).trans ((kept_of_grown hgrow).mono (fun j _ e => .inl (Option.some.inj e).symm))).setCell (p := ⟨w1.heap.size, 0, none⟩) (.inr (.inl rfl)) _
      exact ⟨hk2.from _, KK, ⟨_, hv2, by rw [List.length_append, List.map_append]; exact hr2, by simp⟩, HBB.out.trans hb2, Nat.le_trans hsz KK.size⟩
    case done =>
      rintro D ys W hD rfl ⟨⟨v, hv, hrow, rfl⟩, hB, hsz⟩ hK
      have hc := hv.cell
      have HRW := Lib.hid hrow
      have HBB := Lib.hid hB
      rw [HL.out] at hc
      clear hrow hv hB
      gi_wp2
      refine ⟨by simp, .inl ⟨_, _, rfl, run_takeDeferred hK, ?_⟩⟩
      refine ⟨_, results_tmp rfl _ _ _, _, rfl, ?_, HBB.out.trans (belowK_b (w := w) (Nat.le_refl _) W D _ _ (by omega) hK rfl rfl)⟩
      have := ownsRow_putObj HRW.out (.deferred none) hK rfl
      rw [HL.out] at this ⊢
      exact this
    case stop =>
      rintro D c s W hD hSp hf hK
      exact hf.elim
end Go.Proofs.YtgjfflfldddebaaDoor
