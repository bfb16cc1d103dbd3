import Derived.Test.YtbdicaanniffpaaScanI
import Derived.RangeFuncNested
/- MemScan of the program. -/
namespace Go.Proofs.Ytbdicaanniffpaa
open Go Go.RowKit Go.Shelf

attribute [local go_sem] Oper.semAt_some

set_option maxRecDepth 100000 in
set_option maxHeartbeats 1000000 in
theorem seen1_nil (F : Fence) (n : Nat) (hfn : F.fn 58) (hro : F.round = none) (lp Bl Bq c : Nat) (a : Option Addr) (J : List EntryD → World → Prop) (W : World)
    (hBl : W.cell? ⟨Bl, 0, none⟩ = some (.slice a 0 c)) (h0 : J [] W) :
    CallsIn F n Try.prog 58 #[.func (.yield lp) #[] #[], .pointer (some ⟨Bl, 0, none⟩), .pointer (some ⟨Bq, 0, none⟩)] W fun e W' => (∃ v, e = .returned v) ∧ J [] W' := by
  refine callsIn_of_wp Try.func58 rfl hfn ?_ hro
  simp only [Try.ntmps58, List.size_toArray, List.length_cons, List.length_nil, Nat.reduceAdd, Nat.reduceSub, Array.replicate_succ, Array.replicate_zero, List.push_toArray, List.append_toArray, List.nil_append, List.cons_append]
  gi_wp2
  gi_loopw [9] (fun i wr => i = .int .i64 0 ∧ J [] wr) (fun _ _ => 0)
  case atStart => exact ⟨rfl, h0⟩
  case round =>
    obtain ⟨rfl, hJs⟩ := hrel
    gi_wp2
    go_end0
    exact ⟨⟨_, rfl⟩, hJs⟩

theorem seen_stops (F : Fence) (n : Nat) (hfn : F.fn 58) (hro : F.round = none) (hn : 1 ≤ n) (Bl Bq c : Nat) (a : Option Addr) (l : List EntryD) (seq : Int) (hlen : l.length ≤ 240) (T : Nat → Prop) (hTb : l ≠ [] → ∀ k, a.map Addr.block = some k → ¬ T k) (hTq : ¬ T Bq) (w : World)
    (hBl : w.cell? ⟨Bl, 0, none⟩ = some (.slice a l.length c)) (hBq : w.cell? ⟨Bq, 0, none⟩ = some (.int .i64 seq)) (hl : ElS 4 encEntry w a l) :
    SeqStopsK F n Try.prog 58 #[.pointer (some ⟨Bl, 0, none⟩), .pointer (some ⟨Bq, 0, none⟩)] encA (KeptOut T) (fun ys => ys = seenR seq ⟨#[]⟩ l) (fun pre => pre <+: seenR seq ⟨#[]⟩ l) l.length w := fun lp J Jx W hW hJ _ hY h0 => by
  have cell : ∀ {p : Addr} {v : Value}, w.cell? p = some v → W.cell? p = some v := fun {p v} h => by
    rw [hW.cell (World.block_lt_of_cell? w _ h)]; exact h
  by_cases h0l : l = []
  · subst h0l
    exact (seen1_nil F n hfn hro lp Bl Bq c a J W (cell hBl) h0).mono fun e W' ⟨he, hj⟩ => ⟨he, .inl ⟨_, rfl, hj⟩⟩
  · obtain ⟨ba, oa, rfl, hc⟩ := hl.2.resolve_left h0l
    exact seen1_in F n hfn hro hn lp Bl Bq ba oa c l seq hlen T (hTb h0l ba rfl) hTq J Jx hY W hJ (cell hBl) (cell hBq) (fun j hj i v hv => cell (hc j hj i v hv)) h0

set_option maxRecDepth 100000 in
set_option maxHeartbeats 1000000 in
theorem seenMk_any (a : Option Addr) (k c : Nat) (seq : Int) (w : World) :
    Calls Try.prog 42 #[.slice a k c, .int .i64 seq] w fun e w' => e = .returned (.func (.func 58) #[] #[.pointer (some ⟨w.heap.size, 0, none⟩), .pointer (some ⟨w.heap.size + 1, 0, none⟩)]) ∧ w' = (w.alloc (.cells #[.slice a k c] 23)).alloc (.cells #[.int .i64 seq] 3) := by
  go_enter Try.func42, Try.ntmps42
  go_wp2
  go_ret
  exact ⟨by simp, rfl⟩

theorem els_drop {w : World} {a : Option Addr} {l : List EntryD} (p : Nat) (h : ElS 4 encEntry w a l) : ElS 4 encEntry w (a.map (fun x => x.add (p * 4))) (l.drop p) := by
  refine ⟨Nat.le_trans (by rw [List.length_drop]; omega) h.1, ?_⟩
  rcases h.2 with rfl | ⟨b, o, rfl, hc⟩
  · exact .inl (by simp)
  · refine .inr ⟨b, o + p * 4, by simp [addr_add], fun j hj i v hv => ?_⟩
    rw [List.length_drop] at hj
    have := hc (p + j) (by omega) i v (by rwa [List.getElem_drop] at hv)
    rw [← this]
    congr 2
    rw [Nat.add_mul]; omega
theorem els_lt {w : World} {a : Option Addr} {l : List EntryD} (h : ElS 4 encEntry w a l) (hn : l ≠ []) : ∀ k, a.map Addr.block = some k → k < w.heap.size := by
  obtain ⟨b, o, rfl, hc⟩ := h.2.resolve_left hn
  rintro k e
  obtain rfl : b = k := by simpa using e
  have := hc 0 (List.length_pos_iff.2 hn) 0 _ rfl
  have := World.block_lt_of_cell? w _ this
  simpa using this
theorem take_allS {l : List EntryD} {pre : ByteArray} (h : ∀ x ∈ l, startsB x.1 pre = true) : l.takeWhile (fun e => startsB e.1 pre) = l := by
  induction l with
  | nil => rfl
  | cons x l ih => rw [List.takeWhile_cons, h x List.mem_cons_self, if_pos rfl, ih (fun y hy => h y (List.mem_cons_of_mem _ hy))]
theorem take_stopS {q : List EntryD} {x : EntryD} {l : List EntryD} {pre : ByteArray} (hp : q ++ [x] <+: l) (h : ∀ y ∈ q, startsB y.1 pre = true) (hx : startsB x.1 pre = false) : l.takeWhile (fun e => startsB e.1 pre) = q := by
  obtain ⟨t, rfl⟩ := hp
  induction q with
  | nil => simp [hx]
  | cons y q ih => rw [List.cons_append, List.cons_append, List.takeWhile_cons, h y List.mem_cons_self, if_pos rfl, ih (fun z hz => h z (List.mem_cons_of_mem _ hz))]
/-- between two rounds -/
def InvS (w : World) (pre : ByteArray) (Bs n2 : Nat) (s : List EntryD) (W : World) : Prop :=
  ((∃ v, Boxed W Bs 23 v ∧ W.ownsRow n2 32 4 v s.length (s.flatMap encEntry) ∧ True) ∧ W.cell? ⟨w.heap.size, 0, none⟩ = some (.string pre)) ∧ ((∀ x ∈ s, startsB x.1 pre = true) ∧ Below w.heap.size w W) ∧ n2 ≤ W.heap.size
theorem invS_own (w : World) (pre : ByteArray) (Bs n2 B : Nat) (hB : w.heap.size ≤ B) : OwnFrom B (InvS w pre Bs n2) :=
  OwnFrom.and (OwnFrom.and (Own.from (holdsRow_own (β := List EntryD) n2 Bs 23 32 4 (fun s => s.length) (fun s => s.flatMap encEntry) (fun _ _ => True)) _) (Own.from (fun _ _ _ _ hs hg hr => cell_kept hs hg hr) _))
    (OwnFrom.and (OwnFrom.and (ownFrom_pure _ _) (ownFrom_below (Nat.le_refl _) hB)) (fun _ _ _ _ hs hg _ => Nat.le_trans hs hg.size))

theorem box_two (w w1 : World) (pre : ByteArray) (t : TypeId) (o : Obj) (b1 : Below (w.alloc (.cells #[.string pre] t)).heap.size (w.alloc (.cells #[.string pre] t)) w1) :
    (w1.alloc o).cell? ⟨w.heap.size, 0, none⟩ = some (.string pre) ∧ (w1.alloc o).frozen? ⟨w.heap.size, 0, none⟩ = false :=
  (((Box.alloc w #[.string pre] t).below b1).below (below_alloc w1 o)) 0 _ rfl

set_option maxRecDepth 100000 in
set_option maxHeartbeats 2000000 in
theorem scan_any (a : Option Addr) (ca : Nat) (l : List EntryD) (pre : ByteArray) (seq : Int) (w : World) (hca : l.length ≤ ca) (hl : ElS 4 encEntry w a l) (h : entsB l = true) :
    Calls Try.prog 28 #[.slice a l.length ca, .string pre, .int .i64 seq] w (OwnE w (scanR pre seq ⟨#[]⟩ l)) := by
  obtain ⟨i0, hi, hz0, hz1, hz2⟩ := info_parts infoEntry
  have HX := Lib.hid hl
  clear hl
  refine (callsIn_wide (n := 3)).1 ?_
  refine callsIn_of_wp_marks Try.func28 rfl trivial ?_ rfl
  simp only [Try.ntmps28, List.size_toArray, List.length_cons, List.length_nil, Nat.reduceAdd, Nat.reduceSub, Array.replicate_succ, Array.replicate_zero, List.push_toArray, List.append_toArray, List.nil_append, List.cons_append]
  have hn := (entsB_at h).1
  have HS := Lib.hid (entsB_at h).2.2
  have HQ := Lib.hid (show ∀ j (hj : j < l.length), l[j].2.1 ≤ 99999999 from fun j hj => by
    have := (entsB_at h).2.1 j hj
    have e : l[j] = (l[j].1, l[j].2.1, l[j].2.2.1, l[j].2.2.2) := rfl
    rw [e, entB_eq] at this
    simp only [Bool.and_eq_true, inB, decide_eq_true_eq] at this
    exact this.1.1.2.2)
  clear h
  have B1 : Below w.heap.size w (w.alloc (.cells #[.string pre] 9)) := below_alloc w _
  have z1 : w.heap.size + 1 ≤ (w.alloc (.cells #[.string pre] 9)).heap.size := by simp
  have P1 := (box_two w _ pre 9 (.cells #[.slice none 0 0] 23) (Below.refl _ _)).1
  gi_wp2_with (first
    | (refine ⟨trivial, ?_⟩; gi_at_call 43; refine (callsIn_wide.2 (place_any _ _ l pre 99999999 _ (by omega) (HX.out.below (B1.alloc B1.size _)) HS.out)).mono ?_; rintro e w2 ⟨⟨p, hp, h1, h2, rfl⟩, b2⟩; have H1 := Lib.hid h1; have H2 := Lib.hid h2; clear h1 h2)
    | (refine ⟨trivial, ?_⟩; gi_at_call 42; refine (callsIn_wide.2 (seenMk_any _ _ _ seq _)).mono ?_; rintro e w3 ⟨rfl, rfl⟩))
  · have z2 := b2.size
    simp only [World.size_alloc] at z2
    have B2 : Below w.heap.size w w2 := (B1.alloc B1.size _).trans (b2.mono (by simp; have := B1.size; omega))
    have HE := Lib.hid (show ElS 4 encEntry w2 (a) (l.drop p) from ⟨by unfold maxLen; rw [List.length_drop]; omega, .inl (List.drop_of_length_le (by omega))⟩)
    have HR := Lib.hid (scan_place (seq := seq) HS.out HQ.out H1.out H2.out)
    have HT := Lib.hid (show l.drop p ≠ [] → ∀ k, Option.map Addr.block (a) = some k → ¬ (k = (w.heap.size + 1) ∨ w2.heap.size + 2 ≤ k) from fun hne => absurd (List.drop_of_length_le (by omega)) hne)
    have bs : Boxed w2 (w.heap.size + 1) 23 (.slice none 0 0) := by have h := (b2.block (w.alloc (.cells #[.string pre] 9)).heap.size (by simp)).trans (Boxed.new (w.alloc (.cells #[.string pre] 9)) 23 (.slice none 0 0)); rwa [World.size_alloc] at h
    have P2 : w2.cell? ⟨w.heap.size, 0, none⟩ = some (.string pre) := (b2.cell (p := ⟨w.heap.size, 0, none⟩) (by simp; omega)).trans P1
    obtain ⟨W0, hW0⟩ : ∃ W0, (w2.alloc (.cells #[.slice (a) (l.length - p) 0] 23)).alloc (.cells #[.int .i64 seq] 3) = W0 := ⟨_, rfl⟩
    have B0 : Below w.heap.size w W0 := by rw [← hW0]; exact (B2.alloc B2.size _).alloc (by simp; have := B2.size; omega) _
    have A0 : Below w2.heap.size w2 W0 := by rw [← hW0]; exact ((Below.refl _ _).alloc (Nat.le_refl _) _).alloc (by simp) _
    have S0 : W0.heap.size = w2.heap.size + 2 := by rw [← hW0]; simp
    have cl : W0.cell? ⟨w2.heap.size, 0, none⟩ = some (.slice (a) (l.drop p).length 0) := by
      rw [← hW0, List.length_drop]
      exact (((Box.alloc w2 #[.slice (a) (l.length - p) 0] 23).below (below_alloc _ _)) 0 _ rfl).1
    have cq : W0.cell? ⟨w2.heap.size + 1, 0, none⟩ = some (.int .i64 seq) := by
      rw [← hW0]
      have := (Box.alloc (w2.alloc (.cells #[.slice (a) (l.length - p) 0] 23)) #[.int .i64 seq] 3 0 _ rfl).1
      rwa [World.size_alloc] at this
    have cp : W0.cell? ⟨w.heap.size, 0, none⟩ = some (.string pre) := (A0.cell (p := ⟨w.heap.size, 0, none⟩) (by simp; omega)).trans P2
    have bs0 : Boxed W0 (w.heap.size + 1) 23 (.slice none 0 0) := (A0.block (w.heap.size + 1) (by omega)).trans bs
    have BN : w.heap.size ≤ w2.heap.size + 2 := by have := B2.size; omega
    have hdl : (l.drop p).length ≤ 240 := by rw [List.length_drop]; omega
    rw [hW0]
    have hI : OwnFrom W0.heap.size (InvS w pre (w.heap.size + 1) (w2.heap.size + 2)) := invS_own w pre (w.heap.size + 1) (w2.heap.size + 2) W0.heap.size (by omega)
    refine wpIn_rangeFunc_ownH (F := Fence.wide) (n := 3) rfl (by omega) (gf := 58) (lb := #[.pointer (some ⟨w2.heap.size, 0, none⟩), .pointer (some ⟨w2.heap.size + 1, 0, none⟩)]) rfl trivial (enters_of Try.func58 (by kernel_rfl) rfl)
      (seen_stops Fence.wide 2 trivial rfl (by omega) w2.heap.size (w2.heap.size + 1) _ _ (l.drop p) seq hdl (fun b => b = (w.heap.size + 1) ∨ w2.heap.size + 2 ≤ b) HT.out (by omega) W0 cl cq (HE.out.below A0))
      KeptOut.trans (fun W k o o' hk h _ _ => (kept_of_grown (grownBy_putObj' W k o')).mono (fun j _ e => .inr (by cases e; omega))) (Below.refl _ _) (fun _ => rfl)
      (InvS w pre (w.heap.size + 1) (w2.heap.size + 2)) (fun c s W => c = .exit 0 ∧ ∃ q x, s = q ++ [x] ∧ startsB x.1 pre = false ∧ InvS w pre (w.heap.size + 1) (w2.heap.size + 2) q W)
      hI (fun c s A B row hs hg hr => by obtain ⟨hc, q, x, hq, hx, hi⟩ := hs; exact ⟨hc, q, x, hq, hx, hI q A B row hi hg hr⟩)
      ⟨⟨⟨_, bs0, World.ownsRow_nil _ _ _ _, trivial⟩, cp⟩, ⟨fun x hx => by simp at hx, B0⟩, by omega⟩
      (fun x a' W => ∃ Bx, w2.heap.size + 2 ≤ Bx ∧ Box W Bx (encEntry x) ∧ a' = { tmps := #[.slice a l.length p, .string pre, .int .i64 seq, undef, .pointer (some ⟨w.heap.size, 0, none⟩), undef, .slice none 0 0, .pointer (some ⟨(w.heap.size + 1), 0, none⟩), .pointer (some ⟨Bx, 0, none⟩), .slice a l.length p, .slice a l.length p, .string pre, .int .i64 (p : Int), .slice (a) (l.length - p) 0, .int .i64 seq, .func (.func 58) #[] #[.pointer (some ⟨w2.heap.size, 0, none⟩), .pointer (some ⟨w2.heap.size + 1, 0, none⟩)], .agg #[.string x.1, .int .i64 x.2.1, .bool x.2.2.1, .string x.2.2.2], undef, undef, undef, undef, undef, undef, undef, undef, undef, undef], defers := [] })
      (fun x a' s A B row hs hg hr => by obtain ⟨Bx, h1, h2, h3⟩ := hs; exact ⟨Bx, h1, fun i v hv => ⟨cell_kept (h2 i v hv).1 hg (fun r e => (hr r e).2), (frozen_kept (h2 i v hv).1 hg (fun r e => (hr r e).2)).trans (h2 i v hv).2⟩, h3⟩) ?assign ?body ?done ?stop
    case assign =>
      rintro lp s x W K hi hK
      have hsz := hi.2.2
      simp only [encA]
      gi_wp2
      exact hK _ _ ((KeepsOthers.alloc _ _).from _) ((KeptOut.refl _ _).alloc _) (hI.alloc _ hi) ⟨W.heap.size, by omega, Box.alloc _ _ _, rfl⟩
    case body =>
      rintro lp s x a' W hlp ⟨r, hr⟩ ⟨⟨⟨v, hv, hrow, hG⟩, hcp⟩, ⟨hall, hB⟩, hsz⟩ ⟨Bx, hBx, bX, rfl⟩ hlt
      have hc := hv.cell
      have hsl : s.length < 240 := by omega
      obtain ⟨⟨x0, _⟩, ⟨x1, _⟩, ⟨x2, _⟩, x3, _⟩ := show _ ∧ _ ∧ _ ∧ _ from ⟨bX 0 _ rfl, bX 1 _ rfl, bX 2 _ rfl, bX 3 _ rfl⟩
      cases hst : startsB x.1 pre with
      | false =>
        have HP := Lib.hid hst
        clear hst
        gi_wp2_with (refine ⟨trivial, ?_⟩; gi_at_call 44; refine (CallsIn.inRound lp (callsIn_wide.2 (prefix_any _ _ _))).mono ?_; rintro e w4 ⟨rfl, rfl⟩; rw [HP.out])
        exact ⟨KeepsFrom.refl _ _, rfl, s, x, rfl, HP.out, ⟨⟨v, hv, hrow, hG⟩, hcp⟩, ⟨hall, hB⟩, hsz⟩
      | true =>
        have HP := Lib.hid hst
        clear hst
        have zb := hB.size
        have HRW := Lib.hid hrow
        have HVV := Lib.hid hv
        clear hrow hv
        gi_wp2_with (first
          | (refine ⟨trivial, ?_⟩; gi_at_call 44; refine (CallsIn.inRound lp (callsIn_wide.2 (prefix_any _ _ _))).mono ?_; rintro e w4 ⟨rfl, rfl⟩; rw [HP.out])
          | (gi_at_builtin; refine wpListIn_append_own _ rfl _ _ 23 rfl (w2.heap.size + 2) 32 i0 (.agg #[.string ⟨#[]⟩, .int .i64 0, .bool false, .string ⟨#[]⟩]) 4 48 Try.underlying23 hi hz0 hz1 hz2 rfl (by decide) _ _ _ rfl (HRW.out.alloc _) ⟨W.heap.size, 0, none⟩ 1 1 [.string x.1, .int .i64 x.2.1, .bool x.2.2.1, .string x.2.2.2] rfl rfl (cellsNew _ _ _) (by simp [Value.oneCell']) (by unfold maxLen; omega) (by omega) (by simp; omega) ?_; intro v' w5 hown' hgrow _; obtain ⟨g5, cap5, rfl⟩ := ownsRow_succ hown'; obtain ⟨hv1, hv2, _, hk2, hb2⟩ := HVV.out.appended (by decide) (own_mono BN HRW.out) hB.size (by have := B1.size; omega) (own_mono BN hown') hgrow; have hr2 := hown'.kept (grownBy_setCell' w5 (w.heap.size + 1) (.slice (some ⟨g5, 0, none⟩) (s.length + 1) cap5)) (.inr (hv1.not_row (by decide) hown').symm); have hc1 := hv1.cell; have hf1 := hv1.frozen))
        have KK : KeptOut (fun b => b = (w.heap.size + 1) ∨ w2.heap.size + 2 ≤ b) W (w5.setCell ⟨(w.heap.size + 1), 0, none⟩ (.slice (some ⟨g5, 0, none⟩) (s.length + 1) cap5)) := ((((KeptOut.refl (fun b => b = (w.heap.size + 1) ∨ w2.heap.size + 2 ≤ b) W).alloc _).trans ((kept_of_grown hgrow).mono (fun j _ e => .inr (HRW.out.lt j e).1)))).setCell (p := ⟨(w.heap.size + 1), 0, none⟩) (.inl rfl) _
        exact ⟨hk2.from _, KK, ⟨⟨_, hv2, by rw [List.length_append, flat_snoc]; exact hr2, trivial⟩, (KK.cell (p := ⟨w.heap.size, 0, none⟩) (by simp; omega) (by simp; omega)).trans hcp⟩, ⟨fun y hy => by
          rcases List.mem_append.1 hy with hy | hy
          · exact hall y hy
          · rw [List.mem_singleton.1 hy]; exact HP.out, hB.trans hb2⟩, Nat.le_trans hsz KK.size⟩
    case done =>
      rintro D ys W hD rfl ⟨⟨⟨v, hv, hrow, hG⟩, hcp⟩, ⟨hall, hB⟩, hsz⟩ hK
      have hc := hv.cell
      have HRW := Lib.hid hrow
      have HF := Lib.hid (show scanR pre seq ⟨#[]⟩ l = seenR seq ⟨#[]⟩ (l.drop p) by rw [← HR.out]; exact take_allS hall)
      clear hrow hv
      gi_wp2
      refine ⟨by simp, .inl ⟨_, _, rfl, run_takeDeferred hK, ?_⟩⟩
      exact ⟨_, results_tmp rfl _ _ _, v, rfl, by rw [HF.out]; exact ownsRow_putObj (own_mono BN HRW.out) _ hK rfl, hB.trans (belowK_b (w := w) (Nat.le_refl _) W D _ _ (by have := B0.size; omega) hK rfl rfl)⟩
    case stop =>
      rintro D c s W hD hSp ⟨rfl, q, x, rfl, hx, ⟨⟨v, hv, hrow, hG⟩, hcp⟩, ⟨hall, hB⟩, hsz⟩ hK
      have hc := hv.cell
      have HRW := Lib.hid hrow
      have HF := Lib.hid (show scanR pre seq ⟨#[]⟩ l = q by rw [← HR.out]; exact take_stopS hSp hall hx)
      clear hrow hv
      gi_wp2
      refine ⟨by simp, .inl ⟨_, _, rfl, run_takeDeferred hK, ?_⟩⟩
      exact ⟨_, results_tmp rfl _ _ _, v, rfl, by rw [HF.out]; exact ownsRow_putObj (own_mono BN HRW.out) _ hK rfl, hB.trans (belowK_b (w := w) (Nat.le_refl _) W D _ _ (by have := B0.size; omega) hK rfl rfl)⟩
  · have z2 := b2.size
    simp only [World.size_alloc] at z2
    have B2 : Below w.heap.size w w2 := (B1.alloc B1.size _).trans (b2.mono (by simp; have := B1.size; omega))
    have HE := Lib.hid (show ElS 4 encEntry w2 (Option.map (fun x => x.add (p * 4)) a) (l.drop p) from els_drop p (HX.out.below B2))
    have HR := Lib.hid (scan_place (seq := seq) HS.out HQ.out H1.out H2.out)
    have HT := Lib.hid (show l.drop p ≠ [] → ∀ k, Option.map Addr.block (Option.map (fun x => x.add (p * 4)) a) = some k → ¬ (k = (w.heap.size + 1) ∨ w2.heap.size + 2 ≤ k) from fun hne k e => by
      have hk := els_lt HX.out (fun q => hne (by rw [q]; simp)) k (by rw [Option.map_map] at e; rw [← e]; cases a with
        | none => rfl
        | some x => exact congrArg some (by unfold Addr.add; simp only [Function.comp]; split <;> rfl))
      omega)
    have bs : Boxed w2 (w.heap.size + 1) 23 (.slice none 0 0) := by have h := (b2.block (w.alloc (.cells #[.string pre] 9)).heap.size (by simp)).trans (Boxed.new (w.alloc (.cells #[.string pre] 9)) 23 (.slice none 0 0)); rwa [World.size_alloc] at h
    have P2 : w2.cell? ⟨w.heap.size, 0, none⟩ = some (.string pre) := (b2.cell (p := ⟨w.heap.size, 0, none⟩) (by simp; omega)).trans P1
    obtain ⟨W0, hW0⟩ : ∃ W0, (w2.alloc (.cells #[.slice (Option.map (fun x => x.add (p * 4)) a) (l.length - p) (ca - p)] 23)).alloc (.cells #[.int .i64 seq] 3) = W0 := ⟨_, rfl⟩
    have B0 : Below w.heap.size w W0 := by rw [← hW0]; exact (B2.alloc B2.size _).alloc (by simp; have := B2.size; omega) _
    have A0 : Below w2.heap.size w2 W0 := by rw [← hW0]; exact ((Below.refl _ _).alloc (Nat.le_refl _) _).alloc (by simp) _
    have S0 : W0.heap.size = w2.heap.size + 2 := by rw [← hW0]; simp
    have cl : W0.cell? ⟨w2.heap.size, 0, none⟩ = some (.slice (Option.map (fun x => x.add (p * 4)) a) (l.drop p).length (ca - p)) := by
      rw [← hW0, List.length_drop]
      exact (((Box.alloc w2 #[.slice (Option.map (fun x => x.add (p * 4)) a) (l.length - p) (ca - p)] 23).below (below_alloc _ _)) 0 _ rfl).1
    have cq : W0.cell? ⟨w2.heap.size + 1, 0, none⟩ = some (.int .i64 seq) := by
      rw [← hW0]
      have := (Box.alloc (w2.alloc (.cells #[.slice (Option.map (fun x => x.add (p * 4)) a) (l.length - p) (ca - p)] 23)) #[.int .i64 seq] 3 0 _ rfl).1
      rwa [World.size_alloc] at this
    have cp : W0.cell? ⟨w.heap.size, 0, none⟩ = some (.string pre) := (A0.cell (p := ⟨w.heap.size, 0, none⟩) (by simp; omega)).trans P2
    have bs0 : Boxed W0 (w.heap.size + 1) 23 (.slice none 0 0) := (A0.block (w.heap.size + 1) (by omega)).trans bs
    have BN : w.heap.size ≤ w2.heap.size + 2 := by have := B2.size; omega
    have hdl : (l.drop p).length ≤ 240 := by rw [List.length_drop]; omega
    rw [hW0]
    have hI : OwnFrom W0.heap.size (InvS w pre (w.heap.size + 1) (w2.heap.size + 2)) := invS_own w pre (w.heap.size + 1) (w2.heap.size + 2) W0.heap.size (by omega)
    refine wpIn_rangeFunc_ownH (F := Fence.wide) (n := 3) rfl (by omega) (gf := 58) (lb := #[.pointer (some ⟨w2.heap.size, 0, none⟩), .pointer (some ⟨w2.heap.size + 1, 0, none⟩)]) rfl trivial (enters_of Try.func58 (by kernel_rfl) rfl)
      (seen_stops Fence.wide 2 trivial rfl (by omega) w2.heap.size (w2.heap.size + 1) _ _ (l.drop p) seq hdl (fun b => b = (w.heap.size + 1) ∨ w2.heap.size + 2 ≤ b) HT.out (by omega) W0 cl cq (HE.out.below A0))
      KeptOut.trans (fun W k o o' hk h _ _ => (kept_of_grown (grownBy_putObj' W k o')).mono (fun j _ e => .inr (by cases e; omega))) (Below.refl _ _) (fun _ => rfl)
      (InvS w pre (w.heap.size + 1) (w2.heap.size + 2)) (fun c s W => c = .exit 0 ∧ ∃ q x, s = q ++ [x] ∧ startsB x.1 pre = false ∧ InvS w pre (w.heap.size + 1) (w2.heap.size + 2) q W)
      hI (fun c s A B row hs hg hr => by obtain ⟨hc, q, x, hq, hx, hi⟩ := hs; exact ⟨hc, q, x, hq, hx, hI q A B row hi hg hr⟩)
      ⟨⟨⟨_, bs0, World.ownsRow_nil _ _ _ _, trivial⟩, cp⟩, ⟨fun x hx => by simp at hx, B0⟩, by omega⟩
      (fun x a' W => ∃ Bx, w2.heap.size + 2 ≤ Bx ∧ Box W Bx (encEntry x) ∧ a' = { tmps := #[.slice a l.length ca, .string pre, .int .i64 seq, undef, .pointer (some ⟨w.heap.size, 0, none⟩), undef, .slice none 0 0, .pointer (some ⟨(w.heap.size + 1), 0, none⟩), .pointer (some ⟨Bx, 0, none⟩), .slice a l.length ca, .slice a l.length ca, .string pre, .int .i64 (p : Int), .slice (Option.map (fun x => x.add (p * 4)) a) (l.length - p) (ca - p), .int .i64 seq, .func (.func 58) #[] #[.pointer (some ⟨w2.heap.size, 0, none⟩), .pointer (some ⟨w2.heap.size + 1, 0, none⟩)], .agg #[.string x.1, .int .i64 x.2.1, .bool x.2.2.1, .string x.2.2.2], undef, undef, undef, undef, undef, undef, undef, undef, undef, undef], defers := [] })
      (fun x a' s A B row hs hg hr => by obtain ⟨Bx, h1, h2, h3⟩ := hs; exact ⟨Bx, h1, fun i v hv => ⟨cell_kept (h2 i v hv).1 hg (fun r e => (hr r e).2), (frozen_kept (h2 i v hv).1 hg (fun r e => (hr r e).2)).trans (h2 i v hv).2⟩, h3⟩) ?assign ?body ?done ?stop
    case assign =>
      rintro lp s x W K hi hK
      have hsz := hi.2.2
      simp only [encA]
      gi_wp2
      exact hK _ _ ((KeepsOthers.alloc _ _).from _) ((KeptOut.refl _ _).alloc _) (hI.alloc _ hi) ⟨W.heap.size, by omega, Box.alloc _ _ _, rfl⟩
    case body =>
      rintro lp s x a' W hlp ⟨r, hr⟩ ⟨⟨⟨v, hv, hrow, hG⟩, hcp⟩, ⟨hall, hB⟩, hsz⟩ ⟨Bx, hBx, bX, rfl⟩ hlt
      have hc := hv.cell
      have hsl : s.length < 240 := by omega
      obtain ⟨⟨x0, _⟩, ⟨x1, _⟩, ⟨x2, _⟩, x3, _⟩ := show _ ∧ _ ∧ _ ∧ _ from ⟨bX 0 _ rfl, bX 1 _ rfl, bX 2 _ rfl, bX 3 _ rfl⟩
      cases hst : startsB x.1 pre with
      | false =>
        have HP := Lib.hid hst
        clear hst
        gi_wp2_with (refine ⟨trivial, ?_⟩; gi_at_call 44; refine (CallsIn.inRound lp (callsIn_wide.2 (prefix_any _ _ _))).mono ?_; rintro e w4 ⟨rfl, rfl⟩; rw [HP.out])
        exact ⟨KeepsFrom.refl _ _, rfl, s, x, rfl, HP.out, ⟨⟨v, hv, hrow, hG⟩, hcp⟩, ⟨hall, hB⟩, hsz⟩
      | true =>
        have HP := Lib.hid hst
        clear hst
        have zb := hB.size
        have HRW := Lib.hid hrow
        have HVV := Lib.hid hv
        clear hrow hv
        gi_wp2_with (first
          | (refine ⟨trivial, ?_⟩; gi_at_call 44; refine (CallsIn.inRound lp (callsIn_wide.2 (prefix_any _ _ _))).mono ?_; rintro e w4 ⟨rfl, rfl⟩; rw [HP.out])
          | (gi_at_builtin; refine wpListIn_append_own _ rfl _ _ 23 rfl (w2.heap.size + 2) 32 i0 (.agg #[.string ⟨#[]⟩, .int .i64 0, .bool false, .string ⟨#[]⟩]) 4 48 Try.underlying23 hi hz0 hz1 hz2 rfl (by decide) _ _ _ rfl (HRW.out.alloc _) ⟨W.heap.size, 0, none⟩ 1 1 [.string x.1, .int .i64 x.2.1, .bool x.2.2.1, .string x.2.2.2] rfl rfl (cellsNew _ _ _) (by simp [Value.oneCell']) (by unfold maxLen; omega) (by omega) (by simp; omega) ?_; intro v' w5 hown' hgrow _; obtain ⟨g5, cap5, rfl⟩ := ownsRow_succ hown'; obtain ⟨hv1, hv2, _, hk2, hb2⟩ := HVV.out.appended (by decide) (own_mono BN HRW.out) hB.size (by have := B1.size; omega) (own_mono BN hown') hgrow; have hr2 := hown'.kept (grownBy_setCell' w5 (w.heap.size + 1) (.slice (some ⟨g5, 0, none⟩) (s.length + 1) cap5)) (.inr (hv1.not_row (by decide) hown').symm); have hc1 := hv1.cell; have hf1 := hv1.frozen))
        have KK : KeptOut (fun b => b = (w.heap.size + 1) ∨ w2.heap.size + 2 ≤ b) W (w5.setCell ⟨(w.heap.size + 1), 0, none⟩ (.slice (some ⟨g5, 0, none⟩) (s.length + 1) cap5)) := ((((KeptOut.refl (fun b => b = (w.heap.size + 1) ∨ w2.heap.size + 2 ≤ b) W).alloc _).trans ((kept_of_grown hgrow).mono (fun j _ e => .inr (HRW.out.lt j e).1)))).setCell (p := ⟨(w.heap.size + 1), 0, none⟩) (.inl rfl) _
        exact ⟨hk2.from _, KK, ⟨⟨_, hv2, by rw [List.length_append, flat_snoc]; exact hr2, trivial⟩, (KK.cell (p := ⟨w.heap.size, 0, none⟩) (by simp; omega) (by simp; omega)).trans hcp⟩, ⟨fun y hy => by
          rcases List.mem_append.1 hy with hy | hy
          · exact hall y hy
          · rw [List.mem_singleton.1 hy]; exact HP.out, hB.trans hb2⟩, Nat.le_trans hsz KK.size⟩
    case done =>
      rintro D ys W hD rfl ⟨⟨⟨v, hv, hrow, hG⟩, hcp⟩, ⟨hall, hB⟩, hsz⟩ hK
      have hc := hv.cell
      have HRW := Lib.hid hrow
      have HF := Lib.hid (show scanR pre seq ⟨#[]⟩ l = seenR seq ⟨#[]⟩ (l.drop p) by rw [← HR.out]; exact take_allS hall)
      clear hrow hv
      gi_wp2
      refine ⟨by simp, .inl ⟨_, _, rfl, run_takeDeferred hK, ?_⟩⟩
      exact ⟨_, results_tmp rfl _ _ _, v, rfl, by rw [HF.out]; exact ownsRow_putObj (own_mono BN HRW.out) _ hK rfl, hB.trans (belowK_b (w := w) (Nat.le_refl _) W D _ _ (by have := B0.size; omega) hK rfl rfl)⟩
    case stop =>
      rintro D c s W hD hSp ⟨rfl, q, x, rfl, hx, ⟨⟨v, hv, hrow, hG⟩, hcp⟩, ⟨hall, hB⟩, hsz⟩ hK
      have hc := hv.cell
      have HRW := Lib.hid hrow
      have HF := Lib.hid (show scanR pre seq ⟨#[]⟩ l = q by rw [← HR.out]; exact take_stopS hSp hall hx)
      clear hrow hv
      gi_wp2
      refine ⟨by simp, .inl ⟨_, _, rfl, run_takeDeferred hK, ?_⟩⟩
      exact ⟨_, results_tmp rfl _ _ _, v, rfl, by rw [HF.out]; exact ownsRow_putObj (own_mono BN HRW.out) _ hK rfl, hB.trans (belowK_b (w := w) (Nat.le_refl _) W D _ _ (by have := B0.size; omega) hK rfl rfl)⟩

theorem implScan_any (a : Option Addr) (ca : Nat) (l : List EntryD) (pre : ByteArray) (seq : Int) (w : World) (hca : l.length ≤ ca) (hl : ElS 4 encEntry w a l) (hok : ∀ x ∈ l, OkEntry x) :
    Calls Try.prog 10 #[.slice a l.length ca, .string pre, .int .i64 seq] w (OwnE w (scanV l pre seq)) := by
  have HX := Lib.hid hl
  clear hl
  cases h : entsB l with
  | false =>
    rw [scanV_no h]
    have H := Lib.hid h
    clear h
    go_enter Try.func10, Try.ntmps10
    go_wp2_with fail
    refine (implEntries_any _ _ l _ HX.out hok).mono ?_
    rintro e w1 ⟨rfl, b1⟩
    rw [H.out]
    go_wp2
    go_ret
    exact ⟨_, rfl, World.ownsRow_nil _ _ _ _, b1⟩
  | true =>
    rw [scanV_yes h]
    have H := Lib.hid h
    clear h
    go_enter Try.func10, Try.ntmps10
    go_wp2_with fail
    refine (implEntries_any _ _ l _ HX.out hok).mono ?_
    rintro e w1 ⟨rfl, b1⟩
    rw [H.out]
    go_wp2_with fail
    refine (scan_any _ _ l pre seq w1 hca (HX.out.below b1) H.out).mono ?_
    rintro e w2 ⟨v, rfl, o2, b2⟩
    go_wp2
    go_ret
    exact ⟨_, rfl, own_mono b1.size o2, b1.trans (b2.mono b1.size)⟩
end Go.Proofs.Ytbdicaanniffpaa
