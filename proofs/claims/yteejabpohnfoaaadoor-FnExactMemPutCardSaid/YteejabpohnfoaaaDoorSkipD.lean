import Derived.Test.YteejabpohnfoaaaDoorSkipS
import Derived.Test.YteejabpohnfoaaaDoorScanJ
import Derived.Sort.LoopGhostIn
/- Linked entries are told one by one, and collected. -/
namespace Go.Proofs.YteejabpohnfoaaaDoor
open Go Go.RowKit Go.Shelf

attribute [local go_sem] Oper.semAt_some

set_option maxRecDepth 100000 in
set_option maxHeartbeats 2000000 in
theorem all_core (m : Nat) (hm : 1 ≤ m) (Bn hb : Nat) (z : EntryD) (S : List Nd) (T : Nat → Prop) (hTb : ∀ n ∈ S, ¬ T n.1) (lp : Nat) (J Jx : List EntryD → World → Prop) (W : World)
    (hbx : W.cell? ⟨Bn, 0, none⟩ = some (.pointer (some ⟨hb, 0, none⟩))) (hS : Skip W ((hb, z, 4) :: S)) (hh : ∀ n ∈ S, 1 ≤ n.2.2)
    (hY : ∀ pre x W1, J pre W1 → pre.length < S.length → YieldAt Fence.wide (m - 1) Tryd.prog lp (encA x) W1 fun e W2 => (e = .returned (.bool true) ∧ J (pre ++ [x]) W2 ∧ KeptOut T W1 W2) ∨ (e = .returned (.bool false) ∧ Jx (pre ++ [x]) W2))
    (h0 : J [] W) :
    CallsIn Fence.wide m Tryd.prog 54 (#[.func (.yield lp) #[] #[]] ++ #[.pointer (some ⟨Bn, 0, none⟩)]) W fun e W2 => (∃ v, e = .returned v) ∧ ((∃ xs, xs = S.map (·.2.1) ∧ J xs W2) ∨ (∃ pre, pre <+: S.map (·.2.1) ∧ Jx pre W2)) := by
  have HS := Lib.hid hS
  have HH := Lib.hid hh
  have HT := Lib.hid hTb
  have hd := (Skip.at (show Skip W ([] ++ (hb, z, 4) :: S) from hS) 4 _ (nodeC_get (k := 0) (by decide))).1
  rw [show nx (hb, z, 4).2.2 0 S = nxt 0 S from rfl] at hd
  dsimp only at hd
  clear hS hh hTb
  refine callsIn_of_wp Tryd.func54 rfl trivial ?_ rfl
  simp only [Tryd.ntmps54, List.size_toArray, List.length_cons, List.length_nil, Nat.reduceAdd, Nat.reduceSub, Array.replicate_succ, Array.replicate_zero, List.push_toArray, List.append_toArray, List.nil_append, List.cons_append]
  gi_wp2_with fail
  gi_loopg [3] (S.length + 1) (fun q v3 wr => ∃ A R : List Nd, S = A ++ R ∧ R.length + 1 = q ∧ v3 = nxt 0 R ∧ J (A.map (·.2.1)) wr ∧ KeptOut T W wr)
  case atStart => exact ⟨[], S, rfl, rfl, rfl, h0, KeptOut.refl _ _⟩
  case round =>
    clear h0 hd hbx
    obtain ⟨A, R, hAR, hq, rfl, hJ, hk⟩ := hrel
    have HAR := Lib.hid hAR
    have HQ := Lib.hid hq
    clear hAR hq
    cases R with
    | nil =>
      rw [show nxt 0 ([] : List Nd) = .pointer none from rfl]
      have HE := Lib.hid (show A.map (·.2.1) = S.map (·.2.1) by rw [HAR.out, List.append_nil])
      gi_wp2
      go_end0
      exact ⟨⟨_, rfl⟩, .inl (by first | exact ⟨_, HE.out, hJ⟩ | (rw [← HE.out]; exact hJ))⟩
    | cons n R =>
      have hn : n ∈ S := by rw [HAR.out]; simp
      have hl : lvl 0 n = true := decide_eq_true (by have := HH.out n hn; omega)
      rw [nxt_hit hl]
      have hTn := HT.out n hn
      have bx := Skip.at (show Skip W (((hb, z, 4) :: A) ++ n :: R) by have h := HS.out; rwa [HAR.out] at h)
      have hnl : n.1 < W.heap.size := Box.lt bx
      have HA1 := Lib.hid (show S = (A ++ [n]) ++ R by rw [HAR.out]; simp)
      have HM := Lib.hid (show (A ++ [n]).map (·.2.1) = A.map (·.2.1) ++ [n.2.1] by simp)
      have hlt : (A.map (·.2.1)).length < S.length := by rw [HAR.out]; simp
      obtain ⟨fn, tmps, assign, body, hy, hR⟩ := hY _ n.2.1 _ hJ hlt
      have bq := Box.kept hk hTn bx
      have c5 := bx 4 _ (nodeC_get (k := 0) (by decide))
      rw [show nx n.2.2 0 R = nxt 0 R by unfold nx; rw [if_pos (by have := HH.out n hn; omega)]] at c5
      have HC5 := Lib.hid c5.1
      obtain ⟨⟨c0, -⟩, ⟨c1, -⟩, ⟨c2, -⟩, c3, -⟩ := show _ ∧ _ ∧ _ ∧ _ from ⟨bq 0 _ rfl, bq 1 _ rfl, bq 2 _ rfl, bq 3 _ rfl⟩
      have HJP := Lib.hid (show A.map (·.2.1) ++ [n.2.1] <+: S.map (·.2.1) from ⟨R.map (·.2.1), by rw [HAR.out]; simp⟩)
      clear hl hn bx bq c5 hlt
      obtain ⟨nb, ⟨x0, x1, x2, x3⟩, nh⟩ := n
      dsimp only at c0 c1 c2 c3 hTn hnl
      unfold encA at hy
      dsimp only at hy
      gi_wp2
      refine hR.mono ?_
      rintro e W3 (⟨rfl, hJ3, hk3⟩ | ⟨rfl, hJx3⟩)
      · have K3 : KeptOut T W W3 := hk.trans hk3
        have c6 := (K3.cell (p := ⟨nb, 4, none⟩) hnl hTn).trans HC5.out
        have J3 := Lib.hid hJ3
        clear hJ3 hJ hk3 hY hk c0 c1 c2 c3
        gi_wp2
        go_roundg (gk - 1)
        case measure => have := HQ.out; simp only [List.length_cons] at this; omega
        case rel => exact ⟨A ++ [(nb, (x0, x1, x2, x3), nh)], R, HA1.out, by have := HQ.out; simp only [List.length_cons] at this; omega, rfl, by rw [HM.out]; exact J3.out, K3⟩
      · have J3 := Lib.hid hJx3
        clear hJx3 hJ hY hk c0 c1 c2 c3
        gi_wp2
        refine bodyPost_ret (results_none rfl _ _ _) rfl ?_
        exact ⟨⟨_, rfl⟩, .inr ⟨_, HJP.out, J3.out⟩⟩
theorem all_stops (m : Nat) (hm : 1 ≤ m) (Bn hb B : Nat) (L : List EntryD) (T : Nat → Prop) (hT : ∀ b, T b → B ≤ b) (w0 : World)
    (hbx : w0.cell? ⟨Bn, 0, none⟩ = some (.pointer (some ⟨hb, 0, none⟩))) (z : EntryD) (S : List Nd) (hSL : S.map (·.2.1) = L) (hS : Skip w0 ((hb, z, 4) :: S)) (hh : ∀ n ∈ S, 1 ≤ n.2.2) (hB : ∀ n ∈ S, n.1 < B) :
    SeqStopsK Fence.wide m Tryd.prog 54 #[.pointer (some ⟨Bn, 0, none⟩)] encA (KeptOut T) (fun ys => ys = L) (fun pre => pre <+: L) L.length w0 := by
  intro lp J Jx W hbW hJ hJx hY h0
  subst hSL
  exact all_core m hm Bn hb z S T (fun n hn h => by have := hT _ h; have := hB n hn; omega) lp J Jx W ((hbW.cell (by have := World.block_lt_of_cell? w0 _ hbx; simpa using this)).trans hbx) (hS.below hbW) hh (fun pre x W1 h hl => hY pre x W1 h (by rwa [List.length_map])) h0
theorem allMk_any (hb : Nat) (w : World) :
    Calls Tryd.prog 33 #[.pointer (some ⟨hb, 0, none⟩)] w fun e w' => e = .returned (.func (.func 54) #[] #[.pointer (some ⟨w.heap.size, 0, none⟩)]) ∧ w' = w.alloc (.cells #[.pointer (some ⟨hb, 0, none⟩)] 52) := by
  go_enter Tryd.func33, Tryd.ntmps33
  go_wp2
  go_ret
  exact ⟨by simp, rfl⟩
/-- between two rounds -/
def InvA (w : World) (n2 : Nat) (s : List EntryD) (W : World) : Prop :=
  (∃ v, Boxed W w.heap.size 27 v ∧ W.ownsRow n2 31 4 v s.length (s.flatMap encEntry) ∧ True) ∧ Below w.heap.size w W ∧ n2 ≤ W.heap.size
theorem invA_own (w : World) (n2 B : Nat) (hB : w.heap.size ≤ B) : OwnFrom B (InvA w n2) :=
  OwnFrom.and (Own.from (holdsRow_own (β := List EntryD) n2 w.heap.size 27 31 4 (fun s => s.length) (fun s => s.flatMap encEntry) (fun _ _ => True)) _)
    (OwnFrom.and (ownFrom_below (Nat.le_refl _) hB) (fun _ _ _ _ hs hg _ => Nat.le_trans hs hg.size))
set_option maxRecDepth 100000 in
set_option maxHeartbeats 2000000 in
theorem appendSeq_any (Bn hb : Nat) (L : List EntryD) (hL : L.length ≤ 1000) (w : World) (hbx : w.cell? ⟨Bn, 0, none⟩ = some (.pointer (some ⟨hb, 0, none⟩))) (B : Nat) (hS : SkipL B hb w L) :
    Calls Tryd.prog 53 #[.slice none 0 0, .func (.func 54) #[] #[.pointer (some ⟨Bn, 0, none⟩)]] w (OwnE w L) := by
  obtain ⟨i0, hi, hz0, hz1, hz2⟩ := info_parts infoEntry
  obtain ⟨z, S, hSL, hsk, hh, -, -⟩ := hS
  have hlt := hsk.lt
  refine (callsIn_wide (n := 3)).1 ?_
  refine callsIn_of_wp_marks Tryd.func53 rfl trivial ?_ rfl
  simp only [Tryd.ntmps53, List.size_toArray, List.length_cons, List.length_nil, Nat.reduceAdd, Nat.reduceSub, Array.replicate_succ, Array.replicate_zero, List.push_toArray, List.append_toArray, List.nil_append, List.cons_append]
  obtain ⟨W0, hW0⟩ : ∃ W0, w.alloc (.cells #[.slice none 0 0] 27) = W0 := ⟨_, rfl⟩
  have B0 : Below w.heap.size w W0 := by rw [← hW0]; exact below_alloc _ _
  have S0 : W0.heap.size = w.heap.size + 1 := by rw [← hW0]; simp
  have bs0 : Boxed W0 w.heap.size 27 (.slice none 0 0) := by rw [← hW0]; exact Boxed.new w 27 (.slice none 0 0)
  have HB0 := Lib.hid ((B0.cell (p := ⟨Bn, 0, none⟩) (by have := World.block_lt_of_cell? w _ hbx; simpa using this)).trans hbx)
  have HSK := Lib.hid (hsk.below B0)
  have HLT := Lib.hid hlt
  have HSL := Lib.hid hSL
  clear hbx hsk hlt hSL
  gi_wp2
  have hI : OwnFrom W0.heap.size (InvA w (w.heap.size + 1)) := invA_own w (w.heap.size + 1) W0.heap.size (by omega)
  refine wpIn_rangeFunc_ownH (F := Fence.wide) (n := 3) rfl (by omega) (gf := 54) (lb := #[.pointer (some ⟨Bn, 0, none⟩)]) rfl trivial (enters_of Tryd.func54 (by kernel_rfl) rfl)
    (all_stops 2 (by omega) Bn hb w.heap.size L (fun b => w.heap.size ≤ b) (fun b h => h) W0 HB0.out z S HSL.out HSK.out hh (fun n hn => HLT.out n (List.mem_cons_of_mem _ hn)))
    KeptOut.trans (fun W k o o' hk h _ _ => (kept_of_grown (grownBy_putObj' W k o')).mono (fun j _ e => by cases e; show w.heap.size ≤ k; omega)) (Below.refl _ _) (fun _ => rfl)
    (InvA w (w.heap.size + 1)) (fun c s W => False)
    hI (fun c s A B row hs hg hr => hs.elim)
    ⟨⟨_, bs0, World.ownsRow_nil _ _ _ _, trivial⟩, B0, by omega⟩
    (fun x a' W => ∃ Bx, w.heap.size + 1 ≤ Bx ∧ Box W Bx (encEntry x) ∧ a' = { tmps := #[.slice none 0 0, .func (.func 54) #[] #[.pointer (some ⟨Bn, 0, none⟩)], .pointer (some ⟨w.heap.size, 0, none⟩), undef, .slice none 0 0, .pointer (some ⟨Bx, 0, none⟩), .func (.func 54) #[] #[.pointer (some ⟨Bn, 0, none⟩)], .agg #[.string x.1, .int .i64 x.2.1, .bool x.2.2.1, .string x.2.2.2], undef, undef, undef, undef, undef], defers := [] })
    (fun x a' s A B row hs hg hr => by obtain ⟨Bx, h1, h2, h3⟩ := hs; exact ⟨Bx, h1, fun i v hv => ⟨cell_kept (h2 i v hv).1 hg (fun r e => (hr r e).2), (frozen_kept (h2 i v hv).1 hg (fun r e => (hr r e).2)).trans (h2 i v hv).2⟩, h3⟩) ?assign ?body ?done ?stop
  case assign =>
    rintro lp s x W K hi hK
    have hsz := hi.2.2
    simp only [encA]
    gi_wp2
    exact hK _ _ ((KeepsOthers.alloc _ _).from _) ((KeptOut.refl _ _).alloc _) (hI.alloc _ hi) ⟨W.heap.size, by omega, Box.alloc _ _ _, rfl⟩
  case body =>
    rintro lp s x a' W hlp ⟨r, hr⟩ ⟨⟨v, hv, hrow, hG⟩, hB, hsz⟩ ⟨Bx, hBx, bX, rfl⟩ hlt
    have hc := hv.cell
    have hsl : s.length < 1000 := by omega
    obtain ⟨⟨x0, _⟩, ⟨x1, _⟩, ⟨x2, _⟩, x3, _⟩ := show _ ∧ _ ∧ _ ∧ _ from ⟨bX 0 _ rfl, bX 1 _ rfl, bX 2 _ rfl, bX 3 _ rfl⟩
    have zb := hB.size
    have HRW := Lib.hid hrow
    have HVV := Lib.hid hv
    clear hrow hv
    gi_wp2_with (gi_at_builtin; refine wpListIn_append_own _ rfl _ _ 27 rfl (w.heap.size + 1) 31 i0 (.agg #[.string ⟨#[]⟩, .int .i64 0, .bool false, .string ⟨#[]⟩]) 4 48 Tryd.underlying27 hi hz0 hz1 hz2 rfl (by decide) _ _ _ rfl (HRW.out.alloc _) ⟨W.heap.size, 0, none⟩ 1 1 [.string x.1, .int .i64 x.2.1, .bool x.2.2.1, .string x.2.2.2] rfl rfl (cellsNew _ _ _) (by simp [Value.oneCell']) (by unfold maxLen; omega) (by omega) (by simp; omega) ?_; intro v' w5 hown' hgrow _; obtain ⟨g5, cap5, rfl⟩ := ownsRow_succ hown'; obtain ⟨hv1, hv2, _, hk2, hb2⟩ := HVV.out.appended (by decide) (own_mono (Nat.le_succ _) HRW.out) hB.size (Nat.le_refl _) (own_mono (Nat.le_succ _) hown') hgrow; have hr2 := hown'.kept (grownBy_setCell' w5 w.heap.size (.slice (some ⟨g5, 0, none⟩) (s.length + 1) cap5)) (.inr (hv1.not_row (by decide) hown').symm); have hc1 := hv1.cell; have hf1 := hv1.frozen)
    have KK : KeptOut (fun b => w.heap.size ≤ b) W (w5.setCell ⟨w.heap.size, 0, none⟩ (.slice (some ⟨g5, 0, none⟩) (s.length + 1) cap5)) := ((((KeptOut.refl (fun b => w.heap.size ≤ b) W).alloc _).trans ((kept_of_grown hgrow).mono (fun j _ e => by have := (HRW.out.lt j e).1; show w.heap.size ≤ j; omega)))).setCell (p := ⟨w.heap.size, 0, none⟩) (Nat.le_refl _) _
    exact ⟨hk2.from _, KK, ⟨_, hv2, by rw [List.length_append, flat_snoc]; exact hr2, trivial⟩, hB.trans hb2, Nat.le_trans hsz KK.size⟩
  case done =>
    rintro D ys W hD rfl ⟨⟨v, hv, hrow, hG⟩, hB, hsz⟩ hK
    have hc := hv.cell
    have HRW := Lib.hid hrow
    clear hrow hv
    gi_wp2
    refine ⟨by simp, .inl ⟨_, _, rfl, run_takeDeferred hK, ?_⟩⟩
    exact ⟨_, results_tmp rfl _ _ _, v, rfl, ownsRow_putObj (own_mono (Nat.le_succ _) HRW.out) _ hK rfl, hB.trans (belowK_b (w := w) (Nat.le_refl _) W D _ _ (by omega) hK rfl rfl)⟩
  case stop =>
    rintro D c s W hD hSp hx hK
    exact hx.elim
theorem collect_any (Bn hb : Nat) (L : List EntryD) (hL : L.length ≤ 1000) (w : World) (hbx : w.cell? ⟨Bn, 0, none⟩ = some (.pointer (some ⟨hb, 0, none⟩))) (B : Nat) (hS : SkipL B hb w L) :
    Calls Tryd.prog 32 #[.func (.func 54) #[] #[.pointer (some ⟨Bn, 0, none⟩)]] w (OwnE w L) := by
  go_enter Tryd.func32, Tryd.ntmps32
  go_wp2_with fail
  refine (appendSeq_any Bn hb L hL w hbx B hS).mono ?_
  rintro e w1 ⟨v, rfl, o1, b1⟩
  go_wp2
  go_ret
  exact ⟨v, rfl, o1, b1⟩
end Go.Proofs.YteejabpohnfoaaaDoor
