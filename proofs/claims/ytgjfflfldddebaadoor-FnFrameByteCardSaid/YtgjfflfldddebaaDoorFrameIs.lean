import Derived.Test.YtgjfflfldddebaaDoorFramePutI
import Derived.Test.YtgjfflfldddebaaDoorFrameGS
import Derived.Deep.QuietTactic
import Derived.BigQuiet
import Derived.ControlIn
/- FrameGet of the program: whether blocks are just those of a text. -/
namespace Go.Proofs.YtgjfflfldddebaaDoor
open Go Go.RowKit Go.Shelf

attribute [local go_sem] Oper.semAt_some

def isI (t n : Int) (x : ByteArray) (l : List ByteArray) : Bool := frameOkB t n x && decide (putB t.toNat n.toNat x = l)
def IsOut (t n : Int) (x : ByteArray) (l : List ByteArray) (w : World) (e : Ending) (w' : World) : Prop := e = .returned (.bool (isI t n x l)) ∧ Below w.heap.size w w'

theorem below_ad (w : World) (o p : Obj) (n : Nat) : Below w.heap.size w (((w.alloc o).alloc p).drewN n) := below_drewN (((Below.refl _ w).alloc (Nat.le_refl _) o).alloc (by simp) p) n
/-- between two rounds -/
def InvE (w : World) (a : Option Addr) (c : Nat) (l : List ByteArray) (n2 : Nat) (s : List ByteArray) (W : World) : Prop :=
  (Boxed W w.heap.size 25 (.slice a l.length c) ∧ Boxed W (w.heap.size + 1) 4 (.bool false) ∧ Boxed W (w.heap.size + 2) 3 (.int .i64 s.length)) ∧ (Below w.heap.size w W ∧ s = l.take s.length) ∧ n2 ≤ W.heap.size
theorem invE_own (w : World) (a : Option Addr) (c : Nat) (l : List ByteArray) (n2 B : Nat) (hB : w.heap.size ≤ B) : OwnFrom B (InvE w a c l n2) :=
  OwnFrom.and (OwnFrom.and (Own.from (boxed_own (β := List ByteArray) _ _ (fun _ => _)) _) (OwnFrom.and (Own.from (boxed_own (β := List ByteArray) _ _ (fun _ => _)) _) (Own.from (boxed_own (β := List ByteArray) _ _ (fun s => .int .i64 s.length)) _)))
    (OwnFrom.and (OwnFrom.and (ownFrom_below (Nat.le_refl _) hB) (ownFrom_pure _ _)) (fun _ _ _ _ hs hg _ => Nat.le_trans hs hg.size))
/-- left, for a block that is another one -/
def InvX (w : World) (l : List ByteArray) (s : List ByteArray) (W : World) : Prop :=
  Boxed W (w.heap.size + 1) 4 (.bool false) ∧ Below w.heap.size w W ∧ ∃ q y, s = q ++ [y] ∧ l[q.length]? ≠ some y
theorem invX_own (w : World) (l : List ByteArray) (B : Nat) (hB : w.heap.size ≤ B) : OwnFrom B (InvX w l) :=
  OwnFrom.and (Own.from (boxed_own (β := List ByteArray) _ _ (fun _ => _)) _) (OwnFrom.and (ownFrom_below (Nat.le_refl _) hB) (ownFrom_pure _ _))
theorem frameOk_is {t n : Int} {x : ByteArray} (hx : x.size ≤ maxLen) {b : Bool} (h : frameOkB t n x = b) (w : World) : Calls Tryd.prog 27 #[.int .i64 t, .int .i64 n, .string x] w fun e w' => e = .returned (.bool b) ∧ w' = w :=
  (frameOk_any t n x hx w).mono fun _ _ ⟨h1, k⟩ => ⟨by rw [h1, h], k.symm⟩
theorem frameParts_is {m q : Nat} (hm : m ≤ 1099511627776) (h : partsN m = q) (w : World) : Calls Tryd.prog 28 #[.int .i64 m] w fun e w' => e = .returned (.int .i64 q) ∧ w' = w :=
  (frameParts_any m hm w).mono fun _ _ ⟨h1, k⟩ => ⟨by rw [h1, h], k.symm⟩

set_option maxRecDepth 100000 in
set_option maxHeartbeats 2000000 in
theorem frameIs_any (t n : Int) (x : ByteArray) (hx : x.size ≤ maxLen) (a : Option Addr) (c : Nat) (l : List ByteArray) (w : World) (hl : StrS w a l) (hTab : FrT w) :
    Calls Tryd.prog 34 #[.int .i64 t, .int .i64 n, .string x, .slice a l.length c] w (IsOut t n x l w) := by
  have HTab := Lib.hid hTab
  have HX := Lib.hid hl
  have hxl := hx
  unfold maxLen at hxl
  clear hTab hl
  refine (callsIn_wide (n := 3)).1 ?_
  refine callsIn_of_wp_marks Tryd.func34 rfl trivial ?_ rfl
  simp only [Tryd.ntmps34, List.size_toArray, List.length_cons, List.length_nil, Nat.reduceAdd, Nat.reduceSub, Array.replicate_succ, Array.replicate_zero, List.push_toArray, List.append_toArray, List.nil_append, List.cons_append]
  cases h : frameOkB t n x with
  | false =>
    have H := Lib.hid h
    have HI := Lib.hid (show isI t n x l = false by unfold isI; rw [h]; rfl)
    clear h
    gi_wp2_with fail
    refine wpIn_wide.2 ?_
    go_quiet ((go_at_call 27; exact Calls.quiet_of_same (frameOk_is hx H.out _)))
    gi_wp2_with fail
    refine ⟨.bool false, by simp [results, Tryd.results34, go_sem], by rw [HI.out], ?_⟩
    exact Below.setCell (below_ad w _ _ nq) (Nat.le_succ _) _
  | true =>
    have H := Lib.hid h
    simp only [frameOkB, inB, Bool.and_eq_true, decide_eq_true_eq] at h
    obtain ⟨⟨⟨h1, h2⟩, h3, h4⟩, h5⟩ := h
    obtain ⟨t, rfl⟩ := Int.eq_ofNat_of_zero_le h1
    obtain ⟨n, rfl⟩ := Int.eq_ofNat_of_zero_le h3
    have HI := Lib.hid (show isI (t : Int) (n : Int) x l = decide (putB t n x = l) by unfold isI; rw [H.out, Bool.true_and]; rfl)
    obtain ⟨P, hP⟩ : ∃ P, P = partsN x.size := ⟨_, rfl⟩
    have hP1 : 1 ≤ P := by rw [hP]; exact parts_pos _
    have hP15 : P ≤ 15 := by rw [hP]; exact parts_le h5
    have HP := Lib.hid hP
    have HL := Lib.hid (show (putB t n x).length = P by rw [putB_len, ← hP])
    clear hP
    by_cases hq : l.length = P
    · have q1 : ((l.length : Int) != (P : Int)) = false := by rw [hq]; simp
      have HQ := Lib.hid hq
      have hqi : (l.length : Int) ≤ (P : Int) := by omega
      clear hq
      gi_wp2_with fail
      refine wpIn_wide.2 ?_
      go_quiet ((first | (go_at_call 27; exact Calls.quiet_of_same (frameOk_is hx H.out _)) | (go_at_call 28; exact Calls.quiet_of_same (frameParts_is (by omega) HP.out.symm _))))
      gi_wp2_with fail
      refine ⟨trivial, ?_⟩
      refine (callsIn_wide.2 (blocksMk_any t n x _)).mono ?_
      rintro e w3 ⟨rfl, rfl⟩
      obtain ⟨W1, hW1⟩ : ∃ W1, ((((w.alloc (.cells #[.slice a l.length c] 25)).alloc (.cells #[.bool false] 4)).drewN nq).alloc (.cells #[.int .i64 0] 3)) = W1 := ⟨_, rfl⟩
      have S1 : W1.heap.size = w.heap.size + 3 := by rw [← hW1]; simp
      have B1 : Below w.heap.size w W1 := by
        rw [← hW1]
        exact Below.alloc (below_ad w _ _ nq) (by simp; omega) _
      have bl : Boxed W1 w.heap.size 25 (.slice a l.length c) := by
        rw [← hW1]
        have := (Boxed.new w 25 (.slice a l.length c)).alloc (.cells #[.bool false] 4)
        exact Boxed.alloc (this.kept (grown_of_below (below_drewN (Below.refl _ _) nq)) (by simp)) _
      have br : Boxed W1 (w.heap.size + 1) 4 (.bool false) := by
        rw [← hW1]
        have := Boxed.new (w.alloc (.cells #[.slice a l.length c] 25)) 4 (.bool false)
        rw [World.size_alloc] at this
        exact Boxed.alloc (this.kept (grown_of_below (below_drewN (Below.refl _ _) nq)) (by simp)) _
      have bp : Boxed W1 (w.heap.size + 2) 3 (.int .i64 0) := by
        rw [← hW1]
        have := Boxed.new (((w.alloc (.cells #[.slice a l.length c] 25)).alloc (.cells #[.bool false] 4)).drewN nq) 3 (.int .i64 0)
        simpa using this
      rw [hW1]
      obtain ⟨W0, hW0, A0, S0, ct, cn, cx⟩ := boxes_three W1 t n x 3 9
      rw [hW0]
      simp only [S1] at ct cn cx S0 A0 ⊢
      have B0 : Below w.heap.size w W0 := B1.trans (A0.mono (by omega))
      have bl0 : Boxed W0 w.heap.size 25 (.slice a l.length c) := (A0.block _ (by omega)).trans bl
      have br0 : Boxed W0 (w.heap.size + 1) 4 (.bool false) := (A0.block _ (by omega)).trans br
      have bp0 : Boxed W0 (w.heap.size + 2) 3 (.int .i64 0) := (A0.block _ (by omega)).trans bp
      have tl := HTab.out.lt
      have HTT := Lib.hid (show OffTabs (fun b => b = w.heap.size + 1 ∨ b = w.heap.size + 2 ∨ w.heap.size + 6 ≤ b) from ⟨by omega, by omega, by omega⟩)
      have HT0 := Lib.hid (HTab.out.below B0)
      clear hW0 hW1 bl br bp
      gi_wp2_with fail
      have HIV := invE_own w a c l (w.heap.size + 6) W0.heap.size (by omega)
      have HIX := invX_own w l W0.heap.size (by omega)
      refine wpIn_rangeFunc_ownH (F := Fence.wide) (n := 3) rfl (by omega) (gf := 48) (lb := #[.pointer (some ⟨w.heap.size + 3 + 2, 0, none⟩), .pointer (some ⟨w.heap.size + 3, 0, none⟩), .pointer (some ⟨w.heap.size + 3 + 1, 0, none⟩)]) rfl trivial (enters_of Tryd.func48 (by kernel_rfl) rfl)
        (blocks_stops 2 (by omega) (w.heap.size + 3 + 2) (w.heap.size + 3) (w.heap.size + 3 + 1) t n (by omega) (by omega) x h5 (fun b => b = w.heap.size + 1 ∨ b = w.heap.size + 2 ∨ w.heap.size + 6 ≤ b) (by omega) (by omega) (by omega) HTT.out W0 cx ct cn HT0.out)
        KeptOut.trans (fun W k o o' hk h _ _ => (kept_of_grown (grownBy_putObj' W k o')).mono (fun j _ e => .inr (.inr (by cases e; omega)))) (Below.refl _ _) (fun _ => rfl)
        (InvE w a c l (w.heap.size + 6)) (fun cd s W => cd = .ret ∧ InvX w l s W)
        HIV (fun cd s A B row hs hg hr => ⟨hs.1, HIX s A B row hs.2 hg hr⟩)
        ⟨⟨bl0, br0, bp0⟩, ⟨B0, rfl⟩, by omega⟩
        (fun y a' W => a' = { tmps := #[.int .i64 t, .int .i64 n, .string x, .slice a l.length c, undef, undef, undef, .pointer (some ⟨w.heap.size, 0, none⟩), .pointer (some ⟨w.heap.size + 1, 0, none⟩), .pointer (some ⟨w.heap.size + 1 + 1, 0, none⟩), .string y, .int .i64 t, .int .i64 n, .string x, .bool true, .bool false, .bool false, .slice a l.length c, .int .i64 l.length, .string x, .int .i64 x.size, .int .i64 P, .bool false, .bool false, .int .i64 t, .int .i64 n, .string x, .func (.func 48) #[] #[.pointer (some ⟨w.heap.size + 3 + 2, 0, none⟩), .pointer (some ⟨w.heap.size + 3, 0, none⟩), .pointer (some ⟨w.heap.size + 3 + 1, 0, none⟩)], .string y, undef, undef, undef, undef, undef, undef, undef, undef], defers := [] })
        (fun x a' s A B row hs hg hr => hs) ?assign ?body ?done ?stop
      case assign =>
        rintro lp s y W K hi hK
        simp only [encStr]
        gi_wp2
        exact hK _ _ (KeepsFrom.refl _ _) (KeptOut.refl _ _) hi rfl
      case body =>
        rintro lp s y a' W hlp ⟨r, hr⟩ ⟨⟨hbl, hbr, hbp⟩, ⟨hB, hst⟩, hsz⟩ rfl hlt
        rw [← HP.out] at hlt
        have hsl : s.length < l.length := by have := HQ.out; omega
        have HBL := Lib.hid hbl
        have HBR := Lib.hid hbr
        have HBP := Lib.hid hbp
        have HST := Lib.hid hst
        have hc1 := hbl.cell
        have hc2 := hbp.cell
        have hf2 := hbp.frozen
        have hc3 := hbr.cell
        have hf3 := hbr.frozen
        have XS := Lib.hid (HX.out.below hB)
        obtain ⟨b, o, rfl, hcell⟩ := XS.out.2.2.resolve_left (fun e => by rw [e] at hsl; simp at hsl)
        have hc4 := hcell s.length hsl
        have hsli : (s.length : Int) < (l.length : Int) := by omega
        have hs0 : (0 : Int) ≤ (s.length : Int) := by omega
        have HBB := Lib.hid hB
        clear hbl hbr hbp hst hB hcell
        by_cases e : l[s.length] = y
        · have q2 : (!l[s.length].toList == y.toList) = false := by rw [e]; simp
          have HST2 := Lib.hid (show s ++ [y] = l.take (s ++ [y]).length by rw [List.length_append, List.length_singleton, List.take_succ_eq_append_getElem hsl, ← HST.out, e])
          clear e
          gi_wp2_with fail
          have HL1 : ((s ++ [y]).length : Int) = (s.length : Int) + 1 := by simp
          refine ⟨(KeepsOthers.setCell W _ _).from _, (KeptOut.refl _ W).setCell (p := ⟨w.heap.size + 1 + 1, 0, none⟩) (.inr (.inl rfl)) _, ⟨HBL.out.other (by omega) _, HBR.out.other (by omega) _, ?_⟩, ⟨HBB.out.setCell (p := ⟨w.heap.size + 1 + 1, 0, none⟩) (by show w.heap.size ≤ w.heap.size + 1 + 1; omega) _, HST2.out⟩, by simpa [World.setCell] using hsz⟩
          rw [HL1]
          exact HBP.out.set _
        · have q2 : (!l[s.length].toList == y.toList) = true := by
            rw [Bool.not_eq_true', beq_eq_false_iff_ne]
            intro e2
            rw [ByteArray.toList_eq, ByteArray.toList_eq] at e2
            exact e (bytes_ext e2)
          have HNE := Lib.hid (show l[s.length]? ≠ some y by rw [List.getElem?_eq_getElem hsl]; exact fun e2 => e (Option.some.inj e2))
          clear e
          gi_wp2_with fail
          exact ⟨(KeepsOthers.setCell W _ _).from _, rfl, HBR.out.set _, HBB.out.setCell (p := ⟨w.heap.size + 1, 0, none⟩) (by show w.heap.size ≤ w.heap.size + 1; omega) _, s, y, rfl, HNE.out⟩
      case done =>
        rintro D ys W hD rfl ⟨⟨hbl, hbr, hbp⟩, ⟨hB, hst⟩, hsz⟩ hK
        have hc3 := hbr.cell
        have hf3 := hbr.frozen
        have HBR := Lib.hid hbr
        have HBB := Lib.hid hB
        have HT := Lib.hid (show isI (t : Int) (n : Int) x l = true by
          rw [HI.out, decide_eq_true]
          rw [hst, HL.out, ← HQ.out, List.take_length])
        clear hbl hbr hbp hst hB
        have hK2 : (W.setCell ⟨w.heap.size + 1, 0, none⟩ (.bool true)).heap[D]? = some (.deferred (some [])) := (Below.heap_setCell _ _ _ _ (by show D ≠ w.heap.size + 1; omega)).trans hK
        have hc5 := ((HBR.out.set (.bool true)).kept (grownBy_putObj' _ D (.deferred none)) (by simp; omega)).cell
        gi_wp2
        refine ⟨by simp, .inl ⟨_, _, rfl, run_takeDeferred hK2, ?_⟩⟩
        refine ⟨.bool true, by simp [results, Tryd.results34, go_sem, hc5], by rw [HT.out], ?_⟩
        exact (HBB.out.setCell (p := ⟨w.heap.size + 1, 0, none⟩) (by show w.heap.size ≤ w.heap.size + 1; omega) _).trans (belowK_b (w := w) (Nat.le_refl _) _ D _ _ (by omega) hK2 rfl rfl)
      case stop =>
        rintro D cd s W hD hSp ⟨rfl, hbr, hB, q, y, rfl, hne⟩ hK
        have hc3 := hbr.cell
        have HBB := Lib.hid hB
        have HT := Lib.hid (show isI (t : Int) (n : Int) x l = false by
          rw [HI.out, decide_eq_false]
          intro e
          rw [e] at hSp
          obtain ⟨r, hr⟩ := hSp
          apply hne
          rw [← hr]
          simp)
        have HBR := Lib.hid hbr
        clear hbr hB hne hSp
        have hc5 := (HBR.out.kept (grownBy_putObj' _ D (.deferred none)) (by simp; omega)).cell
        gi_wp2
        refine ⟨by simp, .inl ⟨_, _, rfl, run_takeDeferred hK, ?_⟩⟩
        refine ⟨.bool false, by simp [results, Tryd.results34, go_sem, hc5], by rw [HT.out], ?_⟩
        exact HBB.out.trans (belowK_b (w := w) (Nat.le_refl _) _ D _ _ (by omega) hK rfl rfl)
    · have q1 : ((l.length : Int) != (P : Int)) = true := by simp; omega
      have HF := Lib.hid (show isI (t : Int) (n : Int) x l = false by rw [HI.out, decide_eq_false (fun e => hq (by rw [← e, HL.out]))])
      clear hq
      gi_wp2_with fail
      refine wpIn_wide.2 ?_
      go_quiet ((first | (go_at_call 27; exact Calls.quiet_of_same (frameOk_is hx H.out _)) | (go_at_call 28; exact Calls.quiet_of_same (frameParts_is (by omega) HP.out.symm _))))
      gi_wp2_with fail
      refine ⟨.bool false, by simp [results, Tryd.results34, go_sem], by rw [HF.out], ?_⟩
      exact Below.setCell (below_ad w _ _ nq) (Nat.le_succ _) _
end Go.Proofs.YtgjfflfldddebaaDoor
