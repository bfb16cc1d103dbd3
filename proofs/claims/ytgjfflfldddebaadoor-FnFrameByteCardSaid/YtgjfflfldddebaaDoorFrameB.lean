import Derived.Test.YtgjfflfldddebaaDoorFrameI
import Derived.Test.YtgjfflfldddebaaDoorKept
import Derived.RangeFuncBox
import Derived.RangeFuncLeaves
import Derived.Shelf.Abstract
import Derived.OwnWalkIn
import Derived.TacticsInMore
import Derived.LoopNIn
import Derived.LoopIn
/- The blocks of a text, told one by one: the program's iterator. -/
namespace Go.Proofs.YtgjfflfldddebaaDoor
open Go Go.RowKit Go.Shelf

attribute [local go_sem] Oper.semAt_some

/-- the three tables that blocks want lie as the program's text says -/
def FrT (w : World) : Prop := HashT w ∧ Lib.TabIs Tryd.prog w "internal/strconv.uint64pow10" .u64 Lib.pow10Tab
/-- S holds none of the three tables -/
def OffTabs (S : Nat → Prop) : Prop := ¬ S 0 ∧ ¬ S 1 ∧ ¬ S 3
theorem FrT.lt {w : World} (h : FrT w) : 0 < w.heap.size ∧ 1 < w.heap.size ∧ 3 < w.heap.size := by
  refine ⟨h.1.lt.1, h.1.lt.2, ?_⟩
  have := Lib.TabIs.cell h.2 (g := 3) (by kernel_rfl) 0 (by decide)
  have := World.block_lt_of_cell? w _ this
  simpa using this
theorem FrT.kept {S : Nat → Prop} {w w' : World} (h : FrT w) (hb : KeptOut S w w') (hs : OffTabs S) : FrT w' := by
  have hl := h.lt
  refine ⟨⟨range_kept h.1.1 hb (fun h => hs.1 h), range_kept h.1.2 hb (fun h => hs.2.1 h)⟩, ?_⟩
  have h2 := h.2
  unfold Lib.TabIs at h2 ⊢
  unfold World.var? at h2 ⊢
  rw [show (Tryd.prog).globalNamed "internal/strconv.uint64pow10" = some 3 by kernel_rfl] at h2 ⊢
  simp only [Option.bind_some] at h2 ⊢
  rw [hb.block _ hl.2.2 hs.2.2]
  exact h2
theorem offTabs_none : OffTabs (fun _ => False) := ⟨fun h => h, fun h => h, fun h => h⟩
theorem FrT.below {w w' : World} (h : FrT w) (hb : Below w.heap.size w w') : FrT w' := h.kept (S := fun _ => False) (.of_below hb) offTabs_none

def encStr (x : ByteArray) : Array Value := #[.string x]

theorem head_slice {h x p : ByteArray} : (shaS (h ++ x)).extract 0 16 ++ h ++ p = ((shaS (h ++ x)).extract 0 16 ++ h) ++ p := rfl
set_option maxRecDepth 100000 in
set_option maxHeartbeats 2000000 in
theorem blocks1_in (n : Nat) (hn : 1 ≤ n) (lp Bx Bt Bn : Nat) (t m : Nat) (ht : t < 100000000) (hm : m < 100000000) (x : ByteArray) (hx : x.size ≤ 2000) (T : Nat → Prop) (hTx : ¬ T Bx) (hTt : ¬ T Bt) (hTn : ¬ T Bn) (hTT : OffTabs T) (J Jx : List ByteArray → World → Prop)
    (hY : ∀ pre y W, J pre W → pre.length < partsN x.size → YieldAt Fence.wide (n - 1) Tryd.prog lp (encStr y) W fun e W' =>
      (e = .returned (.bool true) ∧ J (pre ++ [y]) W' ∧ KeptOut T W W') ∨ (e = .returned (.bool false) ∧ Jx (pre ++ [y]) W'))
    (W : World) (hJ : AbidesFrom W.heap.size J) (hBx : W.cell? ⟨Bx, 0, none⟩ = some (.string x)) (hBt : W.cell? ⟨Bt, 0, none⟩ = some (.int .i64 t)) (hBn : W.cell? ⟨Bn, 0, none⟩ = some (.int .i64 m))
    (hTab : FrT W) (h0 : J [] W) :
    CallsIn Fence.wide n Tryd.prog 48 #[.func (.yield lp) #[] #[], .pointer (some ⟨Bx, 0, none⟩), .pointer (some ⟨Bt, 0, none⟩), .pointer (some ⟨Bn, 0, none⟩)] W fun e W' => (∃ v, e = .returned v) ∧
      ((∃ ys, ys = putB t m x ∧ J ys W') ∨ (∃ pre, pre <+: putB t m x ∧ Jx pre W')) := by
  have HTab := Lib.hid hTab
  have HL := Lib.hid (putB_len t m x)
  have HG := Lib.hid (putB_get t m x)
  obtain ⟨P, hP⟩ : ∃ P, P = partsN x.size := ⟨_, rfl⟩
  have hP1 : 1 ≤ P := by rw [hP]; exact parts_pos _
  have hP15 : P ≤ 15 := by rw [hP]; exact parts_le hx
  rw [← hP] at HL HG
  have HPX := Lib.hid hP
  have HPN := Lib.hid (show P = max 1 ((x.size + 139) / 140) from hP)
  have bxl : Bx < W.heap.size := by have := World.block_lt_of_cell? W _ hBx; simpa using this
  have btl : Bt < W.heap.size := by have := World.block_lt_of_cell? W _ hBt; simpa using this
  have bnl : Bn < W.heap.size := by have := World.block_lt_of_cell? W _ hBn; simpa using this
  have hx0 : (0 : Int) ≤ (x.size : Int) := by omega
  have hxi : (x.size : Int) ≤ 2000 := by omega
  clear hTab hP
  refine callsIn_of_wp Tryd.func48 rfl trivial ?_ rfl
  simp only [Tryd.ntmps48, List.size_toArray, List.length_cons, List.length_nil, Nat.reduceAdd, Nat.reduceSub, Array.replicate_succ, Array.replicate_zero, List.push_toArray, List.append_toArray, List.nil_append, List.cons_append]
  gi_wp2_with (refine ⟨trivial, ?_⟩; gi_at_call 28; refine (callsIn_wide.2 (frameParts_any x.size (by omega) _)).mono ?_; rintro e w1 ⟨rfl, rfl⟩; rw [← HPX.out])
  gi_loopw [14] (fun v14 wr => ∃ (i : Nat) (out : List ByteArray), i ≤ P ∧ v14 = .int .i64 i ∧ out = (putB t m x).take i ∧ J out wr ∧ KeptOut T W wr) (fun v14 _ => P - (intOf v14).toNat)
  case atStart => exact ⟨0, [], Nat.zero_le _, rfl, by simp, h0, KeptOut.refl _ _⟩
  case round =>
    obtain ⟨i, out, hk, rfl, hout, hJo, hkp⟩ := hrel
    have HO := Lib.hid hout
    have zk := hkp.size
    by_cases hlt : i < P
    · have hli : (i : Int) < (P : Int) := by omega
      have hi0 : (0 : Int) ≤ (i : Int) := by omega
      have hgi : i < (putB t m x).length := by rw [HL.out]; exact hlt
      have HGI := Lib.hid (HG.out i hgi)
      have HTK := Lib.hid (List.take_succ_eq_append_getElem hgi)
      have cx : wr.cell? ⟨Bx, 0, none⟩ = some (.string x) := (hkp.cell (p := ⟨Bx, 0, none⟩) bxl hTx).trans hBx
      have ct : wr.cell? ⟨Bt, 0, none⟩ = some (.int .i64 t) := (hkp.cell (p := ⟨Bt, 0, none⟩) btl hTt).trans hBt
      have cn : wr.cell? ⟨Bn, 0, none⟩ = some (.int .i64 m) := (hkp.cell (p := ⟨Bn, 0, none⟩) bnl hTn).trans hBn
      have HTw := Lib.hid (HTab.out.kept hkp hTT)
      obtain ⟨a, ha⟩ : ∃ a, a = 140 * i := ⟨_, rfl⟩
      have ham : (i : Int) * 140 = (a : Int) := by omega
      have hax : a ≤ x.size := by have := HPN.out; omega
      have hai : (a : Int) ≤ (x.size : Int) := by omega
      have ha0 : (0 : Int) ≤ (a : Int) := by omega
      have HPB := Lib.hid (show pieceB x i = x.extract a (min (a + 140) x.size) by unfold pieceB; rw [ha])
      clear ha hout
      have HMN := Lib.hid (show (min ((a : Int) + 140) (x.size : Int)).toNat = min (a + 140) x.size by omega)
      gi_wp2_with fail
      rw [HMN.out, ← HPB.out]
      refine ⟨trivial, ?_⟩
      refine (callsIn_wide.2 (frameHead_any t m i P (by omega) (by omega) (by omega) (by omega) _ HTw.out.2)).mono ?_
      rintro e w1 ⟨rfl, b1⟩
      rw [headI_nat]
      have hhs := headB_size ht hm (show i < 100 by omega) (show P < 100 by omega)
      have HD := Lib.hid (show (shaS (headB t m i P ++ x)).extract 0 16 ++ headB t m i P ++ pieceB x i = (putB t m x)[i] by rw [HGI.out, blockB_eq])
      have hps : (pieceB x i).size ≤ 140 := by rw [HPB.out, ByteArray.size_extract]; omega
      have J1 : J out w1 := hJ _ _ _ none hJo (grown_of_below b1) (fun r e => by cases e)
      have K1 : KeptOut T W w1 := hkp.trans (.of_below b1)
      have cx1 : w1.cell? ⟨Bx, 0, none⟩ = some (.string x) := (K1.cell (p := ⟨Bx, 0, none⟩) bxl hTx).trans hBx
      have HT1 := Lib.hid (HTab.out.kept K1 hTT)
      clear cx ct cn b1
      generalize headB t m i P = hd at HD hhs ⊢
      have f1 : ¬ 9223372036854775807 < hd.size + x.size := by omega
      gi_wp2_with fail
      refine ⟨trivial, ?_⟩
      refine (callsIn_wide.2 (implHash_any (hd ++ x) _ (by rw [ByteArray.size_append]; omega) HT1.out.1)).mono ?_
      rintro e w2 ⟨rfl, b2⟩
      have J2 : J out w2 := hJ _ _ _ none J1 (grown_of_below b2) (fun r e => by cases e)
      have K2 : KeptOut T W w2 := K1.trans (.of_below b2)
      have hsz := shaS_size (hd ++ x)
      clear b2 cx1 J1 K1
      generalize shaS (hd ++ x) = sm at HD hsz ⊢
      have cx2 : w2.cell? ⟨Bx, 0, none⟩ = some (.string x) := (K2.cell (p := ⟨Bx, 0, none⟩) bxl hTx).trans hBx
      have hex : (sm.extract 0 16).size = 16 := by rw [ByteArray.size_extract, hsz]; rfl
      have HE := Lib.hid hex
      have g1 : ¬ 9223372036854775807 < 16 + hd.size := by omega
      have g2 : ¬ 9223372036854775807 < 16 + hd.size + (pieceB x i).size := by omega
      clear hex
      obtain ⟨fn, tmps, assign, body, hy, hR⟩ := hY out (sm.extract 0 16 ++ hd ++ pieceB x i) _ J2 (by rw [← HPX.out, HO.out, List.length_take]; omega)
      unfold encStr at hy
      gi_wp2
      refine hR.mono ?_
      rintro e W3 (⟨rfl, hJ3, hk3⟩ | ⟨rfl, hJx3⟩)
      · gi_wp2
        go_roundw
        case rel => exact ⟨i + 1, _, by omega, by go_num, by rw [HTK.out, ← HO.out, ← HD.out], hJ3, K2.trans hk3⟩
        case measure => simp [intOf]; omega
      · gi_wp2
        refine bodyPost_ret (results_none rfl _ _ _) rfl ?_
        refine ⟨⟨_, rfl⟩, .inr ⟨_, ?_, hJx3⟩⟩
        rw [HD.out, HO.out, ← HTK.out]
        exact List.take_prefix _ _
    · have hie : i = P := by omega
      subst hie
      have HE := Lib.hid (show (putB t m x).take i = putB t m x from List.take_of_length_le (by rw [HL.out]; exact Nat.le_refl _))
      gi_wp2
      go_end0
      exact ⟨⟨_, rfl⟩, .inl ⟨_, by rw [HO.out, HE.out], hJo⟩⟩
end Go.Proofs.YtgjfflfldddebaaDoor
