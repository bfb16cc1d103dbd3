import Derived.Test.YtbioljpjpflboaaGreatDoorRangeM
import Derived.Test.YtbioljpjpflboaaGreatDoorSpaceP
import Derived.RangeFuncBox
import Derived.RangeFuncLeaves
import Derived.OwnWalkIn
import Derived.TacticsInMore
import Derived.LoopIn
import Derived.Sort.LoopGhostIn
import Derived.Shelf.Abstract
/- What is around a space, told one by one: the program's iterator. -/
namespace Go.Proofs.YtbioljpjpflboaaGreatDoor
open Go Go.RowKit Go.Shelf

attribute [local go_sem] Oper.semAt_some

/-- the block of a node as a pointer -/
def adrN (nbl : List Nat) (c : Option (Fin nbl.length)) : Option Addr := c.map fun i => ⟨nbl[i], 0, none⟩
def encN (nbl : List Nat) (i : Fin nbl.length) : Array Value := #[.pointer (some ⟨nbl[i], 0, none⟩)]
def TrailAll {α : Type} (nx : α → Option α) (o : Option α) (xs : List α) : Prop := ∃ k, xs = trail nx o k ∧ after nx o k = none
def TrailPre {α : Type} (nx : α → Option α) (o : Option α) (xs : List α) : Prop := xs = trail nx o xs.length

set_option maxRecDepth 100000 in
set_option maxHeartbeats 2000000 in
theorem around_core (m : Nat) (hm : 1 ≤ m) (nbl : List Nat) (nx : Fin nbl.length → Option (Fin nbl.length)) (o : Option (Fin nbl.length)) (Bn : Nat) (T : Nat → Prop) (hTb : ∀ i : Fin nbl.length, ¬ T nbl[i]) (M : Nat) (w0 : World)
    (hbx : w0.cell? ⟨Bn, 0, none⟩ = some (.pointer (adrN nbl o))) (hnd : ∀ i : Fin nbl.length, w0.cell? ⟨nbl[i], 6, none⟩ = some (.pointer (adrN nbl (nx i))))
    (lp : Nat) (J Jx : List (Fin nbl.length) → World → Prop) (W : World) (hbW : Below w0.heap.size w0 W)
    (hM : ∀ k i W1, after nx o k = some i → J (trail nx o k) W1 → k ≤ M)
    (hY : ∀ k i W1, after nx o k = some i → J (trail nx o k) W1 → YieldAt Fence.wide (m - 1) Tryz.prog lp (encN nbl i) W1 fun e W2 => (e = .returned (.bool true) ∧ J (trail nx o k ++ [i]) W2 ∧ KeptOut T W1 W2) ∨ (e = .returned (.bool false) ∧ Jx (trail nx o k ++ [i]) W2))
    (h0 : J [] W) :
    CallsIn Fence.wide m Tryz.prog 149 (#[.func (.yield lp) #[] #[]] ++ #[.pointer (some ⟨Bn, 0, none⟩)]) W fun e W2 => (∃ v, e = .returned v) ∧ ((∃ xs, TrailAll nx o xs ∧ J xs W2) ∨ (∃ pre, TrailPre nx o pre ∧ Jx pre W2)) := by
  have bnl : Bn < w0.heap.size := by have := World.block_lt_of_cell? w0 _ hbx; simpa using this
  have HBX := Lib.hid ((hbW.cell (p := ⟨Bn, 0, none⟩) bnl).trans hbx)
  have HND := Lib.hid (show ∀ i : Fin nbl.length, W.cell? ⟨nbl[i], 6, none⟩ = some (.pointer (adrN nbl (nx i))) from fun i => by
    have := World.block_lt_of_cell? w0 _ (hnd i)
    exact (hbW.cell (p := ⟨nbl[i], 6, none⟩) (by simpa using this)).trans (hnd i))
  have HNL := Lib.hid (show ∀ i : Fin nbl.length, nbl[i] < W.heap.size from fun i => by
    have := World.block_lt_of_cell? W _ (HND.out i)
    simpa using this)
  have bnW : Bn < W.heap.size := Nat.lt_of_lt_of_le bnl hbW.size
  have hc0 := HBX.out
  clear hnd hbx
  refine callsIn_of_wp Tryz.func149 rfl trivial ?_ rfl
  simp only [Tryz.ntmps149, List.size_toArray, List.length_cons, List.length_nil, Nat.reduceAdd, Nat.reduceSub, Array.replicate_succ, Array.replicate_zero, List.push_toArray, List.append_toArray, List.nil_append, List.cons_append]
  gi_wp2_with fail
  gi_loopg [3] (M + 1) (fun q v3 wr => ∃ (k : Nat) (c : Option (Fin nbl.length)), k + q = M + 1 ∧ after nx o k = c ∧ v3 = .pointer (adrN nbl c) ∧ J (trail nx o k) wr ∧ KeptOut T W wr)
  case atStart => exact ⟨0, o, by omega, rfl, rfl, by rw [trail_zero]; exact h0, KeptOut.refl _ _⟩
  case round =>
    obtain ⟨k, c, hkq, hc, rfl, hJk, hkp⟩ := hrel
    have HC := Lib.hid hc
    have HQ := Lib.hid hkq
    clear hc hkq
    cases c with
    | none =>
      rw [show adrN nbl none = none from rfl]
      gi_wp2
      go_end0
      exact ⟨⟨_, rfl⟩, .inl ⟨_, ⟨k, rfl, HC.out⟩, hJk⟩⟩
    | some i =>
      have hlen := trail_len k o i HC.out
      have hkM := hM k i _ HC.out hJk
      have HT := Lib.hid (show trail nx o (k + 1) = trail nx o k ++ [i] by rw [trail_succ, HC.out]; rfl)
      have HA := Lib.hid (show after nx o (k + 1) = nx i by rw [after_succ, HC.out]; rfl)
      have hL := HNL.out i
      have hTi := hTb i
      have hN := HND.out i
      obtain ⟨fn, tmps, assign, body, hy, hR⟩ := hY k i _ HC.out hJk
      unfold encN at hy
      obtain ⟨bi, hbi⟩ : ∃ b, nbl[i] = b := ⟨_, rfl⟩
      rw [show adrN nbl (some i) = some ⟨nbl[i], 0, none⟩ from rfl]
      rw [hbi] at hy hL hTi hN ⊢
      clear hbi
      gi_wp2
      refine hR.mono ?_
      rintro e W3 (⟨rfl, hJ3, hk3⟩ | ⟨rfl, hJx3⟩)
      · rw [← HT.out] at hJ3
        have K3 : KeptOut T W W3 := hkp.trans hk3
        have c6 := (K3.cell (p := ⟨bi, 6, none⟩) hL hTi).trans hN
        have J3 := Lib.hid hJ3
        clear hJ3 hJk hk3 hY hkp
        gi_wp2
        go_roundg (gk - 1)
        case measure => have := HQ.out; omega
        case rel => exact ⟨k + 1, _, by have := HQ.out; omega, HA.out, rfl, J3.out, K3⟩
      · rw [← HT.out] at hJx3
        have J3 := Lib.hid hJx3
        clear hJx3 hJk hY hkp
        gi_wp2
        refine bodyPost_ret (results_none rfl _ _ _) rfl ?_
        refine ⟨⟨_, rfl⟩, .inr ⟨_, ?_, J3.out⟩⟩
        show trail nx o (k + 1) = trail nx o (trail nx o (k + 1)).length
        rw [HT.out, List.length_append, hlen, ← HT.out]; rfl

theorem around_seq (m : Nat) (hm : 1 ≤ m) (nbl : List Nat) (nx : Fin nbl.length → Option (Fin nbl.length)) (o : Option (Fin nbl.length)) (Bn : Nat) (T : Nat → Prop) (hTb : ∀ i : Fin nbl.length, ¬ T nbl[i]) (M : Nat) (w0 : World)
    (hbx : w0.cell? ⟨Bn, 0, none⟩ = some (.pointer (adrN nbl o))) (hnd : ∀ i : Fin nbl.length, w0.cell? ⟨nbl[i], 6, none⟩ = some (.pointer (adrN nbl (nx i)))) :
    SeqM Fence.wide m Tryz.prog 149 #[.pointer (some ⟨Bn, 0, none⟩)] (encN nbl) (KeptOut T) (TrailAll nx o) (TrailPre nx o) M w0 := by
  intro lp J Jx W hbW hJ hJx hM hY h0
  exact around_core m hm nbl nx o Bn T hTb M w0 hbx hnd lp J Jx W hbW (fun k i W1 hk hj => by have := hM _ _ hj; rwa [trail_len k o i hk] at this) (fun k i W1 hk hj => hY _ i W1 hj) h0

/-- where the way outward ends -/
theorem around_stops (m : Nat) (hm : 1 ≤ m) (nbl : List Nat) (nx : Fin nbl.length → Option (Fin nbl.length)) (o : Option (Fin nbl.length)) (Bn : Nat) (T : Nat → Prop) (hTb : ∀ i : Fin nbl.length, ¬ T nbl[i]) (N : Nat) (hN : after nx o N = none) (w0 : World)
    (hbx : w0.cell? ⟨Bn, 0, none⟩ = some (.pointer (adrN nbl o))) (hnd : ∀ i : Fin nbl.length, w0.cell? ⟨nbl[i], 6, none⟩ = some (.pointer (adrN nbl (nx i)))) :
    SeqStopsK Fence.wide m Tryz.prog 149 #[.pointer (some ⟨Bn, 0, none⟩)] (encN nbl) (KeptOut T) (TrailAll nx o) (TrailPre nx o) N w0 := by
  intro lp J Jx W hbW hJ hJx hY h0
  have lt : ∀ k i, after nx o k = some i → k < N := fun k i hk => by
    rcases Nat.lt_or_ge k N with h | h
    · exact h
    · rw [(trail_end hN h).2] at hk; cases hk
  exact around_core m hm nbl nx o Bn T hTb N w0 hbx hnd lp J Jx W hbW (fun k i W1 hk hj => Nat.le_of_lt (lt k i hk)) (fun k i W1 hk hj => hY _ i W1 hj (by rw [trail_len k o i hk]; exact lt k i hk)) h0
end Go.Proofs.YtbioljpjpflboaaGreatDoor
