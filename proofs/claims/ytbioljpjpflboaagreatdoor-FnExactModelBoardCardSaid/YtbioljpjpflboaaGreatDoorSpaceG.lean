import Derived.Test.YtbioljpjpflboaaGreatDoorSpaceI
/- SpaceGoing of the program. -/
namespace Go.Proofs.YtbioljpjpflboaaGreatDoor
open Go Go.RowKit Go.Shelf

attribute [local go_sem] Oper.semAt_some

/-- the spaces of the tree that the program makes -/
def treeOf (l : List SpaceD) : List SpaceD := if spsOk l then l else []
theorem link_uni {w w' : World} {l : List SpaceD} {e : Ending} (h : LinkPost w l e w') : ∃ a c nbl, nbl.length = (treeOf l).length ∧ e = .returned (.tuple #[.agg #[.slice a nbl.length c], .bool (spsOk l)]) ∧ TreeS w' w.heap.size a nbl (treeOf l) ∧ Below w.heap.size w w' := by
  rcases h with ⟨h, rfl, b⟩ | ⟨h, a, c, nbl, rfl, t, b⟩
  · have e1 : treeOf l = [] := by unfold treeOf; rw [h]; rfl
    refine ⟨none, 0, [], by rw [e1]; rfl, by rw [h]; rfl, ?_, b⟩
    rw [e1]
    exact ⟨rfl, ⟨by simp, .inl rfl⟩, fun i hi => absurd hi (Nat.not_lt_zero _), by simp⟩
  · have e1 : treeOf l = l := by unfold treeOf; rw [h]; rfl
    rw [e1]
    exact ⟨a, c, nbl, t.len, by rw [h, t.len], t, b⟩
theorem treeOf_len (l : List SpaceD) : (treeOf l).length ≤ 7 := by
  unfold treeOf
  split
  · next h => exact (sps_len h).2.1
  · simp
theorem treeOf_end {l : List SpaceD} {m : Nat} (h : m = (treeOf l).length) (name : ByteArray) : after (nxF (treeOf l) m) (finO m (idxS (treeOf l) name)) 7 = none := by
  by_cases hk : spsOk l = true
  · have e1 : treeOf l = l := by unfold treeOf; rw [hk]; rfl
    rw [e1] at h ⊢
    exact (trail_end (end_fin h hk name) (sps_len hk).2.1).2
  · have e1 : treeOf l = [] := by unfold treeOf; rw [if_neg hk]
    rw [e1]
    exact after_none _ _
def gnF (l : List SpaceD) (m : Nat) (i : Fin m) : Bool := (l.getD i.val default).2.2.2.1
theorem going_names {l : List SpaceD} {m : Nat} (h : m = (treeOf l).length) (name : ByteArray) : (trail (nxF (treeOf l) m) (finO m (idxS (treeOf l) name)) 7).any (gnF (treeOf l) m) = (spsOk l && goSp l name) := by
  by_cases hk : spsOk l = true
  · have e1 : treeOf l = l := by unfold treeOf; rw [hk]; rfl
    rw [e1] at h ⊢
    rw [hk, Bool.true_and, (trail_end (end_fin h hk name) (sps_len hk).2.1).1]
    unfold goSp
    rw [← ups_names h hk name, List.any_map]
    have hl := (sps_len hk).2.2
    have : gnF l m = goneN l ∘ nmF l m := by
      funext i
      have hi : i.val < l.length := by rw [← h]; exact i.2
      show (l.getD i.val default).2.2.2.1 = goneN l (nmS l i.val)
      unfold goneN
      rw [line_idx hl hi]
    rw [this]
  · have e1 : treeOf l = [] := by unfold treeOf; rw [if_neg hk]
    rw [e1]
    have : idxS [] name = none := rfl
    rw [this, show finO m none = none from rfl, trail_none]
    rw [Bool.not_eq_true] at hk
    rw [hk]; rfl

theorem ownFrom_kept {β : Type} {B : Nat} {T : Nat → Prop} (W0 : World) (hT : ∀ b, B ≤ b → T b) : OwnFrom B (fun (_ : β) W => KeptOut T W0 W) := fun _ _ _ _ hs hg hr =>
  hs.trans ((kept_of_grown hg).mono (fun k _ e => hT k (hr k e).1))
/-- between two rounds -/
def GoE (r : Nat) (W0 : World) (T : Nat → Prop) {m : Nat} (gn : Fin m → Bool) (s : List (Fin m)) (W : World) : Prop :=
  Boxed W r 4 (.bool false) ∧ (KeptOut T W0 W ∧ s.any gn = false)
theorem goE_own (r : Nat) (W0 : World) (T : Nat → Prop) {m : Nat} (gn : Fin m → Bool) (B : Nat) (hT : ∀ b, B ≤ b → T b) : OwnFrom B (GoE r W0 T gn) :=
  OwnFrom.and (Own.from (boxed_own (β := List (Fin m)) _ _ (fun _ => _)) _) (OwnFrom.and (ownFrom_kept W0 hT) (ownFrom_pure _ _))
/-- left -/
def GoX (r : Nat) (W0 : World) (T : Nat → Prop) {m : Nat} (gn : Fin m → Bool) (s : List (Fin m)) (W : World) : Prop :=
  Boxed W r 4 (.bool true) ∧ (KeptOut T W0 W ∧ s.any gn = true)
theorem goX_own (r : Nat) (W0 : World) (T : Nat → Prop) {m : Nat} (gn : Fin m → Bool) (B : Nat) (hT : ∀ b, B ≤ b → T b) : OwnFrom B (GoX r W0 T gn) :=
  OwnFrom.and (Own.from (boxed_own (β := List (Fin m)) _ _ (fun _ => _)) _) (OwnFrom.and (ownFrom_kept W0 hT) (ownFrom_pure _ _))

end Go.Proofs.YtbioljpjpflboaaGreatDoor
