import Derived.Test.YtbioljpjpflboaaGreatDoorBase
import Derived.RangeFuncNested
import Derived.RangeFuncBox
/- A range over a function that need not come to an end by itself: its caller leaves it after so many rounds at the latest. -/
namespace Go.Proofs.YtbioljpjpflboaaGreatDoor
open Go Go.RowKit
variable {F : Fence} {n : Nat} {P : Program}

/-- what an iterator does for a caller whose invariant holds for no more than M rounds -/
def SeqM {α : Type} (F : Fence) (n : Nat) (P : Program) (g : Nat) (lb : Array Value) (encs : α → Array Value) (Kp : World → World → Prop) (S Sp : List α → Prop) (M : Nat) (w : World) : Prop :=
  ∀ (l : Nat) (J Jx : List α → World → Prop) (W : World), Below w.heap.size w W → AbidesFrom W.heap.size J → AbidesFrom W.heap.size Jx → (∀ pre W1, J pre W1 → pre.length ≤ M) →
    (∀ pre x W1, J pre W1 → YieldAt F (n - 1) P l (encs x) W1 fun e W2 => (e = .returned (.bool true) ∧ J (pre ++ [x]) W2 ∧ Kp W1 W2) ∨ (e = .returned (.bool false) ∧ Jx (pre ++ [x]) W2)) →
    J [] W → CallsIn F n P g (#[.func (.yield l) #[] #[]] ++ lb) W fun e W2 => (∃ v, e = .returned v) ∧ ((∃ xs, S xs ∧ J xs W2) ∨ (∃ pre, Sp pre ∧ Jx pre W2))

/-- where the record of the loop and the block of its deferred calls lie, beside the caller's own -/
def Kept2 {α : Type} (B : Nat) (rec : Option Code → Loop) (c : Option Code) (I : List α → World → Prop) (pre : List α) (W : World) : Prop :=
  I pre W ∧ W.heap[B + 1]? = some (.loop (rec c)) ∧ W.heap[B]? = some (.deferred (some []))
theorem Kept2.abides {α : Type} {B C : Nat} (hC : B ≤ C) {rec : Option Code → Loop} {c : Option Code} {I : List α → World → Prop} (h : OwnFrom B I) : AbidesFrom C (Kept2 B rec c I) := by
  intro s X Y row hs hg hr
  have hr2 : ∀ r, row = some r → B ≤ r ∧ ∃ o : Obj, X.heap[r]? = some o ∧ o.isCells = false := fun r e => by
    obtain ⟨h1, o, h2, h3⟩ := hr r e
    exact ⟨Nat.le_trans hC h1, o, h2, Obj.not_cells_of_walk h3⟩
  have hw : ∀ r, row = some r → ∃ o : Obj, X.heap[r]? = some o ∧ o.isWalk = true := fun r e => (hr r e).2
  exact ⟨h s X Y row hs.1 hg hr2, (grownBy_keeps hg hw hs.2.1 rfl).trans hs.2.1, (grownBy_keeps hg hw hs.2.2 rfl).trans hs.2.2⟩

theorem wpIn_rangeM {α : Type} {g : Operand} {ps : Array Tmp} {assign body : Code} {Q : Exit → Act → World → Prop} {a : Act} {w : World}
    (hro : F.round = none) (h1 : 1 ≤ n) {gf : Nat} {lb : Array Value} (hg : a.eval g = .func (.func gf) #[] lb) (hFg : F.fn gf) (eg : ∀ args w, (callFunc gf args).run P w = .ok (.enter gf args) w)
    {encs : α → Array Value} {Kp : World → World → Prop} {S Sp : List α → Prop} {M : Nat} {w0 : World} (hseq : SeqM F (n - 1) P gf lb encs Kp S Sp M w0)
    (hKt : ∀ {A B C : World}, Kp A B → Kp B C → Kp A C) (hKb : ∀ (W : World) (l : Nat) (o o' : Obj), w.heap.size ≤ l → W.heap[l]? = some o → o.isCells = false → o.isWalk = false → Kp W (W.putObj l o'))
    (hb0 : Below w0.heap.size w0 w) (hps : ∀ x, (encs x).size = ps.size) (I : List α → World → Prop) (Ix : List α → World → Prop) (hM : ∀ pre W, I pre W → pre.length ≤ M)
    (hI : OwnFrom w.heap.size I) (hIx : OwnFrom w.heap.size Ix) (h0 : I [] w) (a₁ : α → Act)
    (hassign : ∀ (l : Nat) (x : α) (W : World) (K : Act → World → Prop), K (a₁ x) W →
      assign.wpIn (F.inRound l) (n - 1 - 1) P (Exit.then K (fun _ _ _ => False)) { tmps := (ps.zip (encs x)).foldl (fun t (p, v) => t.setIfInBounds p v) a.tmps, defers := [] } W)
    (hbody : ∀ (l : Nat) (pre : List α) (x : α) (W : World), w.heap.size ≤ l → I pre W → body.wpIn (F.inRound l) (n - 1 - 1) P (ownPostG w.heap.size Kp I (fun c xs W2 => c = .ret ∧ Ix xs W2) (pre ++ [x]) W) (a₁ x) W)
    (hdone : ∀ (D : Nat) (xs : List α) (W : World), w.heap.size ≤ D → S xs → I xs W → W.heap[D]? = some (.deferred (some [])) → Q .normal { a with defers := { target := .collected D, args := #[] } :: a.defers } W)
    (hstop : ∀ (D : Nat) (pre : List α) (W : World), w.heap.size ≤ D → Sp pre → Ix pre W → W.heap[D]? = some (.deferred (some [])) → Code.ret.wpIn F n P Q { a with defers := { target := .collected D, args := #[] } :: a.defers } W) :
    (Code.rangeFunc g ps assign body).wpIn F n P Q a w := by
  refine wpIn_rangeFunc fun fn hfn => ?_
  rw [hro]
  obtain ⟨B, hB⟩ : ∃ B, w.heap.size = B := ⟨_, rfl⟩
  let mk : LoopState → Option Code → Loop := fun st c => { state := st, pending := c, fn, tmps := a.tmps, params := ps, assign, body, defers := B }
  let Wr := (w.alloc (.deferred (some []))).alloc (.loop (mk .ready none))
  have hrd : Wr.heap[B + 1]? = some (.loop (mk .ready none)) := by
    have := World.alloc_heap_new (w.alloc (.deferred (some []))) (.loop (mk .ready none))
    rwa [World.size_alloc, hB] at this
  have hdf : Wr.heap[B]? = some (.deferred (some [])) := by
    rw [← hB]
    exact (Below.heap_alloc _ _ _ (by simp)).trans (World.alloc_heap_new w _)
  have hbw : Below w0.heap.size w0 Wr := hb0.trans ((((Below.refl _ w).alloc (Nat.le_refl _) _).alloc (by simp) _).mono hb0.size)
  have hsz : B ≤ Wr.heap.size := by simp [Wr]; omega
  rw [hB] at hI hIx hKb hbody hdone hstop
  refine ⟨B + 1, [{ target := .collected B, args := #[] }], Wr, { target := .fn (.func gf) lb, args := #[.func (.yield (B + 1)) #[] #[]] }, Wr, gf, #[.func (.yield (B + 1)) #[] #[]] ++ lb, Wr, ?_, ?_, ?_, ?_, fun _ => h1, ?_⟩
  · subst hB
    exact run_enterLoop_outer _ _ _ _ _
  · simp only [resolve, hg]
    simp [go_sem]
  · intro f' hf'
    simp [Target.leads] at hf'
    subst hf'
    exact hFg
  · simp [invoke, go_sem, eg]
  refine (hseq (B + 1) (Kept2 B (mk .ready) none I) (Kept2 B (mk .done) (some .ret) Ix) Wr hbw (Kept2.abides hsz hI) (Kept2.abides hsz hIx) (fun pre W1 h => hM pre W1 h.1) ?_ ⟨hI.alloc _ (hI.alloc _ h0), hrd, hdf⟩).mono ?_
  · -- one round
    rintro pre x W ⟨hi, hl, hk⟩
    refine ⟨fn, _, assign, body, run_yield (P := P) (args := encs x) hl (hps x), roundIn_of_wpIn hfn (hassign _ x W _ ?_)⟩
    have hlt : B + 1 < W.heap.size := (Array.getElem?_eq_some_iff.1 hl).1
    let Wb := W.putObj (B + 1) (.loop { mk .ready none with state := .busy })
    have hlb : Wb.heap[B + 1]? = some (.loop { mk .ready none with state := .busy }) := World.putObj_heap_same hlt
    have hkb : Wb.heap[B]? = some (.deferred (some [])) := (World.putObj_heap_other (by omega)).trans hk
    refine ⟨_, run_beginRound hl rfl, wpIn_mono (hbody _ pre x Wb (by omega) (hI.putObj _ hi (by omega) hl rfl)) ?_⟩
    have ends : ∀ (c : Option Code) (W3 : World), KeepsFrom B Wb W3 → ∃ hl3 : W3.heap[B + 1]? = some (.loop { mk .ready none with state := .busy }),
        (Instr.endRound (B + 1) c).run P W3 = .ok (.bool c.isNone) (W3.putObj (B + 1) (.loop (mk (if c.isNone then .ready else .done) c))) ∧
        (W3.putObj (B + 1) (.loop (mk (if c.isNone then .ready else .done) c))).heap[B + 1]? = some (.loop (mk (if c.isNone then .ready else .done) c)) ∧
        (W3.putObj (B + 1) (.loop (mk (if c.isNone then .ready else .done) c))).heap[B]? = some (.deferred (some [])) := fun c W3 h3 => by
      have h4 := h3.same _ _ (by omega) hlb rfl
      exact ⟨h4, run_endRound (P := P) c h4, World.putObj_heap_same (Array.getElem?_eq_some_iff.1 h4).1, (World.putObj_heap_other (by omega)).trans (h3.same _ _ (Nat.le_refl _) hkb rfl)⟩
    rintro e a3 W3 hp
    cases e with
    | normal =>
      obtain ⟨h3, hkp, hi3⟩ := hp
      obtain ⟨hl3, hr, hl4, hk4⟩ := ends none W3 h3
      exact ⟨_, _, hr, .inl ⟨rfl, ⟨hI.putObj _ hi3 (by omega) hl3 rfl, hl4, hk4⟩, hKt (hKt (hKb W _ _ _ (by omega) hl rfl rfl) hkp) (hKb _ _ _ _ (by omega) hl3 rfl rfl)⟩⟩
    | ret =>
      obtain ⟨h3, -, hi3⟩ := hp
      obtain ⟨hl3, hr, hl4, hk4⟩ := ends (some .ret) W3 h3
      exact ⟨_, _, hr, .inr ⟨rfl, hIx.putObj _ hi3 (by omega) hl3 rfl, hl4, hk4⟩⟩
    | exit id => cases hp.2.1
    | goto t => cases hp.2.1
    | panic ch => exact hp.elim
    | outgrown => exact hp.elim
  · -- behind the iterator
    rintro e W2 ⟨⟨v, rfl⟩, (⟨xs, hS, hi, hl, hk⟩ | ⟨pre, hSp, hi, hl, hk⟩)⟩
    · exact ⟨none, _, run_endLoop (P := P) hl (by simp [mk]), hdone B xs _ (Nat.le_refl _) hS (hI.putObj _ hi (by omega) hl rfl) ((World.putObj_heap_other (by omega)).trans hk)⟩
    · exact ⟨some .ret, _, run_endLoop (P := P) hl (by simp [mk]), hstop B pre _ (Nat.le_refl _) hSp (hIx.putObj _ hi (by omega) hl rfl) ((World.putObj_heap_other (by omega)).trans hk)⟩
end Go.Proofs.YtbioljpjpflboaaGreatDoor
