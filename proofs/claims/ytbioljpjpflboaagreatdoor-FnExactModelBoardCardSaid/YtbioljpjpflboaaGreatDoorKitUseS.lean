import Derived.Test.YtbioljpjpflboaaGreatDoorUse
import Derived.Test.YtbioljpjpflboaaGreatDoorShape
/- Lists of Use as the exact laws' helpers see them and own them. -/
namespace Go.Proofs.YtbioljpjpflboaaGreatDoor
open Go Go.RowKit

/-- a value reads as this list -/
def VwUseS (w : World) (v : Value) (l : List UseD) : Prop := ∃ a c, v = .slice a l.length c ∧ ElS 2 encUse w a l ∧ ∀ x ∈ l, OkUse x
/-- a value is this list in memory of its own, from base on and ahead of lim -/
def OwUseS (w : World) (base lim : Nat) (v : Value) (l : List UseD) : Prop := ∃ a c, v = .slice a l.length c ∧ (w.ownsRow base 54 2 (.slice a l.length c) l.length (l.flatMap encUse) ∧ ∀ k, (Value.slice a l.length c).ownBlock = some k → k < lim) ∧ l.length ≤ maxLen ∧ ∀ x ∈ l, OkUse x
theorem VwUseS.below {w w' : World} {v : Value} {l : List UseD} (hb : Below w.heap.size w w') (h : VwUseS w v l) : VwUseS w' v l := let ⟨a, c, e, h1, h2⟩ := h; ⟨a, c, e, h1.below hb, h2⟩
theorem OwUseS.vw {w : World} {base lim : Nat} {v : Value} {l : List UseD} (h : OwUseS w base lim v l) : VwUseS w v l := let ⟨a, c, e, h1, h2, h3⟩ := h; ⟨a, c, e, own_el encUse_len h2 h1.1, h3⟩
theorem OwUseS.below {w w' : World} {base lim : Nat} {v : Value} {l : List UseD} (hb : Below w.heap.size w w') (h : OwUseS w base lim v l) : OwUseS w' base lim v l := let ⟨a, c, e, h1, h2⟩ := h; ⟨a, c, e, ⟨own_below h1.1 hb, h1.2⟩, h2⟩
theorem OwUseS.kept {S : Nat → Prop} {w w' : World} {base lim : Nat} {v : Value} {l : List UseD} (hb : KeptOut S w w') (h : OwUseS w base lim v l) (hs : ∀ b, base ≤ b → b < lim → ¬ S b) : OwUseS w' base lim v l :=
  let ⟨a, c, e, h1, h2⟩ := h; ⟨a, c, e, ⟨own_kept h1.1 hb (fun k hk => hs k (h1.1.lt k hk).1 (h1.2 k hk)), h1.2⟩, h2⟩
theorem owUseS_of {w : World} {base : Nat} {v : Value} {l : List UseD} (h : w.ownsRow base 54 2 v l.length (l.flatMap encUse)) (hl : l.length ≤ maxLen) (hok : ∀ x ∈ l, OkUse x) : OwUseS w base w.heap.size v l := by
  obtain ⟨a, c, rfl⟩ := own_shape h
  exact ⟨a, c, rfl, ⟨h, fun k hk => (h.lt k hk).2⟩, hl, hok⟩
theorem bulkUseS_len {l : List UseD} (h : (bulkUseS l : Int) ≤ 1048576) : l.length ≤ 1048576 := by unfold bulkUseS at h; omega
theorem szUseS_c {v : Value} {l : List UseD} {w : World} (h : VwUseS w v l) {left : Int} (h0 : 0 ≤ left) (h1 : left ≤ 1048576) :
    Calls Tryz.prog 17 #[v, .int .i64 left] w fun e w' => e = .returned (.int .i64 (szR left (bulkUseS l))) ∧ Below w.heap.size w w' := by
  obtain ⟨a, c, rfl, hl, hok⟩ := h
  exact szUseS_any a c l left w h0 h1 hl hok
theorem toUseS_c {v : Value} {l : List UseD} {w : World} (h : VwUseS w v l) (hb : (bulkUseS l : Int) ≤ 1048576) :
    Calls Tryz.prog 25 #[v] w fun e w' => ∃ v', e = .returned v' ∧ OwUseS w' w.heap.size w'.heap.size v' l ∧ Below w.heap.size w w' := by
  obtain ⟨a, c, rfl, hl, hok⟩ := h
  refine (toUseS_any a c l w (bulkUseS_len hb) hl).mono ?_
  rintro e w' ⟨rfl, o, b⟩
  exact ⟨_, rfl, owUseS_of o hl.1 hok, b⟩
theorem eqUseS_c {v v' : Value} {l : List UseD} {w : World} (h : VwUseS w v l) (h' : VwUseS w v' l) :
    Calls Tryz.prog 35 #[v, v'] w fun e w' => e = .returned (.bool true) ∧ Below w.heap.size w w' := by
  obtain ⟨a, c, rfl, hl, -⟩ := h
  obtain ⟨b, d, rfl, hm, -⟩ := h'
  exact eqUseS_any a b c d l w hl hm
def numUseS (l : List UseD) : Int := 2 * (l.length : Int)
theorem numUseS_pos (l : List UseD) : 0 ≤ numUseS l := by unfold numUseS; omega
theorem numUseS_small {l : List UseD} (h : (bulkUseS l : Int) ≤ 1048576) : numUseS l ≤ 68719476736 := by have := bulkUseS_len h; unfold numUseS; omega
def mksUseS (k : Int) (l : List UseD) : List UseD := marksUse k l.length
theorem markUseS_c {v : Value} {l : List UseD} {w : World} {base lim : Nat} (h : OwUseS w base lim v l) {k : Int} (hk0 : 0 ≤ k) (hk : k ≤ 1099511627776) (hn : numUseS l ≤ 68719476736) :
    Calls Tryz.prog 45 #[v, .int .i64 k] w fun e w' => e = .returned (.int .i64 (k + numUseS l)) ∧ OwUseS w' base lim v (mksUseS k l) ∧ KeptOut (fun b => base ≤ b ∧ b < lim) w w' := by
  obtain ⟨a, c, rfl, ho, hl, hok⟩ := h
  unfold numUseS at hn ⊢
  refine (markUseS_any base (.slice a l.length c) l.length _ k w (by omega) hk0 hk ho.1).mono ?_
  rintro e w' ⟨rfl, o, b⟩
  refine ⟨rfl, ⟨a, c, by rw [mksUseS, marksUse_len], ?_, by rw [mksUseS, marksUse_len]; exact hl, marksUse_ok k _ (by omega)⟩, b.mono (fun j _ hj => ⟨(ho.1.lt j hj).1, ho.2 j hj⟩)⟩
  rw [mksUseS, marksUse_len]
  exact ⟨o, ho.2⟩
end Go.Proofs.YtbioljpjpflboaaGreatDoor
