import Derived.Test.YtbioljpjpflboaaGreatDoorSpace
import Derived.Test.YtbioljpjpflboaaGreatDoorShape
/- Lists of Space as the exact laws' helpers see them and own them. -/
namespace Go.Proofs.YtbioljpjpflboaaGreatDoor
open Go Go.RowKit

/-- a value reads as this list -/
def VwSpaceS (w : World) (v : Value) (l : List SpaceD) : Prop := ∃ a c, v = .slice a l.length c ∧ ElS 5 encSpace w a l ∧ ∀ x ∈ l, OkSpace x
/-- a value is this list in memory of its own, from base on and ahead of lim -/
def OwSpaceS (w : World) (base lim : Nat) (v : Value) (l : List SpaceD) : Prop := ∃ a c, v = .slice a l.length c ∧ (w.ownsRow base 51 5 (.slice a l.length c) l.length (l.flatMap encSpace) ∧ ∀ k, (Value.slice a l.length c).ownBlock = some k → k < lim) ∧ l.length ≤ maxLen ∧ ∀ x ∈ l, OkSpace x
theorem VwSpaceS.below {w w' : World} {v : Value} {l : List SpaceD} (hb : Below w.heap.size w w') (h : VwSpaceS w v l) : VwSpaceS w' v l := let ⟨a, c, e, h1, h2⟩ := h; ⟨a, c, e, h1.below hb, h2⟩
theorem OwSpaceS.vw {w : World} {base lim : Nat} {v : Value} {l : List SpaceD} (h : OwSpaceS w base lim v l) : VwSpaceS w v l := let ⟨a, c, e, h1, h2, h3⟩ := h; ⟨a, c, e, own_el encSpace_len h2 h1.1, h3⟩
theorem OwSpaceS.below {w w' : World} {base lim : Nat} {v : Value} {l : List SpaceD} (hb : Below w.heap.size w w') (h : OwSpaceS w base lim v l) : OwSpaceS w' base lim v l := let ⟨a, c, e, h1, h2⟩ := h; ⟨a, c, e, ⟨own_below h1.1 hb, h1.2⟩, h2⟩
theorem OwSpaceS.kept {S : Nat → Prop} {w w' : World} {base lim : Nat} {v : Value} {l : List SpaceD} (hb : KeptOut S w w') (h : OwSpaceS w base lim v l) (hs : ∀ b, base ≤ b → b < lim → ¬ S b) : OwSpaceS w' base lim v l :=
  let ⟨a, c, e, h1, h2⟩ := h; ⟨a, c, e, ⟨own_kept h1.1 hb (fun k hk => hs k (h1.1.lt k hk).1 (h1.2 k hk)), h1.2⟩, h2⟩
theorem owSpaceS_of {w : World} {base : Nat} {v : Value} {l : List SpaceD} (h : w.ownsRow base 51 5 v l.length (l.flatMap encSpace)) (hl : l.length ≤ maxLen) (hok : ∀ x ∈ l, OkSpace x) : OwSpaceS w base w.heap.size v l := by
  obtain ⟨a, c, rfl⟩ := own_shape h
  exact ⟨a, c, rfl, ⟨h, fun k hk => (h.lt k hk).2⟩, hl, hok⟩
theorem bulkSpaceS_len {l : List SpaceD} (h : (bulkSpaceS l : Int) ≤ 1048576) : l.length ≤ 1048576 := by unfold bulkSpaceS at h; omega
theorem szSpaceS_c {v : Value} {l : List SpaceD} {w : World} (h : VwSpaceS w v l) {left : Int} (h0 : 0 ≤ left) (h1 : left ≤ 1048576) :
    Calls Tryz.prog 16 #[v, .int .i64 left] w fun e w' => e = .returned (.int .i64 (szR left (bulkSpaceS l))) ∧ Below w.heap.size w w' := by
  obtain ⟨a, c, rfl, hl, hok⟩ := h
  exact szSpaceS_any a c l left w h0 h1 hl hok
theorem toSpaceS_c {v : Value} {l : List SpaceD} {w : World} (h : VwSpaceS w v l) (hb : (bulkSpaceS l : Int) ≤ 1048576) :
    Calls Tryz.prog 24 #[v] w fun e w' => ∃ v', e = .returned v' ∧ OwSpaceS w' w.heap.size w'.heap.size v' l ∧ Below w.heap.size w w' := by
  obtain ⟨a, c, rfl, hl, hok⟩ := h
  refine (toSpaceS_any a c l w (bulkSpaceS_len hb) hl).mono ?_
  rintro e w' ⟨rfl, o, b⟩
  exact ⟨_, rfl, owSpaceS_of o hl.1 hok, b⟩
theorem eqSpaceS_c {v v' : Value} {l : List SpaceD} {w : World} (h : VwSpaceS w v l) (h' : VwSpaceS w v' l) :
    Calls Tryz.prog 34 #[v, v'] w fun e w' => e = .returned (.bool true) ∧ Below w.heap.size w w' := by
  obtain ⟨a, c, rfl, hl, -⟩ := h
  obtain ⟨b, d, rfl, hm, -⟩ := h'
  exact eqSpaceS_any a b c d l w hl hm
def numSpaceS (l : List SpaceD) : Int := 5 * (l.length : Int)
theorem numSpaceS_pos (l : List SpaceD) : 0 ≤ numSpaceS l := by unfold numSpaceS; omega
theorem numSpaceS_small {l : List SpaceD} (h : (bulkSpaceS l : Int) ≤ 1048576) : numSpaceS l ≤ 68719476736 := by have := bulkSpaceS_len h; unfold numSpaceS; omega
def mksSpaceS (k : Int) (l : List SpaceD) : List SpaceD := marksSpace k l.length
theorem markSpaceS_c {v : Value} {l : List SpaceD} {w : World} {base lim : Nat} (h : OwSpaceS w base lim v l) {k : Int} (hk0 : 0 ≤ k) (hk : k ≤ 1099511627776) (hn : numSpaceS l ≤ 68719476736) :
    Calls Tryz.prog 44 #[v, .int .i64 k] w fun e w' => e = .returned (.int .i64 (k + numSpaceS l)) ∧ OwSpaceS w' base lim v (mksSpaceS k l) ∧ KeptOut (fun b => base ≤ b ∧ b < lim) w w' := by
  obtain ⟨a, c, rfl, ho, hl, hok⟩ := h
  unfold numSpaceS at hn ⊢
  refine (markSpaceS_any base (.slice a l.length c) l.length _ k w (by omega) hk0 hk ho.1).mono ?_
  rintro e w' ⟨rfl, o, b⟩
  refine ⟨rfl, ⟨a, c, by rw [mksSpaceS, marksSpace_len], ?_, by rw [mksSpaceS, marksSpace_len]; exact hl, marksSpace_ok k _ (by omega)⟩, b.mono (fun j _ hj => ⟨(ho.1.lt j hj).1, ho.2 j hj⟩)⟩
  rw [mksSpaceS, marksSpace_len]
  exact ⟨o, ho.2⟩
end Go.Proofs.YtbioljpjpflboaaGreatDoor
