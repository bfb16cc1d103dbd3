import Derived.Test.YthbhgeifknkolaaDoorSpace
import Derived.Test.YthbhgeifknkolaaDoorShape
/- Lists of Space as the exact laws' helpers see them and own them. -/
namespace Go.Proofs.YthbhgeifknkolaaDoor
open Go Go.RowKit

/-- a value reads as this list -/
def VwSpaceS (w : World) (v : Value) (l : List SpaceD) : Prop := ∃ a c, v = .slice a l.length c ∧ ElS 5 encSpace w a l ∧ ∀ x ∈ l, OkSpace x
/-- a value is this list in memory of its own, from base on and ahead of lim -/
def OwSpaceS (w : World) (base lim : Nat) (v : Value) (l : List SpaceD) : Prop := ∃ a c, v = .slice a l.length c ∧ (w.ownsRow base 26 5 (.slice a l.length c) l.length (l.flatMap encSpace) ∧ ∀ k, (Value.slice a l.length c).ownBlock = some k → k < lim) ∧ l.length ≤ maxLen ∧ ∀ x ∈ l, OkSpace x
theorem VwSpaceS.below {w w' : World} {v : Value} {l : List SpaceD} (hb : Below w.heap.size w w') (h : VwSpaceS w v l) : VwSpaceS w' v l := let ⟨a, c, e, h1, h2⟩ := h; ⟨a, c, e, h1.below hb, h2⟩
theorem OwSpaceS.vw {w : World} {base lim : Nat} {v : Value} {l : List SpaceD} (h : OwSpaceS w base lim v l) : VwSpaceS w v l := let ⟨a, c, e, h1, h2, h3⟩ := h; ⟨a, c, e, own_el encSpace_len h2 h1.1, h3⟩
theorem OwSpaceS.below {w w' : World} {base lim : Nat} {v : Value} {l : List SpaceD} (hb : Below w.heap.size w w') (h : OwSpaceS w base lim v l) : OwSpaceS w' base lim v l := let ⟨a, c, e, h1, h2⟩ := h; ⟨a, c, e, ⟨own_below h1.1 hb, h1.2⟩, h2⟩
theorem OwSpaceS.kept {S : Nat → Prop} {w w' : World} {base lim : Nat} {v : Value} {l : List SpaceD} (hb : KeptOut S w w') (h : OwSpaceS w base lim v l) (hs : ∀ b, base ≤ b → b < lim → ¬ S b) : OwSpaceS w' base lim v l :=
  let ⟨a, c, e, h1, h2⟩ := h; ⟨a, c, e, ⟨own_kept h1.1 hb (fun k hk => hs k (h1.1.lt k hk).1 (h1.2 k hk)), h1.2⟩, h2⟩
theorem owSpaceS_of {w : World} {base : Nat} {v : Value} {l : List SpaceD} (h : w.ownsRow base 26 5 v l.length (l.flatMap encSpace)) (hl : l.length ≤ maxLen) (hok : ∀ x ∈ l, OkSpace x) : OwSpaceS w base w.heap.size v l := by
  obtain ⟨a, c, rfl⟩ := own_shape h
  exact ⟨a, c, rfl, ⟨h, fun k hk => (h.lt k hk).2⟩, hl, hok⟩
theorem bulkSpaceS_len {l : List SpaceD} (h : (bulkSpaceS l : Int) ≤ 1048576) : l.length ≤ 1048576 := by unfold bulkSpaceS at h; omega
def numSpaceS (l : List SpaceD) : Int := 5 * (l.length : Int)
theorem numSpaceS_pos (l : List SpaceD) : 0 ≤ numSpaceS l := by unfold numSpaceS; omega
theorem numSpaceS_small {l : List SpaceD} (h : (bulkSpaceS l : Int) ≤ 1048576) : numSpaceS l ≤ 68719476736 := by have := bulkSpaceS_len h; unfold numSpaceS; omega
end Go.Proofs.YthbhgeifknkolaaDoor
