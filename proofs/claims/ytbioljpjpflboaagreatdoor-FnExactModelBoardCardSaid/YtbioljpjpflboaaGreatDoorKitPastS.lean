import Derived.Test.YtbioljpjpflboaaGreatDoorPast
import Derived.Test.YtbioljpjpflboaaGreatDoorShape
/- Lists of Past as the exact laws' helpers see them and own them. -/
namespace Go.Proofs.YtbioljpjpflboaaGreatDoor
open Go Go.RowKit

/-- a value reads as this list -/
def VwPastS (w : World) (v : Value) (l : List PastD) : Prop := ∃ a c, v = .slice a l.length c ∧ ElS 4 encPast w a l ∧ ∀ x ∈ l, OkPast x
/-- a value is this list in memory of its own, from base on and ahead of lim -/
def OwPastS (w : World) (base lim : Nat) (v : Value) (l : List PastD) : Prop := ∃ a c, v = .slice a l.length c ∧ (w.ownsRow base 80 4 (.slice a l.length c) l.length (l.flatMap encPast) ∧ ∀ k, (Value.slice a l.length c).ownBlock = some k → k < lim) ∧ l.length ≤ maxLen ∧ ∀ x ∈ l, OkPast x
theorem VwPastS.below {w w' : World} {v : Value} {l : List PastD} (hb : Below w.heap.size w w') (h : VwPastS w v l) : VwPastS w' v l := let ⟨a, c, e, h1, h2⟩ := h; ⟨a, c, e, h1.below hb, h2⟩
theorem OwPastS.vw {w : World} {base lim : Nat} {v : Value} {l : List PastD} (h : OwPastS w base lim v l) : VwPastS w v l := let ⟨a, c, e, h1, h2, h3⟩ := h; ⟨a, c, e, own_el encPast_len h2 h1.1, h3⟩
theorem OwPastS.below {w w' : World} {base lim : Nat} {v : Value} {l : List PastD} (hb : Below w.heap.size w w') (h : OwPastS w base lim v l) : OwPastS w' base lim v l := let ⟨a, c, e, h1, h2⟩ := h; ⟨a, c, e, ⟨own_below h1.1 hb, h1.2⟩, h2⟩
theorem OwPastS.kept {S : Nat → Prop} {w w' : World} {base lim : Nat} {v : Value} {l : List PastD} (hb : KeptOut S w w') (h : OwPastS w base lim v l) (hs : ∀ b, base ≤ b → b < lim → ¬ S b) : OwPastS w' base lim v l :=
  let ⟨a, c, e, h1, h2⟩ := h; ⟨a, c, e, ⟨own_kept h1.1 hb (fun k hk => hs k (h1.1.lt k hk).1 (h1.2 k hk)), h1.2⟩, h2⟩
theorem owPastS_of {w : World} {base : Nat} {v : Value} {l : List PastD} (h : w.ownsRow base 80 4 v l.length (l.flatMap encPast)) (hl : l.length ≤ maxLen) (hok : ∀ x ∈ l, OkPast x) : OwPastS w base w.heap.size v l := by
  obtain ⟨a, c, rfl⟩ := own_shape h
  exact ⟨a, c, rfl, ⟨h, fun k hk => (h.lt k hk).2⟩, hl, hok⟩
theorem bulkPastS_len {l : List PastD} (h : (bulkPastS l : Int) ≤ 1048576) : l.length ≤ 1048576 := by unfold bulkPastS at h; omega
theorem szPastS_c {v : Value} {l : List PastD} {w : World} (h : VwPastS w v l) {left : Int} (h0 : 0 ≤ left) (h1 : left ≤ 1048576) :
    Calls Tryz.prog 19 #[v, .int .i64 left] w fun e w' => e = .returned (.int .i64 (szR left (bulkPastS l))) ∧ Below w.heap.size w w' := by
  obtain ⟨a, c, rfl, hl, hok⟩ := h
  exact szPastS_any a c l left w h0 h1 hl hok
theorem toPastS_c {v : Value} {l : List PastD} {w : World} (h : VwPastS w v l) (hb : (bulkPastS l : Int) ≤ 1048576) :
    Calls Tryz.prog 27 #[v] w fun e w' => ∃ v', e = .returned v' ∧ OwPastS w' w.heap.size w'.heap.size v' l ∧ Below w.heap.size w w' := by
  obtain ⟨a, c, rfl, hl, hok⟩ := h
  refine (toPastS_any a c l w (bulkPastS_len hb) hl).mono ?_
  rintro e w' ⟨rfl, o, b⟩
  exact ⟨_, rfl, owPastS_of o hl.1 hok, b⟩
theorem eqPastS_c {v v' : Value} {l : List PastD} {w : World} (h : VwPastS w v l) (h' : VwPastS w v' l) :
    Calls Tryz.prog 37 #[v, v'] w fun e w' => e = .returned (.bool true) ∧ Below w.heap.size w w' := by
  obtain ⟨a, c, rfl, hl, -⟩ := h
  obtain ⟨b, d, rfl, hm, -⟩ := h'
  exact eqPastS_any a b c d l w hl hm
def numPastS (l : List PastD) : Int := 4 * (l.length : Int)
theorem numPastS_pos (l : List PastD) : 0 ≤ numPastS l := by unfold numPastS; omega
theorem numPastS_small {l : List PastD} (h : (bulkPastS l : Int) ≤ 1048576) : numPastS l ≤ 68719476736 := by have := bulkPastS_len h; unfold numPastS; omega
def mksPastS (k : Int) (l : List PastD) : List PastD := marksPast k l.length
theorem markPastS_c {v : Value} {l : List PastD} {w : World} {base lim : Nat} (h : OwPastS w base lim v l) {k : Int} (hk0 : 0 ≤ k) (hk : k ≤ 1099511627776) (hn : numPastS l ≤ 68719476736) :
    Calls Tryz.prog 47 #[v, .int .i64 k] w fun e w' => e = .returned (.int .i64 (k + numPastS l)) ∧ OwPastS w' base lim v (mksPastS k l) ∧ KeptOut (fun b => base ≤ b ∧ b < lim) w w' := by
  obtain ⟨a, c, rfl, ho, hl, hok⟩ := h
  unfold numPastS at hn ⊢
  refine (markPastS_any base (.slice a l.length c) l.length _ k w (by omega) hk0 hk ho.1).mono ?_
  rintro e w' ⟨rfl, o, b⟩
  refine ⟨rfl, ⟨a, c, by rw [mksPastS, marksPast_len], ?_, by rw [mksPastS, marksPast_len]; exact hl, marksPast_ok k _ (by omega)⟩, b.mono (fun j _ hj => ⟨(ho.1.lt j hj).1, ho.2 j hj⟩)⟩
  rw [mksPastS, marksPast_len]
  exact ⟨o, ho.2⟩
end Go.Proofs.YtbioljpjpflboaaGreatDoor
