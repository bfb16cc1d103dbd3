import Derived.Test.YtbioljpjpflboaaGreatDoorBase
/- Texts in order. -/
namespace Go.Proofs.YtbioljpjpflboaaGreatDoor
open Go Go.RowKit

theorem bl_irrefl : ∀ a : List UInt8, Op.bytesLess a a = false
  | [] => rfl
  | x :: a => by simp [Op.bytesLess, bl_irrefl a]
theorem bl_trans : ∀ a b c : List UInt8, Op.bytesLess a b = true → Op.bytesLess b c = true → Op.bytesLess a c = true
  | _, _, [], _, h2 => by simp [Op.bytesLess] at h2
  | _, [], _ :: _, h1, _ => by simp [Op.bytesLess] at h1
  | [], _ :: _, _ :: _, _, _ => by simp [Op.bytesLess]
  | x :: a, y :: b, z :: c, h1, h2 => by
    have ih := bl_trans a b c
    simp only [Op.bytesLess, Bool.or_eq_true, decide_eq_true_eq, Bool.and_eq_true, beq_iff_eq] at h1 h2 ⊢
    rcases h1 with h1 | ⟨rfl, h1⟩
    · rcases h2 with h2 | ⟨rfl, h2⟩
      · left; exact UInt8.lt_trans h1 h2
      · left; exact h1
    · rcases h2 with h2 | ⟨rfl, h2⟩
      · left; exact h2
      · right; exact ⟨rfl, ih h1 h2⟩
theorem bl_total : ∀ a b : List UInt8, Op.bytesLess a b = false → a ≠ b → Op.bytesLess b a = true
  | [], [], _, h => absurd rfl h
  | [], _ :: _, h, _ => by simp [Op.bytesLess] at h
  | _ :: _, [], _, _ => by simp [Op.bytesLess]
  | x :: a, y :: b, h, hn => by
    have ih := bl_total a b
    simp only [Op.bytesLess, Bool.or_eq_false_iff, decide_eq_false_iff_not, Bool.and_eq_false_iff, beq_eq_false_iff_ne] at h
    simp only [Op.bytesLess, Bool.or_eq_true, decide_eq_true_eq, Bool.and_eq_true, beq_iff_eq]
    by_cases hxy : x = y
    · subst hxy
      right
      refine ⟨rfl, ih ?_ (fun e => hn (by rw [e]))⟩
      rcases h.2 with h2 | h2
      · exact absurd rfl h2
      · exact h2
    · left
      have := h.1
      have h3 := UInt8.not_lt.1 this
      exact UInt8.lt_of_le_of_ne h3 (fun e => hxy e.symm)
theorem bl_asymm (a b : List UInt8) (h : Op.bytesLess a b = true) : Op.bytesLess b a = false := by
  cases hc : Op.bytesLess b a with
  | false => rfl
  | true => have := bl_trans a b a h hc; rw [bl_irrefl] at this; cases this

/-- text x stands ahead of text y -/
def ltS (x y : ByteArray) : Bool := Op.bytesLess x.toList y.toList
theorem ltS_irrefl (x : ByteArray) : ltS x x = false := bl_irrefl _
theorem ltS_trans {x y z : ByteArray} (h : ltS x y = true) (k : ltS y z = true) : ltS x z = true := bl_trans _ _ _ h k
theorem ltS_asymm {x y : ByteArray} (h : ltS x y = true) : ltS y x = false := bl_asymm _ _ h
theorem toList_inj {x y : ByteArray} (h : x.toList = y.toList) : x = y := by
  rw [ByteArray.toList_eq, ByteArray.toList_eq] at h
  cases x; cases y; simp at h; simp [h]
theorem ltS_total {x y : ByteArray} (h : ltS x y = false) (hn : x ≠ y) : ltS y x = true := bl_total _ _ h (fun e => hn (toList_inj e))


theorem run_geqS {P : Program} (t : TypeId) (x y : ByteArray) (w : World) : Sem.run P (binOp BinOp.geq t (.string x) (.string y)) w = .ok (.bool (!Op.bytesLess x.toList y.toList)) w := by
  simp only [binOp]
  unfold Op.stringOp
  simp [go_sem]
/-- texts, each ahead of the next -/
def ascTo (l : List ByteArray) (k : Nat) : Bool := (List.range k).all fun i => decide (i = 0) || ltS (l.getD (i - 1) ⟨#[]⟩) (l.getD i ⟨#[]⟩)
theorem ascTo_succ (l : List ByteArray) (k : Nat) : ascTo l (k + 1) = (ascTo l k && (decide (k = 0) || ltS (l.getD (k - 1) ⟨#[]⟩) (l.getD k ⟨#[]⟩))) := by
  unfold ascTo; rw [List.range_succ, List.all_append]; simp
theorem getD_at {l : List ByteArray} {k : Nat} (h : k < l.length) : l.getD k ⟨#[]⟩ = l[k] := by rw [List.getD_eq_getElem?_getD, List.getElem?_eq_getElem h]; rfl
theorem ascTo_no {l : List ByteArray} {k m : Nat} (h : k < m) (hk : (decide (k = 0) || ltS (l.getD (k - 1) ⟨#[]⟩) (l.getD k ⟨#[]⟩)) = false) : ascTo l m = false := by
  unfold ascTo
  rw [List.all_eq_false]
  exact ⟨k, List.mem_range.2 h, by rw [hk]; simp⟩
theorem wrap_sub {k m : Nat} (h : k = m + 1) (hk : k ≤ 4611686018427387904) : IntKind.i64.wrap ((k : Int) - 1) = (m : Int) := by
  simp [IntKind.wrap, IntKind.bits, IntKind.signed]; omega
end Go.Proofs.YtbioljpjpflboaaGreatDoor
