import Derived.Test.YtfekpbkcidhbfaaDoorWords
import Derived.Test.YtfekpbkcidhbfaaDoorApp
import Derived.Laws.OwnMore
/- l1Consts and l1Block of the model. -/
namespace Go.Proofs.YtfekpbkcidhbfaaDoor
open Go Go.RowKit

theorem quiet_addX {P : Program} {f : FuncId} {args : Array Value} {w : World} {a n : Nat} {v : Value}
    (h : Calls P f args (w.drewN (a + n)) fun e w' => e = .returned v ∧ ∃ m, w' = (w.drewN (a + n)).drewN m) :
    Calls P f args (w.drewN (a + n)) fun e w'' => e = .returned v ∧ ∃ m, w'' = w.drewN (a + m) :=
  h.mono fun _ _ ⟨he, m, hm⟩ => ⟨he, n + m, by rw [hm, World.drewN_drewN, Nat.add_assoc]⟩
/-- the shift of a state by one place, done from its end down to the place n -/
def shiftL (T : List W32) (n : Nat) : List W32 := (List.range 8).map fun j => if n < j then T.getD (j - 1) 0 else T.getD j 0
theorem shiftL_get (T : List W32) (n j : Nat) (h : j < 8) : (uvs (shiftL T n))[j]? = some (uv (if n < j then T.getD (j - 1) 0 else T.getD j 0)) := by
  simp [uvs, shiftL, h]
theorem shiftL_len (T : List W32) (n : Nat) : (uvs (shiftL T n)).length = 8 := by simp [uvs, shiftL]
theorem shiftL_next (T : List W32) (n : Nat) (hn : 0 < n) (hn8 : n < 8) : (uvs (shiftL T n)).set n (uv (T.getD (n - 1) 0)) = uvs (shiftL T (n - 1)) := by
  apply List.ext_getElem?
  intro j
  by_cases hj : j < 8
  · by_cases e : j = n
    · subst e
      rw [List.getElem?_set_self (by rw [shiftL_len]; exact hj), shiftL_get _ _ _ hj, if_pos (by omega)]
    · rw [List.getElem?_set_ne (fun q => e q.symm), shiftL_get _ _ _ hj, shiftL_get _ _ _ hj]
      congr 2
      by_cases h1 : n < j
      · rw [if_pos h1, if_pos (by omega)]
      · rw [if_neg h1, if_neg (by omega)]
  · rw [List.getElem?_eq_none (by simp [uvs, shiftL]; omega), List.getElem?_eq_none (by simp [uvs, shiftL]; omega)]
/-- a list of words that is there -/
def WordsS (w : World) (b o : Nat) (l : List W32) : Prop := ∀ j, (h : j < l.length) → w.cell? ⟨b, o + j, none⟩ = some (uv l[j])

set_option maxRecDepth 100000 in
theorem l1Consts_any (w : World) : Calls Tryd.prog 97 #[] w (WordsP w K64) := by
  go_enter Tryd.func97, Tryd.ntmps97
  go_wp2
  go_ret
  exact ⟨_, rfl, OwnsM.of (World.ownsRow_lit w (uvs K64).toArray 64 (Nat.le_refl _) (by unfold maxLen; omega) rfl), below_alloc _ _⟩
end Go.Proofs.YtfekpbkcidhbfaaDoor
