import Derived.Test.YtjbkhamfingoiaaDiskOk
import Derived.Handy
import Derived.StillTailTactics
/- The program's disk at work: blocks, a list of what waits, linked both ways, and a number, all in memory of its own. -/
namespace Go.Proofs.Ytjbkhamfingoiaa
open Go Go.RowKit

def ptrTo (o : Option Nat) : Value := .pointer (o.map fun b => ⟨b, 0, none⟩)

/-- what the node j of the nodes nb holds -/
def nodeCells (nb : List Nat) (x : WaitD) (j : Nat) : List Value := [.int .i64 x.1, .string x.2, ptrTo (if j = 0 then none else nb[j - 1]?), ptrTo nb[j + 1]?]

/-- block P is a disk at work, its nodes the blocks nb, and stands as d -/
structure Drive (w : World) (base P : Nat) (nb : List Nat) (d : DiskD) : Prop where
  len : d.1.length = 140
  nlen : nb.length = d.2.1.length
  ge : base ≤ P
  lt : ∀ b ∈ nb, P < b
  asc : ∀ (i j a b : Nat), i < j → nb[i]? = some a → nb[j]? = some b → a < b
  box : Box w P (d.1.map .string ++ [ptrTo nb.head?, ptrTo nb.getLast?, .int .i64 d.2.2])
  node : ∀ j b x, nb[j]? = some b → d.2.1[j]? = some x → Box w b (nodeCells nb x j)

theorem Box.drew {w : World} {b : Nat} {cs : List Value} (h : Box w b cs) : Box w.drew b cs := h

/-- the drive's own blocks -/
def driveBlk (P : Nat) (nb : List Nat) (k : Nat) : Prop := k = P ∨ k ∈ nb

theorem Drive.nodeLt {w : World} {base P : Nat} {nb : List Nat} {d : DiskD} (h : Drive w base P nb d) : ∀ b ∈ nb, b < w.heap.size := by
  intro b hb
  obtain ⟨j, hj, rfl⟩ := List.getElem_of_mem hb
  exact Box.lt (h.node j nb[j] _ (List.getElem?_eq_getElem hj) (List.getElem?_eq_getElem (by rw [← h.nlen]; exact hj)))
theorem Drive.kept {S : Nat → Prop} {w w' : World} {base P : Nat} {nb : List Nat} {d : DiskD} (h : Drive w base P nb d) (hk : KeptOut S w w') (hs : ∀ k, driveBlk P nb k → ¬ S k) : Drive w' base P nb d :=
  ⟨h.len, h.nlen, h.ge, h.lt, h.asc, h.box.kept hk (hs P (.inl rfl)), fun j b x hb hx => (h.node j b x hb hx).kept hk (hs b (.inr (List.mem_of_getElem? hb)))⟩
theorem Drive.below {w w' : World} {base P : Nat} {nb : List Nat} {d : DiskD} (h : Drive w base P nb d) (hk : Below w.heap.size w w') : Drive w' base P nb d :=
  h.kept (S := fun _ => False) (.of_below hk) (fun _ _ h => h)
theorem Drive.own {w : World} {base P : Nat} {nb : List Nat} {d : DiskD} (h : Drive w base P nb d) : ∀ k, driveBlk P nb k → base ≤ k := by
  rintro k (rfl | hk)
  · exact h.ge
  · have := h.lt k hk; have := h.ge; omega

theorem Drive.last {w : World} {base P : Nat} {nb : List Nat} {d : DiskD} (h : Drive w base P nb d) {q : Nat} (hq : nb.getLast? = some q) : q ≠ P ∧ q < w.heap.size ∧ ∃ y, Box w q (nodeCells nb y (nb.length - 1)) := by
  rw [List.getLast?_eq_getElem?] at hq
  have hlt : nb.length - 1 < nb.length := (List.getElem?_eq_some_iff.1 hq).1
  have hb := h.node _ _ _ hq (List.getElem?_eq_getElem (by rw [← h.nlen]; exact hlt))
  have := h.lt q (List.mem_of_getElem? hq)
  exact ⟨by omega, Box.lt hb, _, hb⟩

theorem Box.set {w : World} {b i : Nat} {cs : List Value} (v : Value) (h : Box w b cs) (hi : i < cs.length) : Box (w.setCell ⟨b, i, none⟩ v) b (cs.set i v) := by
  intro j u hj
  by_cases e : i = j
  · subst e
    rw [List.getElem?_set_self hi] at hj
    cases hj
    obtain ⟨c0, f0⟩ := h i _ (List.getElem?_eq_getElem hi)
    exact ⟨by simp [go_sem, c0], by simpa [go_sem] using f0⟩
  · rw [List.getElem?_set_ne e] at hj
    obtain ⟨c0, f0⟩ := h j u hj
    exact ⟨by simpa [go_sem, e] using c0, by simpa [go_sem] using f0⟩
theorem Box.other {w : World} {b : Nat} {p : Addr} {cs : List Value} (v : Value) (h : Box w b cs) (hp : p.block ≠ b) : Box (w.setCell p v) b cs :=
  h.kept ((KeptOut.refl (fun k => k = p.block) w).setCell rfl v) (fun e => hp e.symm)

theorem Box.lt' {w : World} {b : Nat} {l : List ByteArray} {u v x : Value} (h : Box w b (l.map .string ++ [u, v, x])) : b < w.heap.size := by
  cases l with
  | nil => exact Box.lt h
  | cons c l => exact Box.lt h

theorem tail_set {l : List Value} {n : Nat} (hl : l.length = n) (u v x y : Value) : (l ++ [u, v, x]).set n y = l ++ [y, v, x] ∧ (l ++ [u, v, x]).set (n + 1) y = l ++ [u, y, x] ∧ (l ++ [u, v, x]).set (n + 2) y = l ++ [u, v, y] := by
  subst hl
  refine ⟨?_, ?_, ?_⟩ <;> (rw [List.set_append_right _ _ (by omega)]; simp)

theorem Drive.pushed {w w' : World} {base P : Nat} {nb : List Nat} {d : DiskD} {x : Int} {s : ByteArray} (h : Drive w base P nb d) (z : Nat) (hz : w.heap.size ≤ z)
    (hk : KeptOut (fun k => k = P ∨ nb.getLast? = some k) w w')
    (hP : Box w' P (d.1.map .string ++ [ptrTo (nb ++ [z]).head?, ptrTo (some z), .int .i64 d.2.2]))
    (hB : Box w' z [.int .i64 x, .string s, ptrTo nb.getLast?, ptrTo none])
    (hq : ∀ q cs, nb.getLast? = some q → Box w q cs → cs.length = 4 → Box w' q (cs.set 3 (ptrTo (some z)))) :
    Drive w' base P (nb ++ [z]) (d.1, d.2.1 ++ [(x, s)], d.2.2) := by
  have hlt := h.box.lt'
  have hn : ∀ b ∈ nb, b < w.heap.size := by
    intro b hb
    obtain ⟨j, hj, rfl⟩ := List.getElem_of_mem hb
    exact Box.lt (h.node j nb[j] _ (List.getElem?_eq_getElem hj) (List.getElem?_eq_getElem (by rw [← h.nlen]; exact hj)))
  refine ⟨h.len, by simp [h.nlen], h.ge, ?_, ?_, ?_, ?_⟩
  · intro b hb
    rcases List.mem_append.1 hb with hb | hb
    · exact h.lt b hb
    · simp at hb; omega
  · intro i j a b hij hi hj
    have h4 := (List.getElem?_eq_some_iff.1 hj).1
    simp at h4
    rw [List.getElem?_append_left (by omega)] at hi
    by_cases h2 : j < nb.length
    · rw [List.getElem?_append_left h2] at hj
      exact h.asc i j a b hij hi hj
    · rw [List.getElem?_append_right (by omega)] at hj
      have e := List.mem_of_getElem? hj
      simp at e
      have := hn a (List.mem_of_getElem? hi)
      omega
  · rw [List.getLast?_concat]; exact hP
  · intro j b y hb hy
    dsimp only at hy
    by_cases hj : j < nb.length
    · rw [List.getElem?_append_left hj] at hb
      rw [List.getElem?_append_left (by rw [← h.nlen]; exact hj)] at hy
      have h0 := h.node j b y hb hy
      have hbm := List.mem_of_getElem? hb
      have h1 := h.lt b hbm
      have eb : nb[j] = b := (List.getElem?_eq_some_iff.1 hb).2
      by_cases hl : j + 1 < nb.length
      · have hne : nb.getLast? ≠ some b := by
          rw [List.getLast?_eq_getElem?]
          intro e
          exact absurd (h.asc _ _ _ _ (by omega) hb e) (by omega)
        have h3 := h0.kept hk (by rintro (e | e); · omega
                                  · exact hne e)
        unfold nodeCells at h3 ⊢
        rw [List.getElem?_append_left (by omega), List.getElem?_append_left hl]
        exact h3
      · have hlast : nb.getLast? = some b := by rw [List.getLast?_eq_getElem?, show nb.length - 1 = j by omega, hb]
        have h3 := hq b _ hlast h0 rfl
        unfold nodeCells at h3 ⊢
        rw [List.getElem?_append_left (by omega), show j + 1 = nb.length by omega, List.getElem?_concat_length]
        exact h3
    · have hjl : j = nb.length := by
        have := (List.getElem?_eq_some_iff.1 hb).1
        simp at this; omega
      subst hjl
      rw [List.getElem?_concat_length] at hb
      rw [h.nlen, List.getElem?_concat_length] at hy
      cases hb; cases hy
      have e1 : (nb ++ [z])[nb.length + 1]? = none := List.getElem?_eq_none (by simp)
      have e2 : (if nb.length = 0 then none else (nb ++ [z])[nb.length - 1]?) = nb.getLast? := by
        by_cases h0 : nb.length = 0
        · rw [if_pos h0, List.eq_nil_of_length_eq_zero h0]; rfl
        · rw [if_neg h0, List.getElem?_append_left (by omega), ← List.getLast?_eq_getElem?]
      unfold nodeCells
      rw [e1, e2]
      exact hB

set_option maxRecDepth 100000 in
set_option maxHeartbeats 400000 in
theorem push_any (base P : Nat) (nb : List Nat) (d : DiskD) (x : Int) (s : ByteArray) (w : World) (h : Drive w base P nb d) :
    Calls Try.prog 72 #[.pointer (some ⟨P, 140, none⟩), .agg #[.int .i64 x, .string s]] w fun e w' =>
      e = .returned (.tuple #[]) ∧ Drive w' base P (nb ++ [w.heap.size + 1]) (d.1, d.2.1 ++ [(x, s)], d.2.2) ∧ KeptOut (driveBlk P nb) w w' := by
  have hP := h.box.lt'
  obtain ⟨c0, f0⟩ := h.box 140 (ptrTo nb.head?) (by rw [List.getElem?_append_right (by simp [h.len])]; simp [h.len])
  obtain ⟨c1, f1⟩ := h.box 141 (ptrTo nb.getLast?) (by rw [List.getElem?_append_right (by simp [h.len])]; simp [h.len])
  have HH := Lib.hid h
  clear h
  rcases hnb : nb.getLast? with _ | q
  · obtain rfl : nb = [] := List.getLast?_eq_none_iff.1 hnb
    rw [hnb] at c1
    simp only [ptrTo, Option.map_none] at c1
    clear hnb
    go_enter Try.func72, Try.ntmps72
    go_wp2
    go_region_held3 (fun w' => w'.cell? ⟨P, 141, none⟩ = some (Value.pointer none) ∧ w'.cell? ⟨w.heap.size, 0, none⟩ = some (.int .i64 x) ∧ w'.cell? ⟨w.heap.size, 1, none⟩ = some (.string s)) (first | exact ⟨c1, rfl, rfl⟩ | go_keep) (fail)
    go_wp2
    go_returns
    have K : KeptOut (fun k => k = P ∨ ([] : List Nat).getLast? = some k) w ((w.setCell ⟨P, 140, none⟩ (ptrTo (some (w.heap.size + 1)))).setCell ⟨P, 141, none⟩ (ptrTo (some (w.heap.size + 1)))) :=
      ((KeptOut.refl _ w).setCell (p := ⟨P, 140, none⟩) (.inl rfl) _).setCell (p := ⟨P, 141, none⟩) (.inl rfl) _
    have b1 := ((HH.out.box.set (i := 140) (ptrTo (some (w.heap.size + 1))) (by simp [HH.out.len])).set (i := 141) (ptrTo (some (w.heap.size + 1))) (by simp [HH.out.len]))
    rw [(tail_set (by simp [HH.out.len]) _ _ _ _).1, (tail_set (by simp [HH.out.len]) _ _ _ _).2.1] at b1
    refine ⟨rfl, HH.out.pushed (w.heap.size + 1) (by omega) (K.trans (.of_below (by repeat (first | exact Below.refl _ _ | (refine Below.alloc ?_ (by first | (simp; done) | (simp; omega)) _) | (refine Below.setCell ?_ (by first | (simp; done) | (simp; omega)) _) | (refine Below.drew ?_))))) (b1.below (by repeat (first | exact Below.refl _ _ | (refine Below.alloc ?_ (by first | (simp; done) | (simp; omega)) _) | (refine Below.setCell ?_ (by first | (simp; done) | (simp; omega)) _) | (refine Below.drew ?_)))) ?_ (fun _ _ e => by simp at e), (K.mono (fun _ _ h => h.elim .inl (fun e => by simp at e))).trans (.of_below (by repeat (first | exact Below.refl _ _ | (refine Below.alloc ?_ (by first | (simp; done) | (simp; omega)) _) | (refine Below.setCell ?_ (by first | (simp; done) | (simp; omega)) _) | (refine Below.drew ?_))))⟩
    · refine Box.drew ?_
      have h := Box.alloc (((w.setCell ⟨P, 140, none⟩ (ptrTo (some (w.heap.size + 1)))).setCell ⟨P, 141, none⟩ (ptrTo (some (w.heap.size + 1)))).alloc (Obj.cells #[Value.int IntKind.i64 x, Value.string s] 43)) #[Value.int IntKind.i64 x, Value.string s, Value.pointer none, Value.pointer none] 104
      simp only [World.size_alloc, World.size_setCell] at h
      exact h
  · obtain ⟨hqP, hql, y, hq⟩ := HH.out.last hnb
    have n3 := hq 3 _ rfl
    have e1 : nb[nb.length - 1 + 1]? = none := by rw [List.getElem?_eq_none_iff]; omega
    rw [e1] at n3
    simp only [ptrTo, Option.map_none] at n3
    obtain ⟨n3, g3⟩ := n3
    rw [hnb] at c1
    simp only [ptrTo, Option.map_some] at c1
    have HN := Lib.hid hnb
    clear hnb
    go_enter Try.func72, Try.ntmps72
    go_wp2
    go_region_held3 (fun w' => w'.cell? ⟨P, 141, none⟩ = some (Value.pointer (some ⟨q, 0, none⟩)) ∧ w'.cell? ⟨w.heap.size, 0, none⟩ = some (.int .i64 x) ∧ w'.cell? ⟨w.heap.size, 1, none⟩ = some (.string s)) (first | exact ⟨c1, rfl, rfl⟩ | go_keep) (fail)
    go_wp2
    go_returns
    have K : KeptOut (fun k => k = P ∨ nb.getLast? = some k) w ((w.setCell ⟨q, 3, none⟩ (ptrTo (some (w.heap.size + 1)))).setCell ⟨P, 141, none⟩ (ptrTo (some (w.heap.size + 1)))) :=
      ((KeptOut.refl _ w).setCell (p := ⟨q, 3, none⟩) (.inr HN.out) _).setCell (p := ⟨P, 141, none⟩) (.inl rfl) _
    have b1 := ((HH.out.box.other (p := ⟨q, 3, none⟩) (ptrTo (some (w.heap.size + 1))) hqP).set (i := 141) (ptrTo (some (w.heap.size + 1))) (by simp [HH.out.len]))
    rw [(tail_set (by simp [HH.out.len]) _ _ _ _).2.1] at b1
    have hhd : (nb ++ [w.heap.size + 1]).head? = nb.head? := by
      cases nb with
      | nil => simp at HN; exact absurd HN.out (by simp)
      | cons a l => rfl
    refine ⟨rfl, HH.out.pushed _ (by omega) (K.trans (.of_below (by repeat (first | exact Below.refl _ _ | (refine Below.alloc ?_ (by first | (simp; done) | (simp; omega)) _) | (refine Below.setCell ?_ (by first | (simp; done) | (simp; omega)) _) | (refine Below.drew ?_))))) (by rw [hhd]; exact b1.below (by repeat (first | exact Below.refl _ _ | (refine Below.alloc ?_ (by first | (simp; done) | (simp; omega)) _) | (refine Below.setCell ?_ (by first | (simp; done) | (simp; omega)) _) | (refine Below.drew ?_)))) ?_ ?_, (K.mono (fun _ _ h => h.elim .inl (fun e => .inr (List.mem_of_getLast? e)))).trans (.of_below (by repeat (first | exact Below.refl _ _ | (refine Below.alloc ?_ (by first | (simp; done) | (simp; omega)) _) | (refine Below.setCell ?_ (by first | (simp; done) | (simp; omega)) _) | (refine Below.drew ?_))))⟩
    · rw [HN.out]
      refine Box.drew ?_
      have h := Box.alloc (((w.setCell ⟨q, 3, none⟩ (ptrTo (some (w.heap.size + 1)))).setCell ⟨P, 141, none⟩ (ptrTo (some (w.heap.size + 1)))).alloc (Obj.cells #[Value.int IntKind.i64 x, Value.string s] 43)) #[Value.int IntKind.i64 x, Value.string s, Value.pointer (some ⟨q, 0, none⟩), Value.pointer none] 104
      simp only [World.size_alloc, World.size_setCell] at h
      exact h
    · intro q' cs e hb hl
      rw [HN.out] at e
      cases e
      exact ((hb.set (i := 3) _ (by omega)).other (p := ⟨P, 141, none⟩) _ (fun e => hqP e.symm)).below (by repeat (first | exact Below.refl _ _ | (refine Below.alloc ?_ (by first | (simp; done) | (simp; omega)) _) | (refine Below.setCell ?_ (by first | (simp; done) | (simp; omega)) _) | (refine Below.drew ?_)))
end Go.Proofs.Ytjbkhamfingoiaa
