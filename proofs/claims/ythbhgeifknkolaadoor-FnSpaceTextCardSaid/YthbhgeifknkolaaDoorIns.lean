import Derived.Test.YthbhgeifknkolaaDoorApp
import Derived.Test.YthbhgeifknkolaaDoorKept
import Derived.Test.YthbhgeifknkolaaDoorShape
/- What is put into a list: words. -/
namespace Go.Proofs.YthbhgeifknkolaaDoor
open Go Go.RowKit
variable {α : Type} {m : Nat} {enc : α → List Value}

theorem gls_take {w : World} {a : Option Addr} {l : List α} (p : Nat) (h : ElS m enc w a l) : ElS m enc w a (l.take p) := by
  refine ⟨Nat.le_trans (by rw [List.length_take]; omega) h.1, ?_⟩
  rcases h.2 with rfl | ⟨b, o, rfl, hc⟩
  · exact .inl (by simp)
  · refine .inr ⟨b, o, rfl, fun j hj i v hv => ?_⟩
    rw [List.length_take] at hj
    exact hc j (by omega) i v (by rwa [List.getElem_take] at hv)
theorem gls_drop {w : World} {a : Option Addr} {l : List α} (p : Nat) (h : ElS m enc w a l) : ElS m enc w (a.map (fun x => x.add (p * m))) (l.drop p) := by
  refine ⟨Nat.le_trans (by rw [List.length_drop]; omega) h.1, ?_⟩
  rcases h.2 with rfl | ⟨b, o, rfl, hc⟩
  · exact .inl (by simp)
  · refine .inr ⟨b, o + p * m, by simp [addr_add], fun j hj i v hv => ?_⟩
    rw [List.length_drop] at hj
    have := hc (p + j) (by omega) i v (by rwa [List.getElem_drop] at hv)
    rw [← this]
    congr 2
    rw [Nat.add_mul]; omega
/-- the beginning, as what is appended -/
theorem src_take (hm : ∀ x, (enc x).length = m) (hp : 0 < m) {w : World} {a : Option Addr} {l : List α} {k : Nat} (hk : k ≤ l.length) (h : ElS m enc w a l) : SrcS w m a k ((l.take k).flatMap enc) := by
  have h1 := src_el hm hp (gls_take k h)
  rwa [List.length_take, Nat.min_eq_left hk] at h1
/-- the rest, as what is appended -/
theorem src_drop (hm : ∀ x, (enc x).length = m) (hp : 0 < m) {w : World} {g : Nat} {l : List α} {k : Nat} (h : ElS m enc w (some ⟨g, 0, none⟩) l) : SrcS w m (some ⟨g, k * m, none⟩) (l.length - k) ((l.drop k).flatMap enc) := by
  have h1 := src_el hm hp (gls_drop k h)
  rw [List.length_drop] at h1
  have e : (⟨g, 0, none⟩ : Addr).add (k * m) = ⟨g, k * m, none⟩ := by rw [addr_add, Nat.zero_add]
  rw [Option.map_some, e] at h1
  exact h1
theorem src_nil (w : World) (size : Nat) (a : Option Addr) : SrcS w size a 0 [] := ⟨by simp, .inl rfl⟩
theorem own_lit00 {base : Nat} (W : World) (e : TypeId) (size g : Nat) (hg : g = W.heap.size) (h : base ≤ W.heap.size) : (W.alloc (.cells #[] e)).ownsRow base e size (.slice (some ⟨g, 0, none⟩) 0 0) 0 [] := by
  subst hg
  exact World.ownsRow_lit W #[] 0 h (by unfold maxLen; omega) (by simp)
theorem src_new (W : World) (cs : List Value) (e : TypeId) (n size g : Nat) (hg : g = W.heap.size) (h : cs.length = n * size) : SrcS (W.alloc (.cells cs.toArray e)) size (some ⟨g, 0, none⟩) n cs := by
  subst hg
  exact ⟨h, .inr ⟨W.heap.size, 0, rfl, fun j u hu => by rw [World.cell?_alloc_at _ _ _ _ rfl]; simpa using hu⟩⟩
theorem own_some {w : World} {base : Nat} {e : TypeId} {size : Nat} {a : Option Addr} {n c : Nat} {xs : List Value} (h : w.ownsRow base e size (.slice a n c) n xs) (hn : 0 < n) : ∃ g, a = some ⟨g, 0, none⟩ := by
  rcases h.2 with ⟨_, h0⟩ | ⟨g, cap, cur, hv, _⟩
  · omega
  · simp only [Value.slice.injEq] at hv
    exact ⟨g, hv.1⟩
theorem els_block {w : World} {g : Nat} {l : List α} (h : ElS m enc w (some ⟨g, 0, none⟩) l) (hn : 0 < l.length) (hm : ∀ x, (enc x).length = m) (hp : 0 < m) : g < w.heap.size := by
  obtain ⟨b, o, e, hc⟩ := h.2.resolve_left (fun e => by rw [e] at hn; simp at hn)
  cases e
  have h0 := hc 0 hn 0 ((enc l[0])[0]'(by rw [hm]; exact hp)) (List.getElem?_eq_getElem _)
  have := World.block_lt_of_cell? w _ h0
  simpa using this
theorem box_cells5 {w : World} {b : Nat} {d0 d1 d2 d3 d4 : Value} (h : Box w b [d0, d1, d2, d3, d4]) : w.cell? ⟨b, 0, none⟩ = some d0 ∧ w.cell? ⟨b, 1, none⟩ = some d1 ∧ w.cell? ⟨b, 2, none⟩ = some d2 ∧ w.cell? ⟨b, 3, none⟩ = some d3 ∧ w.cell? ⟨b, 4, none⟩ = some d4 :=
  ⟨(h 0 _ rfl).1, (h 1 _ rfl).1, (h 2 _ rfl).1, (h 3 _ rfl).1, (h 4 _ rfl).1⟩
end Go.Proofs.YthbhgeifknkolaaDoor
