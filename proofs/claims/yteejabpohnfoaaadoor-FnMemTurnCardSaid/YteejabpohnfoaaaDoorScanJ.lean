import Derived.Test.YteejabpohnfoaaaDoorScanI
import Derived.RangeFuncNested
/- MemScan of the program. -/
namespace Go.Proofs.YteejabpohnfoaaaDoor
open Go Go.RowKit Go.Shelf

attribute [local go_sem] Oper.semAt_some

theorem els_drop {w : World} {a : Option Addr} {l : List EntryD} (p : Nat) (h : ElS 4 encEntry w a l) : ElS 4 encEntry w (a.map (fun x => x.add (p * 4))) (l.drop p) := by
  refine ⟨Nat.le_trans (by rw [List.length_drop]; omega) h.1, ?_⟩
  rcases h.2 with rfl | ⟨b, o, rfl, hc⟩
  · exact .inl (by simp)
  · refine .inr ⟨b, o + p * 4, by simp [addr_add], fun j hj i v hv => ?_⟩
    rw [List.length_drop] at hj
    have := hc (p + j) (by omega) i v (by rwa [List.getElem_drop] at hv)
    rw [← this]
    congr 2
    rw [Nat.add_mul]; omega
theorem els_lt {w : World} {a : Option Addr} {l : List EntryD} (h : ElS 4 encEntry w a l) (hn : l ≠ []) : ∀ k, a.map Addr.block = some k → k < w.heap.size := by
  obtain ⟨b, o, rfl, hc⟩ := h.2.resolve_left hn
  rintro k e
  obtain rfl : b = k := by simpa using e
  have := hc 0 (List.length_pos_iff.2 hn) 0 _ rfl
  have := World.block_lt_of_cell? w _ this
  simpa using this
theorem take_allS {l : List EntryD} {pre : ByteArray} (h : ∀ x ∈ l, startsB x.1 pre = true) : l.takeWhile (fun e => startsB e.1 pre) = l := by
  induction l with
  | nil => rfl
  | cons x l ih => rw [List.takeWhile_cons, h x List.mem_cons_self, if_pos rfl, ih (fun y hy => h y (List.mem_cons_of_mem _ hy))]
theorem take_stopS {q : List EntryD} {x : EntryD} {l : List EntryD} {pre : ByteArray} (hp : q ++ [x] <+: l) (h : ∀ y ∈ q, startsB y.1 pre = true) (hx : startsB x.1 pre = false) : l.takeWhile (fun e => startsB e.1 pre) = q := by
  obtain ⟨t, rfl⟩ := hp
  induction q with
  | nil => simp [hx]
  | cons y q ih => rw [List.cons_append, List.cons_append, List.takeWhile_cons, h y List.mem_cons_self, if_pos rfl, ih (fun z hz => h z (List.mem_cons_of_mem _ hz))]
/-- between two rounds -/
def InvS (w : World) (pre : ByteArray) (Bs n2 : Nat) (s : List EntryD) (W : World) : Prop :=
  ((∃ v, Boxed W Bs 27 v ∧ W.ownsRow n2 31 4 v s.length (s.flatMap encEntry) ∧ True) ∧ W.cell? ⟨w.heap.size, 0, none⟩ = some (.string pre)) ∧ ((∀ x ∈ s, startsB x.1 pre = true) ∧ Below w.heap.size w W) ∧ n2 ≤ W.heap.size
theorem invS_own (w : World) (pre : ByteArray) (Bs n2 B : Nat) (hB : w.heap.size ≤ B) : OwnFrom B (InvS w pre Bs n2) :=
  OwnFrom.and (OwnFrom.and (Own.from (holdsRow_own (β := List EntryD) n2 Bs 27 31 4 (fun s => s.length) (fun s => s.flatMap encEntry) (fun _ _ => True)) _) (Own.from (fun _ _ _ _ hs hg hr => cell_kept hs hg hr) _))
    (OwnFrom.and (OwnFrom.and (ownFrom_pure _ _) (ownFrom_below (Nat.le_refl _) hB)) (fun _ _ _ _ hs hg _ => Nat.le_trans hs hg.size))

theorem box_two (w w1 : World) (pre : ByteArray) (t : TypeId) (o : Obj) (b1 : Below (w.alloc (.cells #[.string pre] t)).heap.size (w.alloc (.cells #[.string pre] t)) w1) :
    (w1.alloc o).cell? ⟨w.heap.size, 0, none⟩ = some (.string pre) ∧ (w1.alloc o).frozen? ⟨w.heap.size, 0, none⟩ = false :=
  (((Box.alloc w #[.string pre] t).below b1).below (below_alloc w1 o)) 0 _ rfl

end Go.Proofs.YteejabpohnfoaaaDoor
