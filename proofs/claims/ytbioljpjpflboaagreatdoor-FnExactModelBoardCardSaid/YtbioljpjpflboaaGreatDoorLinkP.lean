import Derived.Test.YtbioljpjpflboaaGreatDoorSpaceL
import Derived.Test.YtbioljpjpflboaaGreatDoorComes
/- Spaces linked: what stands while nodes are made. -/
namespace Go.Proofs.YtbioljpjpflboaaGreatDoor
open Go Go.RowKit

def ptrV (b : Nat) : Value := .pointer (some ⟨b, 0, none⟩)
def nodV (l : List SpaceD) (i : Nat) (ov : Option Addr) : List Value := encSpace (l.getD i default) ++ [.int .i64 (i : Int), .pointer ov]
/-- so many nodes are made; what each is in lies as ov says -/
structure Lk1 (w wr : World) (l : List SpaceD) (v : Value) (nbl : List Nat) (k : Nat) (ov : Nat → Option Addr) : Prop where
  len : nbl.length = k
  own : wr.ownsRow (w.heap.size + 2) 146 1 v k (nbl.map ptrV)
  blk : ∀ b ∈ nbl, w.heap.size + 2 ≤ b ∧ v.ownBlock ≠ some b
  nod : ∀ i (h : i < nbl.length), Box wr nbl[i] (nodV l i (ov i))
  nd : nbl.Nodup
  tree : Box wr (w.heap.size + 1) [v]
  res : Box wr w.heap.size [.slice none 0 0]
  bel : Below w.heap.size w wr
theorem own_nil (w : World) (base : Nat) (e : TypeId) : w.ownsRow base e 1 (.slice none 0 0) 0 [] := ⟨by simp, .inl ⟨rfl, rfl⟩⟩
/-- spaces linked, each node to what it is in -/
structure TreeS (w : World) (base : Nat) (a : Option Addr) (nbl : List Nat) (l : List SpaceD) : Prop where
  len : nbl.length = l.length
  pts : PtS w a nbl
  nod : ∀ i (h : i < nbl.length), Box w nbl[i] (nodV l i (adrO nbl (nxS l i)))
  blk : ∀ b ∈ nbl, base ≤ b
def LinkPost (w : World) (l : List SpaceD) (e : Ending) (w' : World) : Prop :=
  (spsOk l = false ∧ e = .returned (.tuple #[.agg #[.slice none 0 0], .bool false]) ∧ Below w.heap.size w w') ∨
  (spsOk l = true ∧ ∃ a c nbl, e = .returned (.tuple #[.agg #[.slice a l.length c], .bool true]) ∧ TreeS w' w.heap.size a nbl l ∧ Below w.heap.size w w')

theorem nodV_at {l : List SpaceD} {k : Nat} (h : k < l.length) (ov : Option Addr) : nodV l k ov = [.string l[k].1, .string l[k].2.1, .int .i64 l[k].2.2.1, .bool l[k].2.2.2.1, .int .i64 l[k].2.2.2.2, .int .i64 (k : Int), .pointer ov] := by
  unfold nodV; rw [getD_sp h]; rfl
theorem Lk1.lt {w wr : World} {l : List SpaceD} {v : Value} {nbl : List Nat} {k : Nat} {ov : Nat → Option Addr} (h : Lk1 w wr l v nbl k ov) : ∀ b ∈ nbl, b < wr.heap.size := by
  intro b hb
  obtain ⟨i, hi, rfl⟩ := List.mem_iff_getElem.1 hb
  exact Box.lt (h.nod i hi)
theorem Lk1.base {w wr : World} {l : List SpaceD} {v : Value} {nbl : List Nat} {k : Nat} {ov : Nat → Option Addr} (h : Lk1 w wr l v nbl k ov) : w.heap.size + 2 ≤ wr.heap.size := Box.lt h.tree
theorem lk1_next {w wr w2 w3 : World} {l : List SpaceD} {v v3 : Value} {nbl : List Nat} {k : Nat} (hk : k < l.length) (hL : Lk1 w wr l v nbl k (fun _ => none)) (b2 : Below wr.heap.size wr w2) {T : TypeId} {O : Obj}
    (o3 : w3.ownsRow (w.heap.size + 2) 146 1 v3 (k + 1) (nbl.map ptrV ++ [ptrV w2.heap.size]))
    (g3 : ((w2.alloc (.cells (nodV l k none).toArray T)).alloc O).grownBy w3 v.ownBlock) (hob : v3.ownBlock = v.ownBlock ∨ v3.ownBlock = some (w2.heap.size + 2)) :
    Lk1 w (w3.setCell ⟨w.heap.size + 1, 0, none⟩ v3) l v3 (nbl ++ [w2.heap.size]) (k + 1) (fun _ => none) := by
  have hlt := hL.lt
  have hbs := hL.base
  have hz2 := b2.size
  have hz3 := g3.size
  simp only [World.size_alloc] at hz3
  have hov : ∀ b, v.ownBlock = some b → w.heap.size + 2 ≤ b ∧ b < wr.heap.size := fun b hb => hL.own.lt b hb
  have K0 : KeptOut (fun b => v.ownBlock = some b) wr w3 := by
    have k1 : KeptOut (fun b => v.ownBlock = some b) wr ((w2.alloc (.cells (nodV l k none).toArray T)).alloc O) := .of_below ((b2.alloc hz2 _).alloc (by simp; omega) _)
    exact k1.trans (kept_of_grown g3)
  have K1 : KeptOut (fun b => b = w.heap.size + 1) w3 (w3.setCell ⟨w.heap.size + 1, 0, none⟩ v3) := (KeptOut.refl (fun b => b = w.heap.size + 1) w3).setCell (p := ⟨w.heap.size + 1, 0, none⟩) rfl _
  refine ⟨by rw [List.length_append, hL.len]; rfl, ?_, ?_, ?_, ?_, ?_, ?_, ?_⟩
  · rw [List.map_append]
    exact own_kept o3 K1 (fun b hb e => by have := (o3.lt b hb).1; omega)
  · intro b hb
    rcases List.mem_append.1 hb with hb | hb
    · refine ⟨(hL.blk b hb).1, fun e => ?_⟩
      rcases hob with h | h
      · exact (hL.blk b hb).2 (h ▸ e)
      · rw [h] at e; have := hlt b hb; have := Option.some.inj e; omega
    · obtain rfl := List.mem_singleton.1 hb
      refine ⟨by omega, fun e => ?_⟩
      rcases hob with h | h
      · rw [h] at e; have := (hov _ e).2; omega
      · rw [h] at e; have := Option.some.inj e; omega
  · intro i hi
    by_cases hin : i < nbl.length
    · rw [List.getElem_append_left hin]
      exact ((hL.nod i hin).kept K0 (fun e => (hL.blk _ (List.getElem_mem _)).2 e)).kept K1 (by have := (hL.blk _ (List.getElem_mem hin)).1; omega)
    · have hik : i = k := by have := hL.len; simp at hi; omega
      subst hik
      rw [List.getElem_append_right (by omega)]
      simp only [List.getElem_singleton]
      have bx := (Box.alloc w2 (nodV l i none).toArray T).below (below_alloc _ O)
      refine (bx.kept (kept_of_grown g3) (fun e => ?_)).kept K1 (by omega)
      have := (hov _ e).2
      omega
  · rw [List.nodup_append]
    exact ⟨hL.nd, by simp, fun a ha c hc e => by simp at hc; have := hlt a ha; omega⟩
  · have t1 : Box w3 (w.heap.size + 1) [v] := hL.tree.kept K0 (fun e => by have := (hov _ e).1; omega)
    intro i u hu
    match i, hu with
    | 0, hu =>
      obtain rfl : v3 = u := by simpa using hu
      obtain ⟨c1, f1⟩ := t1 0 _ rfl
      exact ⟨World.cell?_setCell_same' _ _ _ (by rw [c1]; rfl), by rw [World.frozen?_setCell]; exact f1⟩
  · exact (hL.res.kept K0 (fun e => by have := (hov _ e).1; omega)).kept K1 (by omega)
  · have h1 : Below w.heap.size w w3 := K0.below hL.bel (by omega) (fun b e => by have := (hov _ e).1; omega)
    exact h1.setCell (p := ⟨w.heap.size + 1, 0, none⟩) (by show w.heap.size ≤ w.heap.size + 1; omega) _


theorem Box.setS {w : World} {b : Nat} {cs : List Value} (h : Box w b cs) (i : Nat) (v : Value) : Box (w.setCell ⟨b, i, none⟩ v) b (cs.set i v) := by
  intro j u hj
  by_cases e : j = i
  · subst e
    have hl : j < cs.length := by
      have := (List.getElem?_eq_some_iff.1 hj).1
      simpa using this
    rw [List.getElem?_set_self hl] at hj
    cases hj
    obtain ⟨h0, h1⟩ := h j cs[j] (List.getElem?_eq_getElem hl)
    exact ⟨World.cell?_setCell_same' _ _ _ (by rw [h0]; rfl), by rw [World.frozen?_setCell]; exact h1⟩
  · rw [List.getElem?_set_ne (fun q => e q.symm)] at hj
    obtain ⟨h0, h1⟩ := h j u hj
    exact ⟨by rw [World.cell?_setCell_other _ _ _ _ (fun q => e (by simpa using q.symm))]; exact h0, by rw [World.frozen?_setCell]; exact h1⟩
theorem Lk1.below {w wr w2 : World} {l : List SpaceD} {v : Value} {nbl : List Nat} {k : Nat} {ov : Nat → Option Addr} (h : Lk1 w wr l v nbl k ov) (b : Below wr.heap.size wr w2) : Lk1 w w2 l v nbl k ov :=
  ⟨h.len, own_below h.own b, h.blk, fun i hi => (h.nod i hi).below b, h.nd, h.tree.below b, h.res.below b, h.bel.trans (b.mono h.bel.size)⟩
theorem nodV_set (l : List SpaceD) (i : Nat) (o p : Option Addr) : (nodV l i o).set 6 (.pointer p) = nodV l i p := rfl
/-- one node more is linked -/
theorem lk2_next {w wr : World} {l : List SpaceD} {v : Value} {nbl : List Nat} {n : Nat} {f : Nat → Option Addr} {k : Nat} (hk : k < nbl.length) (hL : Lk1 w wr l v nbl n (fun i => if i < k then f i else none)) :
    Lk1 w (wr.setCell ⟨nbl[k], 6, none⟩ (.pointer (f k))) l v nbl n (fun i => if i < k + 1 then f i else none) := by
  have hb := hL.blk _ (List.getElem_mem hk)
  have K : KeptOut (fun b => b = nbl[k]) wr (wr.setCell ⟨nbl[k], 6, none⟩ (.pointer (f k))) := (KeptOut.refl (fun b => b = nbl[k]) wr).setCell (p := ⟨nbl[k], 6, none⟩) rfl _
  refine ⟨hL.len, own_kept hL.own K (fun b h e => hb.2 (by rw [h, e])), hL.blk, fun i hi => ?_, hL.nd, hL.tree.kept K (by omega), hL.res.kept K (by omega), hL.bel.setCell (p := ⟨nbl[k], 6, none⟩) (by show w.heap.size ≤ nbl[k]; omega) _⟩
  by_cases e : i = k
  · subst e
    have h := (hL.nod i hi).setS 6 (.pointer (f i))
    rw [nodV_set] at h
    simpa using h
  · have h := (hL.nod i hi).kept K (fun q => e ((List.getElem_inj hL.nd).1 q))
    have e2 : (if i < k + 1 then f i else none) = (if i < k then f i else none) := by
      by_cases hik : i < k
      · rw [if_pos hik, if_pos (by omega)]
      · rw [if_neg hik, if_neg (by omega)]
    rw [e2]
    exact h
theorem Lk1.pts {w wr : World} {l : List SpaceD} {nbl : List Nat} {k c : Nat} {a : Option Addr} {ov : Nat → Option Addr} (h : Lk1 w wr l (.slice a k c) nbl k ov) (hk : k ≤ 1048576) : PtS wr a nbl := by
  refine ⟨by rw [h.len]; exact hk, ?_⟩
  have hl := h.len
  rcases h.own.2 with ⟨_, hn⟩ | ⟨g, cap, cur, hv, hr⟩
  · exact .inl (List.eq_nil_of_length_eq_zero (by omega))
  · simp only [Value.slice.injEq] at hv
    refine .inr ⟨g, 0, hv.1, fun j hj => ?_⟩
    have := h.own.cells (g := g) (by simp [Value.ownBlock, hv.1]) j (ptrV nbl[j]) (by simp [hj])
    rw [addr_add] at this
    exact this
theorem Lk1.nms {w wr : World} {l : List SpaceD} {v : Value} {nbl : List Nat} {k : Nat} {ov : Nat → Option Addr} (h : Lk1 w wr l v nbl k ov) : NmS wr nbl l := fun j hj hl => by
  have := (h.nod j hj 0 (.string l[j].1) (by rw [nodV_at hl]; rfl)).1
  exact this
/-- a place among so many, if it is one -/
def finO (m : Nat) (o : Option Nat) : Option (Fin m) := o.bind fun j => if h : j < m then some ⟨j, h⟩ else none
theorem finO_val {m : Nat} {o : Option Nat} (h : ∀ j, o = some j → j < m) : (finO m o).map Fin.val = o := by
  cases o with
  | none => rfl
  | some j => simp [finO, h j rfl]
theorem adrN_fin {nbl : List Nat} {o : Option Nat} (h : ∀ j, o = some j → j < nbl.length) : adrN nbl (finO nbl.length o) = adrO nbl o := by
  cases o with
  | none => rfl
  | some j =>
    have hj := h j rfl
    simp [finO, hj, adrN, adrO]
def nxF (l : List SpaceD) (m : Nat) (i : Fin m) : Option (Fin m) := finO m (nxS l i.val)
def nmF (l : List SpaceD) (m : Nat) (i : Fin m) : ByteArray := nmS l i.val
theorem nxF_val {l : List SpaceD} {m : Nat} (h : m = l.length) (i : Fin m) : nxS l i.val = (nxF l m i).map Fin.val := (finO_val (fun j hj => by rw [h]; exact nxS_lt hj)).symm
theorem trailF {l : List SpaceD} {m : Nat} (h : m = l.length) (o : Option (Fin m)) (k : Nat) : (trail (nxF l m) o k).map Fin.val = trail (nxS l) (o.map Fin.val) k := trail_map (nxF_val h) k o
theorem afterF {l : List SpaceD} {m : Nat} (h : m = l.length) (o : Option (Fin m)) (k : Nat) : (after (nxF l m) o k).map Fin.val = after (nxS l) (o.map Fin.val) k := after_map (nxF_val h) k o
/-- nodes that are linked, as their iterator reads them -/
theorem nodesS_of {w : World} {nbl : List Nat} {l : List SpaceD} (hln : nbl.length = l.length) (h : ∀ i (hi : i < nbl.length), Box w nbl[i] (nodV l i (adrO nbl (nxS l i)))) : NodesS w nbl (nmF l nbl.length) (nxF l nbl.length) := by
  refine ⟨fun i => ?_, fun i => ?_⟩
  · have hi : i.val < l.length := by rw [← hln]; exact i.2
    have := (h i.val i.2 0 (.string l[i.val].1) (by rw [nodV_at hi]; rfl)).1
    unfold nmF
    rw [nmS_at hi]
    exact this
  · have hi : i.val < l.length := by rw [← hln]; exact i.2
    have := (h i.val i.2 6 (.pointer (adrO nbl (nxS l i.val))) (by rw [nodV_at hi]; rfl)).1
    unfold nxF
    rw [adrN_fin (fun j hj => by rw [hln]; exact nxS_lt hj)]
    exact this
theorem comesF {l : List SpaceD} {m : Nat} (h : m = l.length) (i : Fin m) : (trail (nxF l m) (some i) l.length).any (isAll (nmF l m)) = comeP l i.val := by
  unfold comeP
  rw [show (some i.val : Option Nat) = (some i : Option (Fin m)).map Fin.val from rfl, ← trailF h, List.any_map]
  rfl
end Go.Proofs.YtbioljpjpflboaaGreatDoor
