import Derived.Test.YteejabpohnfoaaaDoorPutP
import Derived.Handy
/- Linked entries: what lies in memory, and what one link more does to it. -/
namespace Go.Proofs.YteejabpohnfoaaaDoor
open Go Go.RowKit

theorem Box.setN {w : World} {b i : Nat} {cs : List Value} (v : Value) (h : Box w b cs) (hi : i < cs.length) : Box (w.setCell ⟨b, i, none⟩ v) b (cs.set i v) := by
  intro j u hj
  by_cases e : i = j
  · subst e
    rw [List.getElem?_set_self hi] at hj
    cases hj
    obtain ⟨c0, f0⟩ := h i _ (List.getElem?_eq_getElem hi)
    exact ⟨by simp [go_sem, c0], by simpa [go_sem] using f0⟩
  · rw [List.getElem?_set_ne e] at hj
    obtain ⟨c0, f0⟩ := h j u hj
    exact ⟨by simpa [go_sem, e] using c0, by simpa [go_sem] using f0⟩
theorem Box.otherN {w : World} {b : Nat} {p : Addr} {cs : List Value} (v : Value) (h : Box w b cs) (hp : p.block ≠ b) : Box (w.setCell p v) b cs :=
  h.kept ((KeptOut.refl (fun k => k = p.block) w).setCell rfl v) (fun e => hp e.symm)
/-- a node: its block, its entry, its height -/
abbrev Nd := Nat × EntryD × Nat
def lvl (l : Nat) (n : Nd) : Bool := decide (l < n.2.2)
def ptrN (o : Option Nd) : Value := .pointer (o.map fun n => ⟨n.1, 0, none⟩)
def nxt (l : Nat) (R : List Nd) : Value := ptrN (R.find? (lvl l))
def nx (h l : Nat) (R : List Nd) : Value := if l < h then nxt l R else .pointer none
def nodeC (e : EntryD) (h : Nat) (R : List Nd) : List Value := [.string e.1, .int .i64 e.2.1, .bool e.2.2.1, .string e.2.2.2, nx h 0 R, nx h 1 R, nx h 2 R, nx h 3 R]
def layN : List Nd → List Nd → List (Nat × List Value)
  | [], _ => []
  | n :: A, B => (n.1, nodeC n.2.1 n.2.2 (A ++ B)) :: layN A B
theorem layN_app (A1 A2 B : List Nd) : layN (A1 ++ A2) B = layN A1 (A2 ++ B) ++ layN A2 B := by
  induction A1 with
  | nil => rfl
  | cons n A ih => simp only [List.cons_append, layN, ih, List.append_assoc]
theorem layN_cons (n : Nd) (A : List Nd) : layN (n :: A) [] = (n.1, nodeC n.2.1 n.2.2 A) :: layN A [] := by
  show (n.1, nodeC n.2.1 n.2.2 (A ++ [])) :: layN A [] = _
  rw [List.append_nil]
theorem layN_fst {A B : List Nd} {x : Nat × List Value} (h : x ∈ layN A B) : x.1 ∈ A.map (·.1) := by
  induction A with
  | nil => cases h
  | cons n A ih =>
    rcases List.mem_cons.1 h with h | h
    · rw [h]; simp
    · rw [List.map_cons]; exact List.mem_cons_of_mem _ (ih h)
theorem ptrN_or {o a b : Option Nd} (h : ptrN a = ptrN b) : ptrN (o.or a) = ptrN (o.or b) := by
  cases o with
  | none => exact h
  | some x => rfl
theorem nxt_app {l : Nat} {A X Y : List Nd} (h : nxt l X = nxt l Y) : nxt l (A ++ X) = nxt l (A ++ Y) := by
  unfold nxt at h ⊢
  rw [List.find?_append, List.find?_append]
  exact ptrN_or h
theorem nxt_skip {l : Nat} {A X : List Nd} (h : ∀ n ∈ A, lvl l n = false) : nxt l (A ++ X) = nxt l X := by
  have h0 : A.find? (lvl l) = none := List.find?_eq_none.2 fun x hx => by rw [h x hx]; exact Bool.false_ne_true
  unfold nxt
  rw [List.find?_append, h0]
  rfl
theorem nxt_hit {l : Nat} {n : Nd} {X : List Nd} (h : lvl l n = true) : nxt l (n :: X) = .pointer (some ⟨n.1, 0, none⟩) := by
  unfold nxt
  rw [List.find?_cons_of_pos h]
  rfl
theorem nxt_miss {l : Nat} {n : Nd} {X : List Nd} (h : lvl l n = false) : nxt l (n :: X) = nxt l X := by
  unfold nxt
  rw [List.find?_cons_of_neg (by rw [h]; exact Bool.false_ne_true)]
theorem nodeC_congr {e : EntryD} {h : Nat} {X Y : List Nd} (H : ∀ l, l < h → nxt l X = nxt l Y) : nodeC e h X = nodeC e h Y := by
  have g : ∀ l, nx h l X = nx h l Y := fun l => by
    unfold nx
    split
    · rename_i q; exact H l q
    · rfl
  unfold nodeC
  rw [g, g, g, g]
theorem layN_congr {A X Y : List Nd} (H : ∀ n ∈ A, ∀ l, l < n.2.2 → nxt l X = nxt l Y) : layN A X = layN A Y := by
  induction A with
  | nil => rfl
  | cons n A ih =>
    unfold layN
    rw [ih fun m hm => H m (List.mem_cons_of_mem _ hm), nodeC_congr (Y := A ++ Y) fun l hl => nxt_app (H n List.mem_cons_self l hl)]
/-- nodes lie in memory, each in a block of its own -/
def Skip (w : World) (T : List Nd) : Prop := (∀ x ∈ layN T [], Box w x.1 x.2) ∧ (T.map (·.1)).Nodup
theorem Skip.at {w : World} {A : List Nd} {n : Nd} {R : List Nd} (h : Skip w (A ++ n :: R)) : Box w n.1 (nodeC n.2.1 n.2.2 R) := by
  refine h.1 (n.1, nodeC n.2.1 n.2.2 R) ?_
  rw [layN_app]
  refine List.mem_append_right _ ?_
  unfold layN
  rw [List.append_nil]
  exact List.mem_cons_self
theorem Skip.kept {S : Nat → Prop} {w w' : World} {T : List Nd} (h : Skip w T) (hk : KeptOut S w w') (hs : ∀ n ∈ T, ¬ S n.1) : Skip w' T :=
  ⟨fun x hx => Box.kept hk (by
    obtain ⟨n, hn, e⟩ := List.mem_map.1 (layN_fst hx)
    rw [← e]; exact hs n hn) (h.1 x hx), h.2⟩
theorem Skip.below {w w' : World} {T : List Nd} (h : Skip w T) (hk : Below w.heap.size w w') : Skip w' T := ⟨fun x hx => (h.1 x hx).below hk, h.2⟩
theorem Skip.lt {w : World} {T : List Nd} (h : Skip w T) : ∀ n ∈ T, n.1 < w.heap.size := by
  intro n hn
  obtain ⟨A, R, rfl⟩ := List.append_of_mem hn
  exact Box.lt (Skip.at h)
theorem skip_start {w : World} {b : Nat} (e : EntryD) (h : Box w b [.string e.1, .int .i64 e.2.1, .bool e.2.2.1, .string e.2.2.2, .pointer none, .pointer none, .pointer none, .pointer none]) : Skip w [(b, e, 4)] := by
  refine ⟨fun x hx => ?_, by simp⟩
  unfold layN at hx
  rcases List.mem_cons.1 hx with rfl | hx
  · exact h
  · cases hx
/-- a node that no link leads to yet -/
theorem skip_new {w : World} {P C : List Nd} (e : EntryD) (t : TypeId) (h : Skip w (P ++ C)) :
    Skip (w.alloc (.cells #[.string e.1, .int .i64 e.2.1, .bool e.2.2.1, .string e.2.2.2, .pointer none, .pointer none, .pointer none, .pointer none] t)) (P ++ (w.heap.size, e, 0) :: C) := by
  have hl := h.lt
  have h1 := h.below (below_alloc w (.cells #[.string e.1, .int .i64 e.2.1, .bool e.2.2.1, .string e.2.2.2, .pointer none, .pointer none, .pointer none, .pointer none] t))
  have hb := Box.alloc w #[.string e.1, .int .i64 e.2.1, .bool e.2.2.1, .string e.2.2.2, .pointer none, .pointer none, .pointer none, .pointer none] t
  generalize w.alloc _ = w1 at h1 hb
  have eq : layN P ((w.heap.size, e, 0) :: C) = layN P C := layN_congr fun n _ l _ => nxt_miss (decide_eq_false (by show ¬ l < 0; omega))
  refine ⟨fun x hx => ?_, ?_⟩
  · rw [layN_app, List.append_nil, eq] at hx
    rcases List.mem_append.1 hx with hx | hx
    · exact h1.1 x (by rw [layN_app, List.append_nil]; exact List.mem_append_left _ hx)
    · unfold layN at hx
      rcases List.mem_cons.1 hx with rfl | hx
      · exact hb
      · exact h1.1 x (by rw [layN_app, List.append_nil]; exact List.mem_append_right _ hx)
  · have hn := h.2
    rw [List.map_append, List.map_cons]
    rw [List.map_append] at hn
    refine (List.perm_middle).nodup_iff.2 (List.nodup_cons.2 ⟨fun q => ?_, hn⟩)
    rw [← List.map_append] at q
    obtain ⟨n, hn2, e2⟩ := List.mem_map.1 q
    have := hl n hn2
    have e3 : n.1 = w.heap.size := e2
    omega
theorem nodeC_set {e : EntryD} {h h' k : Nat} {R R' : List Nd} (hk : k < 4) (v : Value) (H : ∀ l, l ≠ k → nx h' l R' = nx h l R) (hv : nx h' k R' = v) : nodeC e h' R' = (nodeC e h R).set (4 + k) v := by
  unfold nodeC
  match k, hk with
  | 0, _ => rw [hv, H 1 (by decide), H 2 (by decide), H 3 (by decide)]; rfl
  | 1, _ => rw [hv, H 0 (by decide), H 2 (by decide), H 3 (by decide)]; rfl
  | 2, _ => rw [hv, H 0 (by decide), H 1 (by decide), H 3 (by decide)]; rfl
  | 3, _ => rw [hv, H 0 (by decide), H 1 (by decide), H 2 (by decide)]; rfl
theorem nodeC_get {e : EntryD} {h k : Nat} {R : List Nd} (hk : k < 4) : (nodeC e h R)[4 + k]? = some (nx h k R) := by
  match k, hk with
  | 0, _ => rfl
  | 1, _ => rfl
  | 2, _ => rfl
  | 3, _ => rfl
/-- the links of one height more lead over a new node -/
theorem skip_step {w : World} {P1 : List Nd} {pj : Nd} {P2 : List Nd} {nb : Nat} {e : EntryD} {k : Nat} {C : List Nd} (hk : k < 4) (h : Skip w (P1 ++ pj :: (P2 ++ (nb, e, k) :: C))) (hp : k < pj.2.2) (h2 : ∀ n ∈ P2, lvl k n = false) :
    w.cell? ⟨pj.1, 4 + k, none⟩ = some (nxt k C) ∧ pj.1 ≠ nb ∧ Skip ((w.setCell ⟨nb, 4 + k, none⟩ (nxt k C)).setCell ⟨pj.1, 4 + k, none⟩ (.pointer (some ⟨nb, 0, none⟩))) (P1 ++ pj :: (P2 ++ (nb, e, k + 1) :: C)) := by
  have hnk : lvl k (nb, e, k) = false := decide_eq_false (Nat.lt_irrefl k)
  have hnk1 : lvl k (nb, e, k + 1) = true := decide_eq_true (Nat.lt_succ_self k)
  have hl : ∀ l, l ≠ k → nxt l ((nb, e, k) :: C) = nxt l ((nb, e, k + 1) :: C) := fun l hl => by
    by_cases q : l < k
    · rw [nxt_hit (show lvl l (nb, e, k) = true from decide_eq_true q), nxt_hit (show lvl l (nb, e, k + 1) = true from decide_eq_true (by show l < k + 1; omega))]
    · rw [nxt_miss (show lvl l (nb, e, k) = false from decide_eq_false q), nxt_miss (show lvl l (nb, e, k + 1) = false from decide_eq_false (by show ¬ l < k + 1; omega))]
  have hj := Skip.at h
  have hnb : Box w nb (nodeC e k C) := by
    have h' := h
    rw [show P1 ++ pj :: (P2 ++ (nb, e, k) :: C) = (P1 ++ pj :: P2) ++ (nb, e, k) :: C by simp] at h'
    exact Skip.at h'
  have old : nx pj.2.2 k (P2 ++ (nb, e, k) :: C) = nxt k C := by
    unfold nx
    rw [if_pos hp, nxt_skip h2, nxt_miss hnk]
  have new : nx pj.2.2 k (P2 ++ (nb, e, k + 1) :: C) = .pointer (some ⟨nb, 0, none⟩) := by
    unfold nx
    rw [if_pos hp, nxt_skip h2, nxt_hit hnk1]
  have hcell := (hj (4 + k) _ (nodeC_get hk)).1
  rw [old] at hcell
  have nd := h.2
  rw [List.map_append, List.map_cons, List.map_append, List.map_cons] at nd
  have ndm := List.nodup_append.1 nd
  have nd2 := List.nodup_cons.1 ndm.2.1
  have nd3 := List.nodup_append.1 nd2.2
  have nd4 := List.nodup_cons.1 nd3.2.1
  have hne : pj.1 ≠ nb := fun q => nd2.1 (List.mem_append_right _ (by rw [q]; exact List.mem_cons_self))
  refine ⟨hcell, hne, ⟨fun x hx => ?_, ?_⟩⟩
  · have e1 : layN P1 (pj :: (P2 ++ (nb, e, k + 1) :: C)) = layN P1 (pj :: (P2 ++ (nb, e, k) :: C)) := (layN_congr fun n _ l _ => by
      by_cases q : l = k
      · subst q
        rw [nxt_hit (show lvl l pj = true from decide_eq_true hp), nxt_hit (show lvl l pj = true from decide_eq_true hp)]
      · exact nxt_app (A := pj :: P2) (hl l q)).symm
    have e2 : layN P2 ((nb, e, k + 1) :: C) = layN P2 ((nb, e, k) :: C) := (layN_congr fun n hn l hln => hl l fun q => by
      have := h2 n hn
      unfold lvl at this
      have := of_decide_eq_false this
      omega).symm
    have keep : ∀ {y : Nat × List Value}, Box w y.1 y.2 → y.1 ≠ nb → y.1 ≠ pj.1 → Box ((w.setCell ⟨nb, 4 + k, none⟩ (nxt k C)).setCell ⟨pj.1, 4 + k, none⟩ (.pointer (some ⟨nb, 0, none⟩))) y.1 y.2 := fun hb ha hc => Box.otherN _ (Box.otherN _ hb (Ne.symm ha)) (Ne.symm hc)
    rw [layN_app, List.append_nil, e1] at hx
    rcases List.mem_append.1 hx with hx | hx
    · have hf := layN_fst hx
      have hd := ndm.2.2 x.1 hf
      refine keep (h.1 x (by rw [layN_app, List.append_nil]; exact List.mem_append_left _ hx)) (fun q => ?_) (fun q => ?_)
      · exact hd nb (List.mem_cons_of_mem _ (List.mem_append_right _ List.mem_cons_self)) q
      · exact hd pj.1 List.mem_cons_self q
    · rw [layN_cons] at hx
      rcases List.mem_cons.1 hx with rfl | hx
      · show Box _ pj.1 (nodeC pj.2.1 pj.2.2 (P2 ++ (nb, e, k + 1) :: C))
        rw [nodeC_set hk (.pointer (some ⟨nb, 0, none⟩)) (R := P2 ++ (nb, e, k) :: C) (h := pj.2.2) (fun l q => by
          unfold nx
          rw [nxt_app (hl l q)]) new]
        exact Box.setN _ (Box.otherN _ hj (Ne.symm hne)) (by show 4 + k < 8; omega)
      · rw [layN_app, List.append_nil, e2] at hx
        rcases List.mem_append.1 hx with hx | hx
        · have hf := layN_fst hx
          have hd := nd3.2.2 x.1 hf
          refine keep (h.1 x (by rw [layN_app, List.append_nil]; refine List.mem_append_right _ ?_; unfold layN; refine List.mem_cons_of_mem _ ?_; rw [layN_app]; refine List.mem_append_left _ ?_; rw [List.append_nil]; exact hx)) (fun q => hd nb List.mem_cons_self q) (fun q => nd2.1 (List.mem_append_left _ (by rw [← q]; exact hf)))
        · rw [layN_cons] at hx
          rcases List.mem_cons.1 hx with rfl | hx
          · show Box _ nb (nodeC e (k + 1) C)
            rw [nodeC_set hk (nxt k C) (R := C) (h := k) (fun l q => by
              unfold nx
              by_cases g : l < k
              · rw [if_pos g, if_pos (by omega)]
              · rw [if_neg g, if_neg (by omega)]) (by unfold nx; rw [if_pos (Nat.lt_succ_self k)])]
            exact Box.otherN _ (Box.setN _ hnb (by show 4 + k < 8; omega)) hne
          · have hf := layN_fst hx
            refine keep (h.1 x (by rw [layN_app, List.append_nil]; refine List.mem_append_right _ ?_; unfold layN; refine List.mem_cons_of_mem _ ?_; rw [layN_app]; refine List.mem_append_right _ ?_; unfold layN; exact List.mem_cons_of_mem _ hx)) (fun q => nd4.1 (by rw [← q]; exact hf)) (fun q => nd2.1 (List.mem_append_right _ (List.mem_cons_of_mem _ (by rw [← q]; exact hf))))
  · rw [List.map_append, List.map_cons, List.map_append, List.map_cons]
    exact nd
end Go.Proofs.YteejabpohnfoaaaDoor
