import Derived.Test.YteejabpohnfoaaaDoorPutP
import Derived.Handy
import Derived.Test.YteejabpohnfoaaaDoorEntsI
import Derived.Test.YteejabpohnfoaaaDoorKept
import Derived.Deep.LoopGhost
import Derived.Test.YteejabpohnfoaaaDoorHashI
import Derived.Test.YteejabpohnfoaaaDoorEntsJ2
import Derived.Test.YteejabpohnfoaaaDoorScanJ
import Derived.Sort.LoopGhostIn
import Derived.Test.YteejabpohnfoaaaDoorEntry
import Derived.Test.YteejabpohnfoaaaDoorApp
import Derived.Test.YteejabpohnfoaaaDoorShape
import Derived.WalkSpells
import Derived.WalkSmall
import Derived.Lib.SliceRun
import Derived.Test.YteejabpohnfoaaaDoorHasPut
import Derived.Test.YteejabpohnfoaaaDoorDrawEnts
/- Linked entries: what lies in memory, and what one link more does to it. -/
namespace Go.Proofs.YteejabpohnfoaaaDoor
open Go Go.RowKit

theorem Box.setN {w : World} {b i : Nat} {cs : List Value} (v : Value) (h : Box w b cs) (hi : i < cs.length) : Box (w.setCell ⟨b, i, none⟩ v) b (cs.set i v) := by
  intro j u hj
  by_cases e : i = j
  · subst e
    rw [List.getElem?_set_self hi] at hj
    cases hj
    obtain ⟨c0, f0⟩ := h i _ (List.getElem?_eq_getElem hi)
    exact ⟨by simp [go_sem, c0], by simpa [go_sem] using f0⟩
  · rw [List.getElem?_set_ne e] at hj
    obtain ⟨c0, f0⟩ := h j u hj
    exact ⟨by simpa [go_sem, e] using c0, by simpa [go_sem] using f0⟩
theorem Box.otherN {w : World} {b : Nat} {p : Addr} {cs : List Value} (v : Value) (h : Box w b cs) (hp : p.block ≠ b) : Box (w.setCell p v) b cs :=
  h.kept ((KeptOut.refl (fun k => k = p.block) w).setCell rfl v) (fun e => hp e.symm)
/-- a node: its block, its entry, its height -/
abbrev Nd := Nat × EntryD × Nat
def lvl (l : Nat) (n : Nd) : Bool := decide (l < n.2.2)
def ptrN (o : Option Nd) : Value := .pointer (o.map fun n => ⟨n.1, 0, none⟩)
def nxt (l : Nat) (R : List Nd) : Value := ptrN (R.find? (lvl l))
def nx (h l : Nat) (R : List Nd) : Value := if l < h then nxt l R else .pointer none
def nodeC (e : EntryD) (h : Nat) (R : List Nd) : List Value := [.string e.1, .int .i64 e.2.1, .bool e.2.2.1, .string e.2.2.2, nx h 0 R, nx h 1 R, nx h 2 R, nx h 3 R]
def layN : List Nd → List Nd → List (Nat × List Value)
  | [], _ => []
  | n :: A, B => (n.1, nodeC n.2.1 n.2.2 (A ++ B)) :: layN A B
theorem layN_app (A1 A2 B : List Nd) : layN (A1 ++ A2) B = layN A1 (A2 ++ B) ++ layN A2 B := by
  induction A1 with
  | nil => rfl
  | cons n A ih => simp only [List.cons_append, layN, ih, List.append_assoc]
theorem layN_cons (n : Nd) (A : List Nd) : layN (n :: A) [] = (n.1, nodeC n.2.1 n.2.2 A) :: layN A [] := by
  show (n.1, nodeC n.2.1 n.2.2 (A ++ [])) :: layN A [] = _
  rw [List.append_nil]
theorem layN_fst {A B : List Nd} {x : Nat × List Value} (h : x ∈ layN A B) : x.1 ∈ A.map (·.1) := by
  induction A with
  | nil => cases h
  | cons n A ih =>
    rcases List.mem_cons.1 h with h | h
    · rw [h]; simp
    · rw [List.map_cons]; exact List.mem_cons_of_mem _ (ih h)
theorem ptrN_or {o a b : Option Nd} (h : ptrN a = ptrN b) : ptrN (o.or a) = ptrN (o.or b) := by
  cases o with
  | none => exact h
  | some x => rfl
theorem nxt_app {l : Nat} {A X Y : List Nd} (h : nxt l X = nxt l Y) : nxt l (A ++ X) = nxt l (A ++ Y) := by
  unfold nxt at h ⊢
  rw [List.find?_append, List.find?_append]
  exact ptrN_or h
theorem nxt_skip {l : Nat} {A X : List Nd} (h : ∀ n ∈ A, lvl l n = false) : nxt l (A ++ X) = nxt l X := by
  have h0 : A.find? (lvl l) = none := List.find?_eq_none.2 fun x hx => by rw [h x hx]; exact Bool.false_ne_true
  unfold nxt
  rw [List.find?_append, h0]
  rfl
theorem nxt_hit {l : Nat} {n : Nd} {X : List Nd} (h : lvl l n = true) : nxt l (n :: X) = .pointer (some ⟨n.1, 0, none⟩) := by
  unfold nxt
  rw [List.find?_cons_of_pos h]
  rfl
theorem nxt_miss {l : Nat} {n : Nd} {X : List Nd} (h : lvl l n = false) : nxt l (n :: X) = nxt l X := by
  unfold nxt
  rw [List.find?_cons_of_neg (by rw [h]; exact Bool.false_ne_true)]
theorem nodeC_congr {e : EntryD} {h : Nat} {X Y : List Nd} (H : ∀ l, l < h → nxt l X = nxt l Y) : nodeC e h X = nodeC e h Y := by
  have g : ∀ l, nx h l X = nx h l Y := fun l => by
    unfold nx
    split
    · rename_i q; exact H l q
    · rfl
  unfold nodeC
  rw [g, g, g, g]
theorem layN_congr {A X Y : List Nd} (H : ∀ n ∈ A, ∀ l, l < n.2.2 → nxt l X = nxt l Y) : layN A X = layN A Y := by
  induction A with
  | nil => rfl
  | cons n A ih =>
    unfold layN
    rw [ih fun m hm => H m (List.mem_cons_of_mem _ hm), nodeC_congr (Y := A ++ Y) fun l hl => nxt_app (H n List.mem_cons_self l hl)]
/-- nodes lie in memory, each in a block of its own -/
def Skip (w : World) (T : List Nd) : Prop := (∀ x ∈ layN T [], Box w x.1 x.2) ∧ (T.map (·.1)).Nodup
theorem Skip.at {w : World} {A : List Nd} {n : Nd} {R : List Nd} (h : Skip w (A ++ n :: R)) : Box w n.1 (nodeC n.2.1 n.2.2 R) := by
  refine h.1 (n.1, nodeC n.2.1 n.2.2 R) ?_
  rw [layN_app]
  refine List.mem_append_right _ ?_
  unfold layN
  rw [List.append_nil]
  exact List.mem_cons_self
theorem Skip.kept {S : Nat → Prop} {w w' : World} {T : List Nd} (h : Skip w T) (hk : KeptOut S w w') (hs : ∀ n ∈ T, ¬ S n.1) : Skip w' T :=
  ⟨fun x hx => Box.kept hk (by
    obtain ⟨n, hn, e⟩ := List.mem_map.1 (layN_fst hx)
    rw [← e]; exact hs n hn) (h.1 x hx), h.2⟩
theorem Skip.below {w w' : World} {T : List Nd} (h : Skip w T) (hk : Below w.heap.size w w') : Skip w' T := ⟨fun x hx => (h.1 x hx).below hk, h.2⟩
theorem Skip.lt {w : World} {T : List Nd} (h : Skip w T) : ∀ n ∈ T, n.1 < w.heap.size := by
  intro n hn
  obtain ⟨A, R, rfl⟩ := List.append_of_mem hn
  exact Box.lt (Skip.at h)
theorem skip_start {w : World} {b : Nat} (e : EntryD) (h : Box w b [.string e.1, .int .i64 e.2.1, .bool e.2.2.1, .string e.2.2.2, .pointer none, .pointer none, .pointer none, .pointer none]) : Skip w [(b, e, 4)] := by
  refine ⟨fun x hx => ?_, by simp⟩
  unfold layN at hx
  rcases List.mem_cons.1 hx with rfl | hx
  · exact h
  · cases hx
/-- a node that no link leads to yet -/
theorem skip_new {w : World} {P C : List Nd} (e : EntryD) (t : TypeId) (h : Skip w (P ++ C)) :
    Skip (w.alloc (.cells #[.string e.1, .int .i64 e.2.1, .bool e.2.2.1, .string e.2.2.2, .pointer none, .pointer none, .pointer none, .pointer none] t)) (P ++ (w.heap.size, e, 0) :: C) := by
  have hl := h.lt
  have h1 := h.below (below_alloc w (.cells #[.string e.1, .int .i64 e.2.1, .bool e.2.2.1, .string e.2.2.2, .pointer none, .pointer none, .pointer none, .pointer none] t))
  have hb := Box.alloc w #[.string e.1, .int .i64 e.2.1, .bool e.2.2.1, .string e.2.2.2, .pointer none, .pointer none, .pointer none, .pointer none] t
  generalize w.alloc _ = w1 at h1 hb
  have eq : layN P ((w.heap.size, e, 0) :: C) = layN P C := layN_congr fun n _ l _ => nxt_miss (decide_eq_false (by show ¬ l < 0; omega))
  refine ⟨fun x hx => ?_, ?_⟩
  · rw [layN_app, List.append_nil, eq] at hx
    rcases List.mem_append.1 hx with hx | hx
    · exact h1.1 x (by rw [layN_app, List.append_nil]; exact List.mem_append_left _ hx)
    · unfold layN at hx
      rcases List.mem_cons.1 hx with rfl | hx
      · exact hb
      · exact h1.1 x (by rw [layN_app, List.append_nil]; exact List.mem_append_right _ hx)
  · have hn := h.2
    rw [List.map_append, List.map_cons]
    rw [List.map_append] at hn
    refine (List.perm_middle).nodup_iff.2 (List.nodup_cons.2 ⟨fun q => ?_, hn⟩)
    rw [← List.map_append] at q
    obtain ⟨n, hn2, e2⟩ := List.mem_map.1 q
    have := hl n hn2
    have e3 : n.1 = w.heap.size := e2
    omega
theorem nodeC_set {e : EntryD} {h h' k : Nat} {R R' : List Nd} (hk : k < 4) (v : Value) (H : ∀ l, l ≠ k → nx h' l R' = nx h l R) (hv : nx h' k R' = v) : nodeC e h' R' = (nodeC e h R).set (4 + k) v := by
  unfold nodeC
  match k, hk with
  | 0, _ => rw [hv, H 1 (by decide), H 2 (by decide), H 3 (by decide)]; rfl
  | 1, _ => rw [hv, H 0 (by decide), H 2 (by decide), H 3 (by decide)]; rfl
  | 2, _ => rw [hv, H 0 (by decide), H 1 (by decide), H 3 (by decide)]; rfl
  | 3, _ => rw [hv, H 0 (by decide), H 1 (by decide), H 2 (by decide)]; rfl
theorem nodeC_get {e : EntryD} {h k : Nat} {R : List Nd} (hk : k < 4) : (nodeC e h R)[4 + k]? = some (nx h k R) := by
  match k, hk with
  | 0, _ => rfl
  | 1, _ => rfl
  | 2, _ => rfl
  | 3, _ => rfl
/-- the links of one height more lead over a new node -/
theorem skip_step {w : World} {P1 : List Nd} {pj : Nd} {P2 : List Nd} {nb : Nat} {e : EntryD} {k : Nat} {C : List Nd} (hk : k < 4) (h : Skip w (P1 ++ pj :: (P2 ++ (nb, e, k) :: C))) (hp : k < pj.2.2) (h2 : ∀ n ∈ P2, lvl k n = false) :
    w.cell? ⟨pj.1, 4 + k, none⟩ = some (nxt k C) ∧ pj.1 ≠ nb ∧ Skip ((w.setCell ⟨nb, 4 + k, none⟩ (nxt k C)).setCell ⟨pj.1, 4 + k, none⟩ (.pointer (some ⟨nb, 0, none⟩))) (P1 ++ pj :: (P2 ++ (nb, e, k + 1) :: C)) := by
  have hnk : lvl k (nb, e, k) = false := decide_eq_false (Nat.lt_irrefl k)
  have hnk1 : lvl k (nb, e, k + 1) = true := decide_eq_true (Nat.lt_succ_self k)
  have hl : ∀ l, l ≠ k → nxt l ((nb, e, k) :: C) = nxt l ((nb, e, k + 1) :: C) := fun l hl => by
    by_cases q : l < k
    · rw [nxt_hit (show lvl l (nb, e, k) = true from decide_eq_true q), nxt_hit (show lvl l (nb, e, k + 1) = true from decide_eq_true (by show l < k + 1; omega))]
    · rw [nxt_miss (show lvl l (nb, e, k) = false from decide_eq_false q), nxt_miss (show lvl l (nb, e, k + 1) = false from decide_eq_false (by show ¬ l < k + 1; omega))]
  have hj := Skip.at h
  have hnb : Box w nb (nodeC e k C) := by
    have h' := h
    rw [show P1 ++ pj :: (P2 ++ (nb, e, k) :: C) = (P1 ++ pj :: P2) ++ (nb, e, k) :: C by simp] at h'
    exact Skip.at h'
  have old : nx pj.2.2 k (P2 ++ (nb, e, k) :: C) = nxt k C := by
    unfold nx
    rw [if_pos hp, nxt_skip h2, nxt_miss hnk]
  have new : nx pj.2.2 k (P2 ++ (nb, e, k + 1) :: C) = .pointer (some ⟨nb, 0, none⟩) := by
    unfold nx
    rw [if_pos hp, nxt_skip h2, nxt_hit hnk1]
  have hcell := (hj (4 + k) _ (nodeC_get hk)).1
  rw [old] at hcell
  have nd := h.2
  rw [List.map_append, List.map_cons, List.map_append, List.map_cons] at nd
  have ndm := List.nodup_append.1 nd
  have nd2 := List.nodup_cons.1 ndm.2.1
  have nd3 := List.nodup_append.1 nd2.2
  have nd4 := List.nodup_cons.1 nd3.2.1
  have hne : pj.1 ≠ nb := fun q => nd2.1 (List.mem_append_right _ (by rw [q]; exact List.mem_cons_self))
  refine ⟨hcell, hne, ⟨fun x hx => ?_, ?_⟩⟩
  · have e1 : layN P1 (pj :: (P2 ++ (nb, e, k + 1) :: C)) = layN P1 (pj :: (P2 ++ (nb, e, k) :: C)) := (layN_congr fun n _ l _ => by
      by_cases q : l = k
      · subst q
        rw [nxt_hit (show lvl l pj = true from decide_eq_true hp), nxt_hit (show lvl l pj = true from decide_eq_true hp)]
      · exact nxt_app (A := pj :: P2) (hl l q)).symm
    have e2 : layN P2 ((nb, e, k + 1) :: C) = layN P2 ((nb, e, k) :: C) := (layN_congr fun n hn l hln => hl l fun q => by
      have := h2 n hn
      unfold lvl at this
      have := of_decide_eq_false this
      omega).symm
    have keep : ∀ {y : Nat × List Value}, Box w y.1 y.2 → y.1 ≠ nb → y.1 ≠ pj.1 → Box ((w.setCell ⟨nb, 4 + k, none⟩ (nxt k C)).setCell ⟨pj.1, 4 + k, none⟩ (.pointer (some ⟨nb, 0, none⟩))) y.1 y.2 := fun hb ha hc => Box.otherN _ (Box.otherN _ hb (Ne.symm ha)) (Ne.symm hc)
    rw [layN_app, List.append_nil, e1] at hx
    rcases List.mem_append.1 hx with hx | hx
    · have hf := layN_fst hx
      have hd := ndm.2.2 x.1 hf
      refine keep (h.1 x (by rw [layN_app, List.append_nil]; exact List.mem_append_left _ hx)) (fun q => ?_) (fun q => ?_)
      · exact hd nb (List.mem_cons_of_mem _ (List.mem_append_right _ List.mem_cons_self)) q
      · exact hd pj.1 List.mem_cons_self q
    · rw [layN_cons] at hx
      rcases List.mem_cons.1 hx with rfl | hx
      · show Box _ pj.1 (nodeC pj.2.1 pj.2.2 (P2 ++ (nb, e, k + 1) :: C))
        rw [nodeC_set hk (.pointer (some ⟨nb, 0, none⟩)) (R := P2 ++ (nb, e, k) :: C) (h := pj.2.2) (fun l q => by
          unfold nx
          rw [nxt_app (hl l q)]) new]
        exact Box.setN _ (Box.otherN _ hj (Ne.symm hne)) (by show 4 + k < 8; omega)
      · rw [layN_app, List.append_nil, e2] at hx
        rcases List.mem_append.1 hx with hx | hx
        · have hf := layN_fst hx
          have hd := nd3.2.2 x.1 hf
          refine keep (h.1 x (by rw [layN_app, List.append_nil]; refine List.mem_append_right _ ?_; unfold layN; refine List.mem_cons_of_mem _ ?_; rw [layN_app]; refine List.mem_append_left _ ?_; rw [List.append_nil]; exact hx)) (fun q => hd nb List.mem_cons_self q) (fun q => nd2.1 (List.mem_append_left _ (by rw [← q]; exact hf)))
        · rw [layN_cons] at hx
          rcases List.mem_cons.1 hx with rfl | hx
          · show Box _ nb (nodeC e (k + 1) C)
            rw [nodeC_set hk (nxt k C) (R := C) (h := k) (fun l q => by
              unfold nx
              by_cases g : l < k
              · rw [if_pos g, if_pos (by omega)]
              · rw [if_neg g, if_neg (by omega)]) (by unfold nx; rw [if_pos (Nat.lt_succ_self k)])]
            exact Box.otherN _ (Box.setN _ hnb (by show 4 + k < 8; omega)) hne
          · have hf := layN_fst hx
            refine keep (h.1 x (by rw [layN_app, List.append_nil]; refine List.mem_append_right _ ?_; unfold layN; refine List.mem_cons_of_mem _ ?_; rw [layN_app]; refine List.mem_append_right _ ?_; unfold layN; exact List.mem_cons_of_mem _ hx)) (fun q => nd4.1 (by rw [← q]; exact hf)) (fun q => nd2.1 (List.mem_append_right _ (List.mem_cons_of_mem _ (by rw [← q]; exact hf))))
  · rw [List.map_append, List.map_cons, List.map_append, List.map_cons]
    exact nd
end Go.Proofs.YteejabpohnfoaaaDoor

/- Linked entries: the last node ahead of an entry's place, at each height. -/
namespace Go.Proofs.YteejabpohnfoaaaDoor
open Go Go.RowKit

def LastOf (P : List Nd) (l q : Nat) : Prop := ∃ A n R, P = A ++ n :: R ∧ n.1 = q ∧ l < n.2.2 ∧ ∀ x ∈ R, lvl l x = false
set_option maxRecDepth 100000 in
set_option maxHeartbeats 2000000 in
theorem ahead_any (hb : Nat) (z : EntryD) (S1 C : List Nd) (x0 : ByteArray) (x1 : Int) (x2 : Bool) (x3 : ByteArray) (w : World) (hS : Skip w (((hb, z, 4) :: S1) ++ C)) (h1 : ∀ n ∈ S1, lessB n.2.1 (x0, x1, x2, x3) = true) (h2 : ∀ n ∈ C, lessB n.2.1 (x0, x1, x2, x3) = false) :
    Calls Tryd.prog 51 #[.pointer (some ⟨hb, 0, none⟩), .agg #[.string x0, .int .i64 x1, .bool x2, .string x3]] w fun en w' => ∃ q0 q1 q2 q3, en = .returned (.agg #[.pointer (some ⟨q0, 0, none⟩), .pointer (some ⟨q1, 0, none⟩), .pointer (some ⟨q2, 0, none⟩), .pointer (some ⟨q3, 0, none⟩)]) ∧ LastOf ((hb, z, 4) :: S1) 0 q0 ∧ LastOf ((hb, z, 4) :: S1) 1 q1 ∧ LastOf ((hb, z, 4) :: S1) 2 q2 ∧ LastOf ((hb, z, 4) :: S1) 3 q3 ∧ Below w.heap.size w w' := by
  have HS := Lib.hid hS
  clear hS
  obtain ⟨w3, hw3⟩ : ∃ W, ((w.alloc (.cells #[.string x0, .int .i64 x1, .bool x2, .string x3] 31)).alloc (.cells #[.pointer none, .pointer none, .pointer none, .pointer none] 74)).alloc (.cells #[.pointer none, .pointer none, .pointer none, .pointer none] 74) = W := ⟨_, rfl⟩
  have BX := Lib.hid (show Box w3 w.heap.size [.string x0, .int .i64 x1, .bool x2, .string x3] by rw [← hw3]; exact ((Box.alloc w #[.string x0, .int .i64 x1, .bool x2, .string x3] 31).below (below_alloc _ _)).below (below_alloc _ _))
  have BR := Lib.hid (show Box w3 (w.heap.size + 1) [.pointer none, .pointer none, .pointer none, .pointer none] by
    have h := (Box.alloc (w.alloc (.cells #[.string x0, .int .i64 x1, .bool x2, .string x3] 31)) #[.pointer none, .pointer none, .pointer none, .pointer none] 74).below (below_alloc _ (.cells #[.pointer none, .pointer none, .pointer none, .pointer none] 74))
    rw [World.size_alloc] at h
    rw [← hw3]; exact h)
  have BL := Lib.hid (show Box w3 (w.heap.size + 1 + 1) [.pointer none, .pointer none, .pointer none, .pointer none] by
    have h := Box.alloc ((w.alloc (.cells #[.string x0, .int .i64 x1, .bool x2, .string x3] 31)).alloc (.cells #[.pointer none, .pointer none, .pointer none, .pointer none] 74)) #[.pointer none, .pointer none, .pointer none, .pointer none] 74
    rw [World.size_alloc, World.size_alloc] at h
    rw [← hw3]; exact h)
  have B3 := Lib.hid (show Below w.heap.size w w3 by rw [← hw3]; exact (((below_alloc w _).alloc (by simp) _).alloc (by simp; omega) _))
  have HS3 := Lib.hid (HS.out.below B3.out)
  have z3 : w3.heap.size = w.heap.size + 3 := by rw [← hw3]; simp
  have HNL := Lib.hid (show ∀ n ∈ ((hb, z, 4) :: S1) ++ C, n.1 < w.heap.size from HS.out.lt)
  have H1 := Lib.hid h1
  have H2 := Lib.hid h2
  have Z3 := Lib.hid z3
  clear HS h1 h2 z3
  go_enter Tryd.func51, Tryd.ntmps51
  go_wp2
  clear hw3
  go_loopg [6, 7] 4 (fun q v6 v7 wr => ∃ (A : List Nd) (n : Nd) (R : List Nd) (cs : List Value) (m : Int), (hb, z, 4) :: S1 = A ++ n :: R ∧ v6 = .pointer (some ⟨n.1, 0, none⟩) ∧ m + 1 = q ∧ q ≤ 4 ∧ v7 = .int .i64 m ∧ q ≤ n.2.2 ∧ Box wr w.heap.size [.string x0, .int .i64 x1, .bool x2, .string x3] ∧ Box wr (w.heap.size + 1) [.pointer none, .pointer none, .pointer none, .pointer none] ∧ Box wr (w.heap.size + 1 + 1) cs ∧ cs.length = 4 ∧ (∀ l, q ≤ l → l < 4 → ∃ q', cs[l]? = some (.pointer (some ⟨q', 0, none⟩)) ∧ LastOf ((hb, z, 4) :: S1) l q') ∧ Skip wr (((hb, z, 4) :: S1) ++ C) ∧ Below w.heap.size w wr)
  case atStart => exact ⟨[], (hb, z, 4), S1, _, 3, rfl, rfl, by decide, by decide, rfl, Nat.le_refl _, BX.out, BR.out, BL.out, rfl, fun l h h' => by omega, HS3.out, B3.out⟩
  case round =>
    clear BX BR BL B3 HS3
    obtain ⟨A, n, R, cs, m, hP, rfl, hmq, hq4, rfl, hqn, bx, br, bl, hcl, hcs, hsk, hbel⟩ := hrel
    have HPA := Lib.hid hP
    have HMQ := Lib.hid hmq
    have BX := Lib.hid bx
    have BR := Lib.hid br
    have BL := Lib.hid bl
    have HCL := Lib.hid hcl
    have HCS := Lib.hid hcs
    have HSK := Lib.hid hsk
    have HB := Lib.hid hbel
    have HQN := Lib.hid hqn
    clear hP hmq bx br bl hcl hcs hsk hbel hqn
    by_cases hm0 : 0 ≤ m
    · obtain ⟨l, rfl⟩ : ∃ l : Nat, m = (l : Int) := ⟨m.toNat, by omega⟩
      have hl4 : (l : Int) < 4 := by have := HMQ.out; omega
      have hl0 : (0 : Int) ≤ (l : Int) := by omega
      have HL := Lib.hid (show gk = l + 1 by have := HMQ.out; omega)
      obtain ⟨og, hog⟩ : ∃ og, og = gk := ⟨_, rfl⟩
      have HOG := Lib.hid hog
      clear hog hq4
      go_wp2
      go_loopg [6] (R.length + 1) (fun q v6 wq => ∃ (A : List Nd) (n : Nd) (R : List Nd), (hb, z, 4) :: S1 = A ++ n :: R ∧ v6 = .pointer (some ⟨n.1, 0, none⟩) ∧ l < n.2.2 ∧ R.length < q ∧ Below wr.heap.size wr wq)
      case atStart => exact ⟨A, n, R, HPA.out, rfl, by have := HQN.out; have := HL.out; omega, Nat.lt_succ_self _, Below.refl _ _⟩
      case round =>
        clear HPA
        obtain ⟨A, n, R, hP, rfl, hln, hRq, hb2⟩ := hrel
        have HPA := Lib.hid hP
        have HRQ := Lib.hid hRq
        have HLN := Lib.hid hln
        have B2 := Lib.hid hb2
        have SK2 := Lib.hid (HSK.out.below hb2)
        have BXq := Lib.hid (BX.out.below hb2)
        have nd := Skip.at (show Skip _ (A ++ n :: (R ++ C)) by have h := SK2.out; rw [HPA.out, List.append_assoc] at h; exact h)
        have c0 := (nd (4 + l) _ (nodeC_get (by omega))).1
        rw [show nx n.2.2 l (R ++ C) = nxt l (R ++ C) by unfold nx; rw [if_pos hln]] at c0
        clear hP hRq hb2 nd hln
        have fL : ∃ c, cs[l]? = some c := ⟨_, List.getElem?_eq_getElem (by rw [HCL.out]; omega)⟩
        obtain ⟨cl, hcl⟩ := fL
        have BLq := Lib.hid (BL.out.below B2.out)
        have BRq := Lib.hid (BR.out.below B2.out)
        have HBq := Lib.hid (HB.out.trans (B2.out.mono HB.out.size))
        cases hf : R.find? (lvl l) with
        | some m =>
          obtain ⟨hm1, X, Y, hR, hX⟩ := List.find?_eq_some_iff_append.1 hf
          rw [show nxt l (R ++ C) = .pointer (some ⟨m.1, 0, none⟩) by unfold nxt; rw [List.find?_append, hf]; rfl] at c0
          have hin : m ∈ S1 := by
            have h := HPA.out
            rw [hR] at h
            cases A with
            | nil =>
              simp only [List.nil_append, List.cons.injEq] at h
              rw [h.2]
              simp
            | cons a A =>
              simp only [List.cons_append, List.cons.injEq] at h
              rw [h.2]
              simp
          have hle := H1.out m hin
          have bm := Skip.at (show Skip _ ((A ++ n :: X) ++ m :: (Y ++ C)) by have h := SK2.out; rw [HPA.out, hR] at h; simpa using h)
          have HM := Lib.hid (show (hb, z, 4) :: S1 = (A ++ n :: X) ++ m :: Y by rw [HPA.out, hR]; simp)
          have HYR := Lib.hid (show Y.length < R.length by rw [hR]; simp; omega)
          have HM1 := Lib.hid (show l < m.2.2 from of_decide_eq_true hm1)
          obtain ⟨mb, ⟨m0, m1, m2, m3⟩, mh⟩ := m
          dsimp only at c0 bm hle HM1
          have HO := Lib.hid (ordI_lt hle)
          clear hf hm1 hR hX hin hle
          obtain ⟨ig, hig⟩ : ∃ ig, ig = gk := ⟨_, rfl⟩
          have HIG := Lib.hid hig
          rw [← hig] at HRQ
          clear hig
          have KS := Lib.hid (show ∀ W, Below wr.heap.size wr W → Below wr.heap.size wr W ∧ W.cell? ⟨n.1, 4 + l, none⟩ = some (.pointer (some ⟨mb, 0, none⟩)) ∧ (W.cell? ⟨mb, 0, none⟩ = some (.string m0) ∧ W.cell? ⟨mb, 1, none⟩ = some (.int .i64 m1) ∧ W.cell? ⟨mb, 2, none⟩ = some (.bool m2) ∧ W.cell? ⟨mb, 3, none⟩ = some (.string m3)) ∧ W.cell? ⟨w.heap.size, 0, none⟩ = some (.string x0) ∧ W.cell? ⟨w.heap.size, 1, none⟩ = some (.int .i64 x1) ∧ W.cell? ⟨w.heap.size, 2, none⟩ = some (.bool x2) ∧ W.cell? ⟨w.heap.size, 3, none⟩ = some (.string x3) from fun W hb => by
            have q0 := (hb.cell (p := ⟨n.1, 4 + l, none⟩) (by have := World.block_lt_of_cell? wr _ c0; simpa using this)).trans c0
            have qm := bm.below hb
            have qx := BXq.out.below hb
            exact ⟨hb, q0, ⟨(qm 0 _ rfl).1, (qm 1 _ rfl).1, (qm 2 _ rfl).1, (qm 3 _ rfl).1⟩, (qx 0 _ rfl).1, (qx 1 _ rfl).1, (qx 2 _ rfl).1, (qx 3 _ rfl).1⟩)
          clear c0 bm
          obtain ⟨o, ho⟩ : ∃ o, ordI (m0, m1, m2, m3) (x0, x1, x2, x3) = o := ⟨_, rfl⟩
          rw [ho] at HO
          have HOO := Lib.hid ho
          have ho0 := HO.out
          clear ho
          go_wp2_with fail
          go_region_held3 (fun W => Below wr.heap.size wr W ∧ W.cell? ⟨n.1, 4 + l, none⟩ = some (.pointer (some ⟨mb, 0, none⟩)) ∧ (W.cell? ⟨mb, 0, none⟩ = some (.string m0) ∧ W.cell? ⟨mb, 1, none⟩ = some (.int .i64 m1) ∧ W.cell? ⟨mb, 2, none⟩ = some (.bool m2) ∧ W.cell? ⟨mb, 3, none⟩ = some (.string m3)) ∧ W.cell? ⟨w.heap.size, 0, none⟩ = some (.string x0) ∧ W.cell? ⟨w.heap.size, 1, none⟩ = some (.int .i64 x1) ∧ W.cell? ⟨w.heap.size, 2, none⟩ = some (.bool x2) ∧ W.cell? ⟨w.heap.size, 3, none⟩ = some (.string x3))
            (first | exact KS.out _ (Below.refl _ _).drew | exact KS.out _ (((Below.refl _ _).drew).trans b4))
            (first
              | (go_at_call 41; refine (order_any _ _ _ _ _ _ _ _ _).mono ?_; rintro e w4 ⟨rfl, b4⟩; rw [HOO.out]))
          rename_i hH
          obtain ⟨hbw, c0, ⟨c1, c2, c3, c4⟩, d1, d2, d3, d4⟩ := hH
          have B4 := Lib.hid hbw
          clear hbw
          go_wp2
          go_roundg (ig - 1)
          case measure => have := HIG.out; have := HRQ.out; omega
          case rel => exact ⟨A ++ n :: X, (mb, (m0, m1, m2, m3), mh), Y, HM.out, rfl, HM1.out, by have := HRQ.out; have := HYR.out; omega, B2.out.trans (B4.out.mono B2.out.size)⟩
        | none =>
          rw [nxt_skip (fun x hx => by have := List.find?_eq_none.1 hf x hx; simpa using this)] at c0
          have HLast := Lib.hid (show LastOf ((hb, z, 4) :: S1) l n.1 from ⟨A, n, R, HPA.out, rfl, HLN.out, fun x hx => by have := List.find?_eq_none.1 hf x hx; simpa using this⟩)
          clear hf
          cases hg : C.find? (lvl l) with
          | none =>
            rw [show nxt l C = .pointer none by unfold nxt; rw [hg]; rfl] at c0
            clear hg
            go_wp2_with fail
            go_quiet (fail)
            have BLs := BLq.out.below (Below.refl _ _)
            have BXs := Lib.hid (BXq.out.below (Below.refl _ _))
            have BRs := Lib.hid (BRq.out.below (Below.refl _ _))
            have SKs := Lib.hid (SK2.out.below (Below.refl _ _))
            have Bs := Lib.hid ((HBq.out).trans ((Below.refl _ _).mono HBq.out.size))
            have BLS := Lib.hid BLs
            obtain ⟨st, sf⟩ := BLs l _ hcl
            clear BLs
            go_wp2
            go_roundg (og - 1)
            case measure => have := HL.out; have := HOG.out; omega
            case rel =>
              have e1 := HL.out
              have e2 := HOG.out
              refine ⟨A, n, R, cs.set l (.pointer (some ⟨n.1, 0, none⟩)), (l : Int) - 1, HPA.out, rfl, by omega, by omega, rfl, by have := HLN.out; omega, Box.otherN _ BXs.out (by show w.heap.size + 1 + 1 ≠ w.heap.size; omega), Box.otherN _ BRs.out (by show w.heap.size + 1 + 1 ≠ w.heap.size + 1; omega), Box.setN _ BLS.out (by rw [HCL.out]; omega), by rw [List.length_set]; exact HCL.out, fun l' h1' h2' => ?_, Skip.kept (show Skip (wr.drewN nq) (((hb, z, 4) :: S1) ++ C) from SKs.out) ((KeptOut.refl (fun b => b = w.heap.size + 1 + 1) (wr.drewN nq)).setCell (p := ⟨w.heap.size + 1 + 1, l, none⟩) rfl _) (fun x hx e => by have := HNL.out x hx; omega), (show Below w.heap.size w (wr.drewN nq) from Bs.out.trans ⟨rfl, rfl, rfl, Nat.le_refl _, fun _ _ => rfl⟩).setCell (p := ⟨w.heap.size + 1 + 1, l, none⟩) (by show w.heap.size ≤ w.heap.size + 1 + 1; omega) _⟩
              by_cases e : l' = l
              · subst e
                exact ⟨n.1, by rw [List.getElem?_set_self (by rw [HCL.out]; omega)], HLast.out⟩
              · rw [List.getElem?_set_ne (fun q => e q.symm)]
                exact HCS.out l' (by omega) h2'
          | some m =>
            obtain ⟨hm1, X, Y, hR, hX⟩ := List.find?_eq_some_iff_append.1 hg
            rw [show nxt l C = .pointer (some ⟨m.1, 0, none⟩) by unfold nxt; rw [hg]; rfl] at c0
            have hle := H2.out m (by rw [hR]; simp)
            have bm := Skip.at (show Skip _ ((A ++ n :: (R ++ X)) ++ m :: Y) by have h := SK2.out; rw [HPA.out, hR] at h; simpa using h)
            obtain ⟨mb, ⟨m0, m1, m2, m3⟩, mh⟩ := m
            dsimp only at c0 bm hle
            have HO := Lib.hid (ordI_ge hle)
            clear hg hm1 hR hX hle
            have KS := Lib.hid (show ∀ W, Below wr.heap.size wr W → Below wr.heap.size wr W ∧ W.cell? ⟨n.1, 4 + l, none⟩ = some (.pointer (some ⟨mb, 0, none⟩)) ∧ (W.cell? ⟨mb, 0, none⟩ = some (.string m0) ∧ W.cell? ⟨mb, 1, none⟩ = some (.int .i64 m1) ∧ W.cell? ⟨mb, 2, none⟩ = some (.bool m2) ∧ W.cell? ⟨mb, 3, none⟩ = some (.string m3)) ∧ W.cell? ⟨w.heap.size, 0, none⟩ = some (.string x0) ∧ W.cell? ⟨w.heap.size, 1, none⟩ = some (.int .i64 x1) ∧ W.cell? ⟨w.heap.size, 2, none⟩ = some (.bool x2) ∧ W.cell? ⟨w.heap.size, 3, none⟩ = some (.string x3) from fun W hb => by
              have q0 := (hb.cell (p := ⟨n.1, 4 + l, none⟩) (by have := World.block_lt_of_cell? wr _ c0; simpa using this)).trans c0
              have qm := bm.below hb
              have qx := BXq.out.below hb
              exact ⟨hb, q0, ⟨(qm 0 _ rfl).1, (qm 1 _ rfl).1, (qm 2 _ rfl).1, (qm 3 _ rfl).1⟩, (qx 0 _ rfl).1, (qx 1 _ rfl).1, (qx 2 _ rfl).1, (qx 3 _ rfl).1⟩)
            clear c0 bm
            obtain ⟨o, ho⟩ : ∃ o, ordI (m0, m1, m2, m3) (x0, x1, x2, x3) = o := ⟨_, rfl⟩
            rw [ho] at HO
            have HOO := Lib.hid ho
            have ho0 := HO.out
            clear ho
            go_wp2_with fail
            go_region_held3 (fun W => Below wr.heap.size wr W ∧ W.cell? ⟨n.1, 4 + l, none⟩ = some (.pointer (some ⟨mb, 0, none⟩)) ∧ (W.cell? ⟨mb, 0, none⟩ = some (.string m0) ∧ W.cell? ⟨mb, 1, none⟩ = some (.int .i64 m1) ∧ W.cell? ⟨mb, 2, none⟩ = some (.bool m2) ∧ W.cell? ⟨mb, 3, none⟩ = some (.string m3)) ∧ W.cell? ⟨w.heap.size, 0, none⟩ = some (.string x0) ∧ W.cell? ⟨w.heap.size, 1, none⟩ = some (.int .i64 x1) ∧ W.cell? ⟨w.heap.size, 2, none⟩ = some (.bool x2) ∧ W.cell? ⟨w.heap.size, 3, none⟩ = some (.string x3))
              (first | exact KS.out _ (Below.refl _ _).drew | exact KS.out _ (((Below.refl _ _).drew).trans b4))
              (first
                | (go_at_call 41; refine (order_any _ _ _ _ _ _ _ _ _).mono ?_; rintro e w4 ⟨rfl, b4⟩; rw [HOO.out]))
            rename_i hH
            obtain ⟨hbw, c0, ⟨c1, c2, c3, c4⟩, d1, d2, d3, d4⟩ := hH
            have B4 := Lib.hid hbw
            clear hbw
            have BLs := BLq.out.below (B4.out)
            have BXs := Lib.hid (BXq.out.below (B4.out))
            have BRs := Lib.hid (BRq.out.below (B4.out))
            have SKs := Lib.hid (SK2.out.below (B4.out))
            have Bs := Lib.hid ((HBq.out).trans ((B4.out).mono HBq.out.size))
            have BLS := Lib.hid BLs
            obtain ⟨st, sf⟩ := BLs l _ hcl
            clear BLs
            go_wp2
            go_roundg (og - 1)
            case measure => have := HL.out; have := HOG.out; omega
            case rel =>
              have e1 := HL.out
              have e2 := HOG.out
              refine ⟨A, n, R, cs.set l (.pointer (some ⟨n.1, 0, none⟩)), (l : Int) - 1, HPA.out, rfl, by omega, by omega, rfl, by have := HLN.out; omega, Box.otherN _ BXs.out (by show w.heap.size + 1 + 1 ≠ w.heap.size; omega), Box.otherN _ BRs.out (by show w.heap.size + 1 + 1 ≠ w.heap.size + 1; omega), Box.setN _ BLS.out (by rw [HCL.out]; omega), by rw [List.length_set]; exact HCL.out, fun l' h1' h2' => ?_, Skip.kept (show Skip w4 (((hb, z, 4) :: S1) ++ C) from SKs.out) ((KeptOut.refl (fun b => b = w.heap.size + 1 + 1) w4).setCell (p := ⟨w.heap.size + 1 + 1, l, none⟩) rfl _) (fun x hx e => by have := HNL.out x hx; omega), Bs.out.setCell (p := ⟨w.heap.size + 1 + 1, l, none⟩) (by show w.heap.size ≤ w.heap.size + 1 + 1; omega) _⟩
              by_cases e : l' = l
              · subst e
                exact ⟨n.1, by rw [List.getElem?_set_self (by rw [HCL.out]; omega)], HLast.out⟩
              · rw [List.getElem?_set_ne (fun q => e q.symm)]
                exact HCS.out l' (by omega) h2'
    · obtain rfl : m = -1 := by have := HMQ.out; omega
      have hq0 : gk = 0 := by have := HMQ.out; omega
      obtain ⟨q0, e0, L0⟩ := HCS.out 0 (by omega) (by decide)
      obtain ⟨q1, e1, L1⟩ := HCS.out 1 (by omega) (by decide)
      obtain ⟨q2, e2, L2⟩ := HCS.out 2 (by omega) (by decide)
      obtain ⟨q3, e3, L3⟩ := HCS.out 3 (by omega) (by decide)
      have HLL := Lib.hid (And.intro L0 (And.intro L1 (And.intro L2 L3)))
      have k0 := (BL.out 0 _ e0).1
      have k1 := (BL.out 1 _ e1).1
      have k2 := (BL.out 2 _ e2).1
      have k3 := (BL.out 3 _ e3).1
      obtain ⟨r0, g0⟩ := BR.out 0 _ rfl
      obtain ⟨r1, g1⟩ := BR.out 1 _ rfl
      obtain ⟨r2, g2⟩ := BR.out 2 _ rfl
      obtain ⟨r3, g3⟩ := BR.out 3 _ rfl
      clear e0 e1 e2 e3 L0 L1 L2 L3 hq0 HPA HQN hq4
      go_wp2
      refine bodyPost_ret (v := .agg #[.pointer (some ⟨q0, 0, none⟩), .pointer (some ⟨q1, 0, none⟩), .pointer (some ⟨q2, 0, none⟩), .pointer (some ⟨q3, 0, none⟩)]) (by simp [results, Tryd.results51, go_sem, r0, r1, r2, r3]) rfl ?_
      exact ⟨q0, q1, q2, q3, rfl, HLL.out.1, HLL.out.2.1, HLL.out.2.2.1, HLL.out.2.2.2, by have b := HB.out; repeat (first | exact b | refine Below.setCell ?_ (by show w.heap.size ≤ w.heap.size + 1; omega) _)⟩
end Go.Proofs.YteejabpohnfoaaaDoor

/- Linked entries: one more is put in its place. -/
namespace Go.Proofs.YteejabpohnfoaaaDoor
open Go Go.RowKit

set_option maxRecDepth 100000 in
set_option maxHeartbeats 2000000 in
theorem rises_any (s : ByteArray) (w : World) (hm : s.size ≤ 549755813888) (ht : HashT w) :
    Calls Tryd.prog 52 #[.string s] w fun e w' => ∃ h : Nat, e = .returned (.int .i64 h) ∧ 1 ≤ h ∧ h ≤ 4 ∧ Below w.heap.size w w' := by
  have HT := Lib.hid ht
  clear ht
  go_enter Tryd.func52, Tryd.ntmps52
  go_wp2_with fail
  refine (implHash_any s _ hm HT.out).mono ?_
  rintro e w1 ⟨rfl, b1⟩
  obtain ⟨u, hu⟩ : ∃ u, shaS s = u := ⟨_, rfl⟩
  have hus : u.size = 64 := by rw [← hu]; exact shaS_size s
  rw [hu]
  clear hu
  go_wp2_with fail
  go_loopg [4] 3 (fun q v4 wr => ∃ h : Nat, h + q = 4 ∧ 1 ≤ h ∧ v4 = .int .i64 h ∧ wr = w1)
  case atStart => exact ⟨1, rfl, Nat.le_refl _, rfl, rfl⟩
  case round =>
    obtain ⟨h, hq, h1, rfl, rfl⟩ := hrel
    have HQ := Lib.hid hq
    clear hq
    by_cases hlt : h < 4
    · have i1 : (h : Int) < 4 := by omega
      obtain ⟨j, hj⟩ : ∃ j, j = h - 1 := ⟨_, rfl⟩
      have i2 : (h : Int) - 1 = (j : Int) := by omega
      have i3 : (0 : Int) ≤ (j : Int) := by omega
      have i4 : (j : Int) < (u.size : Int) := by omega
      have i5 : j < u.size := by omega
      have i6 : IntKind.i64.wrap (j : Int) = (j : Int) := by rw [IntKind.wrap_i64]; omega
      have HJ := Lib.hid hj
      have HUS := Lib.hid hus
      clear hj hus
      by_cases hc : (u[j].toNat : Int) < 52
      · go_wp2
        go_roundg (gk - 1)
        case measure => have := HQ.out; omega
        case rel => exact ⟨h + 1, by have := HQ.out; omega, by omega, by go_num, rfl⟩
      · go_wp2
        go_ret
        exact ⟨h, rfl, h1, by omega, b1⟩
    · have i1 : ¬ (h : Int) < 4 := by omega
      go_wp2
      go_ret
      exact ⟨h, rfl, h1, by have := HQ.out; omega, b1⟩
/-- how two entries stand: in one place -/
theorem ordI_zero (a b : EntryD) : ordI a b = 0 ↔ isE b a = true := by
  unfold ordI cmpS cmpI isE
  by_cases h : ltS a.1 b.1 = true
  · have hne : a.1 ≠ b.1 := fun e => by rw [e, ltS_irrefl] at h; cases h
    simp [h, hne]
  · by_cases e : a.1 = b.1
    · simp only [e, ltS_irrefl, if_true, Bool.false_eq_true, if_false, ne_eq, not_true_eq_false, decide_true, Bool.true_and, decide_eq_true_eq]
      by_cases g : b.2.1 < a.2.1
      · simp [g]; omega
      · by_cases g2 : a.2.1 < b.2.1
        · simp [g, g2]; omega
        · simp [g, g2]; omega
    · simp [h, e]
/-- whether the node at an entry's place has it -/
def hitN (C : List Nd) (e : EntryD) : Bool := match C with | [] => false | c :: _ => isE e c.2.1
def PutRes (B : Nat) (P C : List Nd) (e : EntryD) (en : Ending) (w w' : World) : Prop :=
  Below B w w' ∧ ((hitN C e = true ∧ en = .returned (.bool false) ∧ Skip w' (P ++ C)) ∨
    (hitN C e = false ∧ ∃ nb h, en = .returned (.bool true) ∧ Skip w' (P ++ (nb, e, h) :: C) ∧ w.heap.size ≤ nb ∧ 1 ≤ h))
theorem four_at {P : List Nd} {q0 q1 q2 q3 : Nat} (h0 : LastOf P 0 q0) (h1 : LastOf P 1 q1) (h2 : LastOf P 2 q2) (h3 : LastOf P 3 q3) : ∀ k, k < 4 → ∃ q, ([.pointer (some ⟨q0, 0, none⟩), .pointer (some ⟨q1, 0, none⟩), .pointer (some ⟨q2, 0, none⟩), .pointer (some ⟨q3, 0, none⟩)] : List Value)[k]? = some (.pointer (some ⟨q, 0, none⟩)) ∧ LastOf P k q
  | 0, _ => ⟨q0, rfl, h0⟩
  | 1, _ => ⟨q1, rfl, h1⟩
  | 2, _ => ⟨q2, rfl, h2⟩
  | 3, _ => ⟨q3, rfl, h3⟩
set_option maxRecDepth 100000 in
set_option maxHeartbeats 4000000 in
theorem put_any (B hb : Nat) (z : EntryD) (S1 C : List Nd) (x0 : ByteArray) (x1 : Int) (x2 : Bool) (x3 : ByteArray) (w : World) (hB : B ≤ w.heap.size) (hBn : ∀ n ∈ ((hb, z, 4) :: S1) ++ C, B ≤ n.1) (hS : Skip w (((hb, z, 4) :: S1) ++ C)) (h1 : ∀ n ∈ S1, lessB n.2.1 (x0, x1, x2, x3) = true) (h2 : ∀ n ∈ C, lessB n.2.1 (x0, x1, x2, x3) = false) (hh : ∀ n ∈ C, 1 ≤ n.2.2) (hm : x0.size ≤ 549755813888) (ht : HashT w) :
    Calls Tryd.prog 31 #[.pointer (some ⟨hb, 0, none⟩), .agg #[.string x0, .int .i64 x1, .bool x2, .string x3]] w fun en w' => PutRes B ((hb, z, 4) :: S1) C (x0, x1, x2, x3) en w w' := by
  have HT := Lib.hid ht
  have HS := Lib.hid hS
  have HBN := Lib.hid hBn
  have H1 := Lib.hid h1
  have H2 := Lib.hid h2
  have HH := Lib.hid hh
  have HNL := Lib.hid hS.lt
  clear ht hS hBn h1 h2 hh
  obtain ⟨w1, hw1⟩ : ∃ W, w.alloc (.cells #[.string x0, .int .i64 x1, .bool x2, .string x3] 31) = W := ⟨_, rfl⟩
  have BX := Lib.hid (show Box w1 w.heap.size [.string x0, .int .i64 x1, .bool x2, .string x3] by rw [← hw1]; exact Box.alloc w _ _)
  have B1 := Lib.hid (show Below w.heap.size w w1 by rw [← hw1]; exact below_alloc _ _)
  have Z1 := Lib.hid (show w1.heap.size = w.heap.size + 1 by rw [← hw1]; simp)
  go_enter Tryd.func31, Tryd.ntmps31
  obtain ⟨⟨d0, -⟩, ⟨d1, -⟩, ⟨d2, -⟩, d3, -⟩ := show _ ∧ _ ∧ _ ∧ _ from ⟨BX.out 0 _ rfl, BX.out 1 _ rfl, BX.out 2 _ rfl, BX.out 3 _ rfl⟩
  go_wp2_with fail
  clear hw1 d0 d1 d2 d3
  refine (ahead_any hb z S1 C x0 x1 x2 x3 w1 (HS.out.below B1.out) H1.out H2.out).mono ?_
  rintro en w2 ⟨q0, q1, q2, q3, rfl, L0, L1, L2, L3, b2⟩
  have B2 := Lib.hid (B1.out.trans (b2.mono B1.out.size))
  have BX2 := Lib.hid (BX.out.below b2)
  have Z2 := Lib.hid b2.size
  have L4 := Lib.hid (four_at L0 L1 L2 L3)
  have LZ := Lib.hid L0
  clear b2 L0 L1 L2 L3
  obtain ⟨w3, hw3⟩ : ∃ W, w2.alloc (.cells #[.pointer (some ⟨q0, 0, none⟩), .pointer (some ⟨q1, 0, none⟩), .pointer (some ⟨q2, 0, none⟩), .pointer (some ⟨q3, 0, none⟩)] 74) = W := ⟨_, rfl⟩
  have BL := Lib.hid (show Box w3 w2.heap.size [.pointer (some ⟨q0, 0, none⟩), .pointer (some ⟨q1, 0, none⟩), .pointer (some ⟨q2, 0, none⟩), .pointer (some ⟨q3, 0, none⟩)] by rw [← hw3]; exact Box.alloc w2 _ _)
  have B3 := Lib.hid (show Below w.heap.size w w3 by rw [← hw3]; exact B2.out.alloc B2.out.size _)
  have b23 := show Below w2.heap.size w2 w3 by rw [← hw3]; exact below_alloc _ _
  have BX3 := Lib.hid (BX2.out.below b23)
  have Z3 := Lib.hid (show w3.heap.size = w2.heap.size + 1 by rw [← hw3]; simp)
  have HS3 := Lib.hid (HS.out.below B3.out)
  clear b23
  obtain ⟨A, n, R, hP, hn, hl0, hR⟩ := LZ.out
  have nd := Skip.at (show Skip w3 (A ++ n :: (R ++ C)) by have h := HS3.out; rw [hP, List.append_assoc] at h; exact h)
  have c0 := (nd 4 _ (nodeC_get (k := 0) (by decide))).1
  rw [show nx n.2.2 0 (R ++ C) = nxt 0 C by unfold nx; rw [if_pos hl0, nxt_skip hR], hn] at c0
  clear hP hn hl0 hR nd
  obtain ⟨⟨e0, -⟩, ⟨e1, -⟩, ⟨e2, -⟩, e3, -⟩ := show _ ∧ _ ∧ _ ∧ _ from ⟨BL.out 0 _ rfl, BL.out 1 _ rfl, BL.out 2 _ rfl, BL.out 3 _ rfl⟩
  obtain ⟨⟨d0, -⟩, ⟨d1, -⟩, ⟨d2, -⟩, d3, -⟩ := show _ ∧ _ ∧ _ ∧ _ from ⟨BX3.out 0 _ rfl, BX3.out 1 _ rfl, BX3.out 2 _ rfl, BX3.out 3 _ rfl⟩
  go_wp2_with fail
  by_cases hcn : C = []
  · have HC := Lib.hid hcn
    have HHIT := Lib.hid (show hitN C (x0, x1, x2, x3) = false by rw [hcn]; rfl)
    rw [show nxt 0 C = .pointer none by rw [hcn]; rfl] at c0 ⊢
    clear hcn
    go_quiet (fail)
    clear c0 e0 e1 e2 e3 d0 d1 d2 d3
    obtain ⟨w4, hw4⟩ : ∃ W, W = w3.drewN nq := ⟨_, rfl⟩
    rw [← hw4]
    have b34 : Below w3.heap.size w3 w4 := by rw [hw4]; exact ⟨rfl, rfl, rfl, Nat.le_refl _, fun _ _ => rfl⟩
    clear hw4
    have B4 := Lib.hid (B3.out.trans (b34.mono B3.out.size))
    have BX4 := Lib.hid (BX3.out.below b34)
    have BL4 := Lib.hid (BL.out.below b34)
    have Z24 := Lib.hid (show w2.heap.size < w4.heap.size by have := b34.size; have := Z3.out; omega)
    clear b34
    have SK4 := Lib.hid (HS.out.below B4.out)
    have BX5 := Lib.hid (BX4.out.below (below_alloc w4 (.cells #[.string x0, .int .i64 x1, .bool x2, .string x3, .pointer none, .pointer none, .pointer none, .pointer none] 76)))
    have BL5 := Lib.hid (BL4.out.below (below_alloc w4 (.cells #[.string x0, .int .i64 x1, .bool x2, .string x3, .pointer none, .pointer none, .pointer none, .pointer none] 76)))
    have SK5 := Lib.hid (skip_new (x0, x1, x2, x3) 76 SK4.out)
    have B5 := Lib.hid (B4.out.alloc B4.out.size (.cells #[.string x0, .int .i64 x1, .bool x2, .string x3, .pointer none, .pointer none, .pointer none, .pointer none] 76))
    obtain ⟨w5, hw5⟩ : ∃ W, w4.alloc (.cells #[.string x0, .int .i64 x1, .bool x2, .string x3, .pointer none, .pointer none, .pointer none, .pointer none] 76) = W := ⟨_, rfl⟩
    rw [hw5] at BX5 BL5 B5
    have SK5' := Lib.hid (show Skip w5 (((hb, z, 4) :: S1) ++ (w4.heap.size, (x0, x1, x2, x3), 0) :: C) by rw [← hw5]; exact SK5.out)
    clear SK5
    have z45 : w4.heap.size < w5.heap.size := by rw [← hw5]; simp
    have Z45 := Lib.hid z45
    clear z45
    obtain ⟨⟨d0, -⟩, ⟨d1, -⟩, ⟨d2, -⟩, d3, -⟩ := show _ ∧ _ ∧ _ ∧ _ from ⟨BX4.out 0 _ rfl, BX4.out 1 _ rfl, BX4.out 2 _ rfl, BX4.out 3 _ rfl⟩
    have d05 := (BX5.out 0 _ rfl).1
    go_wp2_with fail
    clear hw5 d0 d1 d2 d3 d05
    refine (rises_any x0 w5 hm (HT.out.below B5.out)).mono ?_
    rintro en w6 ⟨h, rfl, hh1, hh4, b6⟩
    have SK6 := Lib.hid (SK5'.out.below b6)
    have BL6 := Lib.hid (BL5.out.below b6)
    have B6 := Lib.hid ((B5.out.trans (b6.mono B5.out.size)).mono hB)
    have Z6 := Lib.hid b6.size
    clear b6 BX5 BL5 SK5'
    go_wp2_with fail
    go_loopg [35] h (fun q v35 wr => ∃ k : Nat, k + q = h ∧ v35 = .int .i64 k ∧ Skip wr (((hb, z, 4) :: S1) ++ (w4.heap.size, (x0, x1, x2, x3), k) :: C) ∧ Box wr w2.heap.size [.pointer (some ⟨q0, 0, none⟩), .pointer (some ⟨q1, 0, none⟩), .pointer (some ⟨q2, 0, none⟩), .pointer (some ⟨q3, 0, none⟩)] ∧ Below B w wr)
    case atStart => exact ⟨0, by omega, rfl, SK6.out, BL6.out, B6.out⟩
    case round =>
      obtain ⟨k, hk, rfl, hsk, hbl, hbw⟩ := hrel
      have HK := Lib.hid hk
      have SK := Lib.hid hsk
      have BLk := Lib.hid hbl
      have BW := Lib.hid hbw
      clear hk hsk hbl hbw
      by_cases hkh : k < h
      · obtain ⟨q, hq, A, n, R, hP, hn, hln, hR⟩ := L4.out k (by omega)
        obtain ⟨cn, hne, SN⟩ := skip_step (pj := n) (P1 := A) (P2 := R) (nb := w4.heap.size) (e := (x0, x1, x2, x3)) (C := C) (k := k) (show k < 4 by omega) (by have g := SK.out; rw [hP, List.append_assoc] at g; exact g) hln hR
        have hnl : n.1 < w.heap.size := HNL.out n (List.mem_append_left _ (by rw [hP]; simp))
        have hnB : B ≤ n.1 := HBN.out n (List.mem_append_left _ (by rw [hP]; simp))
        have bnn := Skip.at (show Skip wr (A ++ n :: (R ++ (w4.heap.size, (x0, x1, x2, x3), k) :: C)) by have g := SK.out; rw [hP, List.append_assoc] at g; exact g)
        have fn := (bnn (4 + k) _ (nodeC_get (show k < 4 by omega))).2
        have bnb := Skip.at SK.out
        obtain ⟨nc, nf⟩ := bnb (4 + k) _ (nodeC_get (show k < 4 by omega))
        dsimp only at nc nf
        obtain ⟨lc, -⟩ := BLk.out k _ hq
        have SN' := Lib.hid (show Skip ((wr.setCell ⟨w4.heap.size, 4 + k, none⟩ (nxt k C)).setCell ⟨n.1, 4 + k, none⟩ (.pointer (some ⟨w4.heap.size, 0, none⟩))) (((hb, z, 4) :: S1) ++ (w4.heap.size, (x0, x1, x2, x3), k + 1) :: C) by rw [hP, List.append_assoc]; exact SN)
        have HNE := Lib.hid hne
        rw [hn] at SN' cn hnl hnB fn
        obtain ⟨v, hv⟩ : ∃ v : Option Addr, nxt k C = .pointer v := ⟨_, rfl⟩
        rw [hv] at cn SN'
        have i1 : (k : Int) < (h : Int) := by omega
        have i2 : (0 : Int) ≤ (k : Int) := by omega
        have i3 : (k : Int) < 4 := by omega
        have e1 : q ≠ w4.heap.size := by rw [← hn]; exact hne
        have e2 : w2.heap.size ≠ w4.heap.size := by have := Z3.out; have := Z24.out; omega
        have e3 : w2.heap.size ≠ q := by have := B2.out.size; omega
        clear hq hP hln hR SN bnn bnb hv hne
        go_wp2_with fail
        go_region
        have f1 : (wr.setCell ⟨w4.heap.size, 4 + k, none⟩ (.pointer v)).drew.cell? ⟨w2.heap.size, k, none⟩ = some (.pointer (some ⟨q, 0, none⟩)) := by simp [go_sem, lc]
        have f2 : ∃ x, (wr.setCell ⟨w4.heap.size, 4 + k, none⟩ (.pointer v)).drew.cell? ⟨q, 4 + k, none⟩ = some x := ⟨_, by simp [go_sem, cn]; rfl⟩
        have f3 : (wr.setCell ⟨w4.heap.size, 4 + k, none⟩ (.pointer v)).drew.frozen? ⟨q, 4 + k, none⟩ = false := by simp [go_sem, fn]
        obtain ⟨x9, f2⟩ := f2
        obtain ⟨w7, hw7⟩ : ∃ W, W = (wr.setCell ⟨w4.heap.size, 4 + k, none⟩ (.pointer v)).drew := ⟨_, rfl⟩
        rw [← hw7] at f1 f2 f3 ⊢
        have SN7 := Lib.hid (show Skip (w7.setCell ⟨q, 4 + k, none⟩ (.pointer (some ⟨w4.heap.size, 0, none⟩))) (((hb, z, 4) :: S1) ++ (w4.heap.size, (x0, x1, x2, x3), k + 1) :: C) by rw [hw7]; exact SN'.out)
        have BL7 := Lib.hid (show Box (w7.setCell ⟨q, 4 + k, none⟩ (.pointer (some ⟨w4.heap.size, 0, none⟩))) w2.heap.size [.pointer (some ⟨q0, 0, none⟩), .pointer (some ⟨q1, 0, none⟩), .pointer (some ⟨q2, 0, none⟩), .pointer (some ⟨q3, 0, none⟩)] by rw [hw7]; exact Box.otherN _ (show Box (wr.setCell ⟨w4.heap.size, 4 + k, none⟩ (.pointer v)).drew _ _ from Box.otherN _ BLk.out (Ne.symm e2)) (Ne.symm e3))
        have BW7 := Lib.hid (show Below B w (w7.setCell ⟨q, 4 + k, none⟩ (.pointer (some ⟨w4.heap.size, 0, none⟩))) by rw [hw7]; exact (BW.out.setCell (p := ⟨w4.heap.size, 4 + k, none⟩) (by show B ≤ w4.heap.size; have := B4.out.size; omega) _).drew.setCell (p := ⟨q, 4 + k, none⟩) hnB _)
        clear hw7 cn nc nf lc fn SN'
        go_wp2
        go_roundg (gk - 1)
        case measure => have := HK.out; omega
        case rel => exact ⟨k + 1, by have := HK.out; omega, by go_num, SN7.out, BL7.out, BW7.out⟩
      · have hke : k = h := by have := HK.out; omega
        have i1 : ¬ (k : Int) < (h : Int) := by omega
        go_wp2
        go_ret
        exact ⟨BW.out, .inr ⟨HHIT.out, w4.heap.size, h, rfl, by rw [← hke]; exact SK.out, by have := B4.out.size; omega, hh1⟩⟩
  · obtain ⟨c, C', hc⟩ : ∃ c C', C = c :: C' := by
      cases C with
      | nil => exact absurd rfl hcn
      | cons c C' => exact ⟨c, C', rfl⟩
    clear hcn
    have hlc : lvl 0 c = true := decide_eq_true (by have := HH.out c (by rw [hc]; simp); omega)
    rw [show nxt 0 C = .pointer (some ⟨c.1, 0, none⟩) by rw [hc]; exact nxt_hit hlc] at c0 ⊢
    have bm := Skip.at (show Skip w3 (((hb, z, 4) :: S1) ++ c :: C') by have h := HS3.out; rwa [hc] at h)
    have hho := ordI_zero c.2.1 (x0, x1, x2, x3)
    have hhi : hitN C (x0, x1, x2, x3) = isE (x0, x1, x2, x3) c.2.1 := by rw [hc]; rfl
    obtain ⟨cb, ⟨m0, m1, m2, m3⟩, mh⟩ := c
    dsimp only at c0 bm hho hhi ⊢
    rw [← hhi] at hho
    obtain ⟨o, ho⟩ : ∃ o, ordI (m0, m1, m2, m3) (x0, x1, x2, x3) = o := ⟨_, rfl⟩
    rw [ho] at hho
    have HOO := Lib.hid ho
    clear ho hhi hlc hc
    have KS := Lib.hid (show ∀ W, Below w3.heap.size w3 W → Below w3.heap.size w3 W ∧ (W.cell? ⟨cb, 0, none⟩ = some (.string m0) ∧ W.cell? ⟨cb, 1, none⟩ = some (.int .i64 m1) ∧ W.cell? ⟨cb, 2, none⟩ = some (.bool m2) ∧ W.cell? ⟨cb, 3, none⟩ = some (.string m3)) ∧ W.cell? ⟨w.heap.size, 0, none⟩ = some (.string x0) ∧ W.cell? ⟨w.heap.size, 1, none⟩ = some (.int .i64 x1) ∧ W.cell? ⟨w.heap.size, 2, none⟩ = some (.bool x2) ∧ W.cell? ⟨w.heap.size, 3, none⟩ = some (.string x3) from fun W hb => by
      have qm := bm.below hb
      have qx := BX3.out.below hb
      exact ⟨hb, ⟨(qm 0 _ rfl).1, (qm 1 _ rfl).1, (qm 2 _ rfl).1, (qm 3 _ rfl).1⟩, (qx 0 _ rfl).1, (qx 1 _ rfl).1, (qx 2 _ rfl).1, (qx 3 _ rfl).1⟩)
    clear c0 bm e0 e1 e2 e3 d0 d1 d2 d3
    cases hit : hitN C (x0, x1, x2, x3) with
    | true =>
      have ho0 : o = 0 := hho.2 hit
      have HHIT := Lib.hid hit
      subst ho0
      clear hho hit
      go_wp2_with fail
      go_region_held3 (fun W => Below w3.heap.size w3 W ∧ (W.cell? ⟨cb, 0, none⟩ = some (.string m0) ∧ W.cell? ⟨cb, 1, none⟩ = some (.int .i64 m1) ∧ W.cell? ⟨cb, 2, none⟩ = some (.bool m2) ∧ W.cell? ⟨cb, 3, none⟩ = some (.string m3)) ∧ W.cell? ⟨w.heap.size, 0, none⟩ = some (.string x0) ∧ W.cell? ⟨w.heap.size, 1, none⟩ = some (.int .i64 x1) ∧ W.cell? ⟨w.heap.size, 2, none⟩ = some (.bool x2) ∧ W.cell? ⟨w.heap.size, 3, none⟩ = some (.string x3))
        (first | exact KS.out _ (Below.refl _ _).drew | exact KS.out _ (((Below.refl _ _).drew).trans b4))
        (first
          | (go_at_call 41; refine (order_any _ _ _ _ _ _ _ _ _).mono ?_; rintro e w4 ⟨rfl, b4⟩; rw [HOO.out]))
      rename_i hH
      obtain ⟨hbw, ⟨c1, c2, c3, c4⟩, d1, d2, d3, d4⟩ := hH
      have B34 := Lib.hid hbw
      clear hbw c1 c2 c3 c4 d1 d2 d3 d4
      go_wp2
      go_ret
      exact ⟨(B3.out.trans (B34.out.mono B3.out.size)).mono hB, .inl ⟨HHIT.out, rfl, HS3.out.below B34.out⟩⟩
    | false =>
      have ho0 : ¬ o = 0 := fun e => by rw [hho.1 e] at hit; cases hit
      have HHIT := Lib.hid hit
      clear hho hit
      go_wp2_with fail
      go_region_held3 (fun W => Below w3.heap.size w3 W ∧ (W.cell? ⟨cb, 0, none⟩ = some (.string m0) ∧ W.cell? ⟨cb, 1, none⟩ = some (.int .i64 m1) ∧ W.cell? ⟨cb, 2, none⟩ = some (.bool m2) ∧ W.cell? ⟨cb, 3, none⟩ = some (.string m3)) ∧ W.cell? ⟨w.heap.size, 0, none⟩ = some (.string x0) ∧ W.cell? ⟨w.heap.size, 1, none⟩ = some (.int .i64 x1) ∧ W.cell? ⟨w.heap.size, 2, none⟩ = some (.bool x2) ∧ W.cell? ⟨w.heap.size, 3, none⟩ = some (.string x3))
        (first | exact KS.out _ (Below.refl _ _).drew | exact KS.out _ (((Below.refl _ _).drew).trans b4))
        (first
          | (go_at_call 41; refine (order_any _ _ _ _ _ _ _ _ _).mono ?_; rintro e w4 ⟨rfl, b4⟩; rw [HOO.out]))
      rename_i hH
      obtain ⟨hbw, ⟨c1, c2, c3, c4⟩, d1, d2, d3, d4⟩ := hH
      have B34 := Lib.hid hbw
      clear hbw c1 c2 c3 c4 d1 d2 d3 d4
      have b34 := B34.out
      have B4 := Lib.hid (B3.out.trans (b34.mono B3.out.size))
      have BX4 := Lib.hid (BX3.out.below b34)
      have BL4 := Lib.hid (BL.out.below b34)
      have Z24 := Lib.hid (show w2.heap.size < w4.heap.size by have := b34.size; have := Z3.out; omega)
      clear b34
      have SK4 := Lib.hid (HS.out.below B4.out)
      have BX5 := Lib.hid (BX4.out.below (below_alloc w4 (.cells #[.string x0, .int .i64 x1, .bool x2, .string x3, .pointer none, .pointer none, .pointer none, .pointer none] 76)))
      have BL5 := Lib.hid (BL4.out.below (below_alloc w4 (.cells #[.string x0, .int .i64 x1, .bool x2, .string x3, .pointer none, .pointer none, .pointer none, .pointer none] 76)))
      have SK5 := Lib.hid (skip_new (x0, x1, x2, x3) 76 SK4.out)
      have B5 := Lib.hid (B4.out.alloc B4.out.size (.cells #[.string x0, .int .i64 x1, .bool x2, .string x3, .pointer none, .pointer none, .pointer none, .pointer none] 76))
      obtain ⟨w5, hw5⟩ : ∃ W, w4.alloc (.cells #[.string x0, .int .i64 x1, .bool x2, .string x3, .pointer none, .pointer none, .pointer none, .pointer none] 76) = W := ⟨_, rfl⟩
      rw [hw5] at BX5 BL5 B5
      have SK5' := Lib.hid (show Skip w5 (((hb, z, 4) :: S1) ++ (w4.heap.size, (x0, x1, x2, x3), 0) :: C) by rw [← hw5]; exact SK5.out)
      clear SK5
      have z45 : w4.heap.size < w5.heap.size := by rw [← hw5]; simp
      have Z45 := Lib.hid z45
      clear z45
      obtain ⟨⟨d0, -⟩, ⟨d1, -⟩, ⟨d2, -⟩, d3, -⟩ := show _ ∧ _ ∧ _ ∧ _ from ⟨BX4.out 0 _ rfl, BX4.out 1 _ rfl, BX4.out 2 _ rfl, BX4.out 3 _ rfl⟩
      have d05 := (BX5.out 0 _ rfl).1
      go_wp2_with fail
      clear hw5 d0 d1 d2 d3 d05
      refine (rises_any x0 w5 hm (HT.out.below B5.out)).mono ?_
      rintro en w6 ⟨h, rfl, hh1, hh4, b6⟩
      have SK6 := Lib.hid (SK5'.out.below b6)
      have BL6 := Lib.hid (BL5.out.below b6)
      have B6 := Lib.hid ((B5.out.trans (b6.mono B5.out.size)).mono hB)
      have Z6 := Lib.hid b6.size
      clear b6 BX5 BL5 SK5'
      go_wp2_with fail
      go_loopg [35] h (fun q v35 wr => ∃ k : Nat, k + q = h ∧ v35 = .int .i64 k ∧ Skip wr (((hb, z, 4) :: S1) ++ (w4.heap.size, (x0, x1, x2, x3), k) :: C) ∧ Box wr w2.heap.size [.pointer (some ⟨q0, 0, none⟩), .pointer (some ⟨q1, 0, none⟩), .pointer (some ⟨q2, 0, none⟩), .pointer (some ⟨q3, 0, none⟩)] ∧ Below B w wr)
      case atStart => exact ⟨0, by omega, rfl, SK6.out, BL6.out, B6.out⟩
      case round =>
        obtain ⟨k, hk, rfl, hsk, hbl, hbw⟩ := hrel
        have HK := Lib.hid hk
        have SK := Lib.hid hsk
        have BLk := Lib.hid hbl
        have BW := Lib.hid hbw
        clear hk hsk hbl hbw
        by_cases hkh : k < h
        · obtain ⟨q, hq, A, n, R, hP, hn, hln, hR⟩ := L4.out k (by omega)
          obtain ⟨cn, hne, SN⟩ := skip_step (pj := n) (P1 := A) (P2 := R) (nb := w4.heap.size) (e := (x0, x1, x2, x3)) (C := C) (k := k) (show k < 4 by omega) (by have g := SK.out; rw [hP, List.append_assoc] at g; exact g) hln hR
          have hnl : n.1 < w.heap.size := HNL.out n (List.mem_append_left _ (by rw [hP]; simp))
          have hnB : B ≤ n.1 := HBN.out n (List.mem_append_left _ (by rw [hP]; simp))
          have bnn := Skip.at (show Skip wr (A ++ n :: (R ++ (w4.heap.size, (x0, x1, x2, x3), k) :: C)) by have g := SK.out; rw [hP, List.append_assoc] at g; exact g)
          have fn := (bnn (4 + k) _ (nodeC_get (show k < 4 by omega))).2
          have bnb := Skip.at SK.out
          obtain ⟨nc, nf⟩ := bnb (4 + k) _ (nodeC_get (show k < 4 by omega))
          dsimp only at nc nf
          obtain ⟨lc, -⟩ := BLk.out k _ hq
          have SN' := Lib.hid (show Skip ((wr.setCell ⟨w4.heap.size, 4 + k, none⟩ (nxt k C)).setCell ⟨n.1, 4 + k, none⟩ (.pointer (some ⟨w4.heap.size, 0, none⟩))) (((hb, z, 4) :: S1) ++ (w4.heap.size, (x0, x1, x2, x3), k + 1) :: C) by rw [hP, List.append_assoc]; exact SN)
          have HNE := Lib.hid hne
          rw [hn] at SN' cn hnl hnB fn
          obtain ⟨v, hv⟩ : ∃ v : Option Addr, nxt k C = .pointer v := ⟨_, rfl⟩
          rw [hv] at cn SN'
          have i1 : (k : Int) < (h : Int) := by omega
          have i2 : (0 : Int) ≤ (k : Int) := by omega
          have i3 : (k : Int) < 4 := by omega
          have e1 : q ≠ w4.heap.size := by rw [← hn]; exact hne
          have e2 : w2.heap.size ≠ w4.heap.size := by have := Z3.out; have := Z24.out; omega
          have e3 : w2.heap.size ≠ q := by have := B2.out.size; omega
          clear hq hP hln hR SN bnn bnb hv hne
          go_wp2_with fail
          go_region
          have f1 : (wr.setCell ⟨w4.heap.size, 4 + k, none⟩ (.pointer v)).drew.cell? ⟨w2.heap.size, k, none⟩ = some (.pointer (some ⟨q, 0, none⟩)) := by simp [go_sem, lc]
          have f2 : ∃ x, (wr.setCell ⟨w4.heap.size, 4 + k, none⟩ (.pointer v)).drew.cell? ⟨q, 4 + k, none⟩ = some x := ⟨_, by simp [go_sem, cn]; rfl⟩
          have f3 : (wr.setCell ⟨w4.heap.size, 4 + k, none⟩ (.pointer v)).drew.frozen? ⟨q, 4 + k, none⟩ = false := by simp [go_sem, fn]
          obtain ⟨x9, f2⟩ := f2
          obtain ⟨w7, hw7⟩ : ∃ W, W = (wr.setCell ⟨w4.heap.size, 4 + k, none⟩ (.pointer v)).drew := ⟨_, rfl⟩
          rw [← hw7] at f1 f2 f3 ⊢
          have SN7 := Lib.hid (show Skip (w7.setCell ⟨q, 4 + k, none⟩ (.pointer (some ⟨w4.heap.size, 0, none⟩))) (((hb, z, 4) :: S1) ++ (w4.heap.size, (x0, x1, x2, x3), k + 1) :: C) by rw [hw7]; exact SN'.out)
          have BL7 := Lib.hid (show Box (w7.setCell ⟨q, 4 + k, none⟩ (.pointer (some ⟨w4.heap.size, 0, none⟩))) w2.heap.size [.pointer (some ⟨q0, 0, none⟩), .pointer (some ⟨q1, 0, none⟩), .pointer (some ⟨q2, 0, none⟩), .pointer (some ⟨q3, 0, none⟩)] by rw [hw7]; exact Box.otherN _ (show Box (wr.setCell ⟨w4.heap.size, 4 + k, none⟩ (.pointer v)).drew _ _ from Box.otherN _ BLk.out (Ne.symm e2)) (Ne.symm e3))
          have BW7 := Lib.hid (show Below B w (w7.setCell ⟨q, 4 + k, none⟩ (.pointer (some ⟨w4.heap.size, 0, none⟩))) by rw [hw7]; exact (BW.out.setCell (p := ⟨w4.heap.size, 4 + k, none⟩) (by show B ≤ w4.heap.size; have := B4.out.size; omega) _).drew.setCell (p := ⟨q, 4 + k, none⟩) hnB _)
          clear hw7 cn nc nf lc fn SN'
          go_wp2
          go_roundg (gk - 1)
          case measure => have := HK.out; omega
          case rel => exact ⟨k + 1, by have := HK.out; omega, by go_num, SN7.out, BL7.out, BW7.out⟩
        · have hke : k = h := by have := HK.out; omega
          have i1 : ¬ (k : Int) < (h : Int) := by omega
          go_wp2
          go_ret
          exact ⟨BW.out, .inr ⟨HHIT.out, w4.heap.size, h, rfl, by rw [← hke]; exact SK.out, by have := B4.out.size; omega, hh1⟩⟩
end Go.Proofs.YteejabpohnfoaaaDoor

/- Linked entries as a list: one more, and a list put in one by one. -/
namespace Go.Proofs.YteejabpohnfoaaaDoor
open Go Go.RowKit

def SrtL (L : List EntryD) : Prop := L.Pairwise (fun a b => lessB a b = true)
/-- a list with one more, if it has none at that place -/
def addE (L : List EntryD) (e : EntryD) : List EntryD := if hasE L e = true then L else putE L e
def joinE (L M : List EntryD) : List EntryD := M.foldl addE L
theorem joinE_snoc (L M : List EntryD) (e : EntryD) : joinE L (M ++ [e]) = addE (joinE L M) e := by unfold joinE; rw [List.foldl_append]; rfl
theorem joinE_take {L M : List EntryD} {k : Nat} (h : k < M.length) : joinE L (M.take (k + 1)) = addE (joinE L (M.take k)) M[k] := by rw [List.take_succ_eq_append_getElem h, joinE_snoc]
theorem isE_not_less {a b : EntryD} (h : isE b a = true) : lessB b a = false ∧ lessB a b = false := by
  unfold isE at h
  rw [Bool.and_eq_true, decide_eq_true_eq, decide_eq_true_eq] at h
  unfold lessB
  rw [h.1, h.2]
  simp [ltS_irrefl]
theorem lessB_total {a b : EntryD} (h : lessB a b = false) (hn : isE b a = false) : lessB b a = true := by
  unfold lessB at h ⊢
  unfold isE at hn
  rw [Bool.or_eq_false_iff] at h
  by_cases e : a.1 = b.1
  · rw [e] at h hn ⊢
    simp at h hn ⊢
    exact .inr (by omega)
  · rw [ltS_total h.1 e]; rfl
theorem lessB_asymm {a b : EntryD} (h : lessB a b = true) : lessB b a = false := by
  cases q : lessB b a with
  | false => rfl
  | true => have := lessB_trans h q; rw [lessB_irrefl] at this; cases this
theorem srt_drop {L : List EntryD} (h : SrtL L) (e : EntryD) : ∀ x ∈ L.dropWhile (fun x => lessB x e), lessB x e = false := by
  induction L with
  | nil => intro x hx; cases hx
  | cons a L ih =>
    have hp := List.pairwise_cons.1 h
    by_cases q : lessB a e = true
    · rw [List.dropWhile_cons, if_pos q]
      exact ih hp.2
    · rw [List.dropWhile_cons, if_neg q]
      intro x hx
      rcases List.mem_cons.1 hx with rfl | hx
      · simpa using q
      · cases g : lessB x e with
        | false => rfl
        | true => exact absurd (lessB_trans (hp.1 x hx) g) q
theorem tw_all (L : List EntryD) (e : EntryD) : ∀ x ∈ L.takeWhile (fun x => lessB x e), lessB x e = true := by
  induction L with
  | nil => intro x hx; cases hx
  | cons a L ih =>
    intro x hx
    rw [List.takeWhile_cons] at hx
    split at hx
    · rename_i q
      rcases List.mem_cons.1 hx with rfl | hx
      · exact q
      · exact ih x hx
    · cases hx
/-- the entry at that place stands first behind those ahead -/
theorem has_head {L : List EntryD} (h : SrtL L) (e : EntryD) : hasE L e = (match L.dropWhile (fun x => lessB x e) with | [] => false | c :: _ => isE e c) := by
  have hs : L.takeWhile (fun x => lessB x e) ++ L.dropWhile (fun x => lessB x e) = L := List.takeWhile_append_dropWhile
  have h1 : (L.takeWhile (fun x => lessB x e)).any (isE e) = false := by
    rw [List.any_eq_false]
    intro x hx q
    have := tw_all L e x hx
    rw [(isE_not_less q).2] at this
    cases this
  have h2 : hasE L e = (L.dropWhile (fun x => lessB x e)).any (isE e) := by
    unfold hasE
    rw [← hs, List.any_append, hs, h1]
    rfl
  rw [h2]
  have hd : SrtL (L.dropWhile (fun x => lessB x e)) := List.Pairwise.sublist (List.dropWhile_sublist _) h
  have hn := srt_drop h e
  cases hq : L.dropWhile (fun x => lessB x e) with
  | nil => rfl
  | cons c C =>
    rw [hq] at hd hn
    show (isE e c || C.any (isE e)) = isE e c
    cases hc : isE e c with
    | true => rfl
    | false =>
      have hlt := lessB_total (hn c List.mem_cons_self) hc
      have : C.any (isE e) = false := by
        rw [List.any_eq_false]
        intro x hx q
        have := lessB_trans hlt ((List.pairwise_cons.1 hd).1 x hx)
        rw [(isE_not_less q).1] at this
        cases this
      rw [this]; rfl
theorem srt_put {L : List EntryD} (h : SrtL L) {e : EntryD} (hn : hasE L e = false) : SrtL (putE L e) := by
  have hd : SrtL (L.dropWhile (fun x => lessB x e)) := List.Pairwise.sublist (List.dropWhile_sublist _) h
  have hdn := srt_drop h e
  have hh := has_head h e
  rw [hn] at hh
  have hlt : ∀ x ∈ L.dropWhile (fun x => lessB x e), lessB e x = true := by
    cases hq : L.dropWhile (fun x => lessB x e) with
    | nil => intro x hx; cases hx
    | cons c C =>
      rw [hq] at hd hdn hh
      have h0 := lessB_total (hdn c List.mem_cons_self) hh.symm
      intro x hx
      rcases List.mem_cons.1 hx with rfl | hx
      · exact h0
      · exact lessB_trans h0 ((List.pairwise_cons.1 hd).1 x hx)
  unfold SrtL putE
  refine List.pairwise_append.2 ⟨List.Pairwise.sublist (List.takeWhile_sublist _) h, List.pairwise_cons.2 ⟨hlt, hd⟩, fun a ha b hb => ?_⟩
  have h1 := tw_all L e a ha
  rcases List.mem_cons.1 hb with rfl | hb
  · exact h1
  · exact lessB_trans h1 (hlt b hb)
theorem srt_add {L : List EntryD} (h : SrtL L) (e : EntryD) : SrtL (addE L e) := by
  unfold addE
  split
  · exact h
  · rename_i q; exact srt_put h (by simpa using q)
theorem srt_join {L : List EntryD} (h : SrtL L) (M : List EntryD) : SrtL (joinE L M) := by
  induction M generalizing L with
  | nil => exact h
  | cons e M ih => exact ih (srt_add h e)
theorem srt_of {l : List EntryD} (h : entsB l = true) : SrtL l := by
  have hs := (entsB_at h).2.2
  refine List.pairwise_iff_getElem.2 fun i j hi hj hij => sorted_lt hs i j hij hj
theorem addE_mem {L : List EntryD} {e x : EntryD} (h : x ∈ addE L e) : x = e ∨ x ∈ L := by
  unfold addE at h
  split at h
  · exact .inr h
  · exact putE_mem h
theorem joinE_mem {L M : List EntryD} {x : EntryD} (h : x ∈ joinE L M) : x ∈ M ∨ x ∈ L := by
  induction M generalizing L with
  | nil => exact .inr h
  | cons e M ih =>
    rcases ih h with h | h
    · exact .inl (List.mem_cons_of_mem _ h)
    · rcases addE_mem h with rfl | h
      · exact .inl List.mem_cons_self
      · exact .inr h
theorem joinE_len (L M : List EntryD) : (joinE L M).length ≤ L.length + M.length := by
  induction M generalizing L with
  | nil => simp [joinE]
  | cons e M ih =>
    have h := ih (addE L e)
    have h2 : (addE L e).length ≤ L.length + 1 := by
      unfold addE
      split
      · omega
      · rw [putE_len]; omega
    show (joinE (addE L e) M).length ≤ _
    simp only [List.length_cons]
    omega
theorem put_end {L : List EntryD} {e : EntryD} (h : ∀ x ∈ L, lessB x e = true) : putE L e = L ++ [e] := by
  have h1 : L.takeWhile (fun x => lessB x e) = L := by
    induction L with
    | nil => rfl
    | cons a L ih => rw [List.takeWhile_cons, h a List.mem_cons_self, if_pos rfl, ih fun x hx => h x (List.mem_cons_of_mem _ hx)]
  have h2 : L.dropWhile (fun x => lessB x e) = [] := by
    have := congrArg List.length (List.takeWhile_append_dropWhile (p := fun x => lessB x e) (l := L))
    rw [List.length_append, h1] at this
    exact List.eq_nil_of_length_eq_zero (by omega)
  unfold putE
  rw [h1, h2]
theorem join_start_aux (M : List EntryD) : ∀ L, SrtL (L ++ M) → joinE L M = L ++ M := by
  induction M with
  | nil => intro L _; rw [List.append_nil]; rfl
  | cons e M ih =>
    intro L h
    have hL : ∀ x ∈ L, lessB x e = true := fun x hx => (List.pairwise_append.1 h).2.2 x hx e List.mem_cons_self
    have h0 : addE L e = L ++ [e] := by
      unfold addE
      rw [if_neg]
      · exact put_end hL
      · intro q
        obtain ⟨x, hx, hq⟩ := List.any_eq_true.1 q
        have := hL x hx
        rw [(isE_not_less hq).2] at this
        cases this
    show joinE (addE L e) M = _
    rw [h0, ih (L ++ [e]) (by rw [List.append_assoc]; exact h), List.append_assoc]
    rfl
theorem join_start {M : List EntryD} (h : SrtL M) : joinE [] M = M := join_start_aux M [] h
/-- linked entries: a list -/
def SkipL (B hb : Nat) (w : World) (L : List EntryD) : Prop := ∃ (z : EntryD) (S : List Nd), S.map (·.2.1) = L ∧ Skip w ((hb, z, 4) :: S) ∧ (∀ n ∈ S, 1 ≤ n.2.2) ∧ B ≤ hb ∧ ∀ n ∈ S, B ≤ n.1
theorem SkipL.below {B hb : Nat} {w w' : World} {L : List EntryD} (h : SkipL B hb w L) (hk : Below w.heap.size w w') : SkipL B hb w' L := by
  obtain ⟨z, S, h1, h2, h3⟩ := h
  exact ⟨z, S, h1, h2.below hk, h3⟩
theorem map_tw (S : List Nd) (e : EntryD) : (S.takeWhile (fun n => lessB n.2.1 e)).map (·.2.1) = (S.map (·.2.1)).takeWhile (fun x => lessB x e) := by
  rw [List.takeWhile_map]; rfl
theorem map_dw (S : List Nd) (e : EntryD) : (S.dropWhile (fun n => lessB n.2.1 e)).map (·.2.1) = (S.map (·.2.1)).dropWhile (fun x => lessB x e) := by
  rw [List.dropWhile_map]; rfl
theorem put_list (B hb : Nat) (L : List EntryD) (x0 : ByteArray) (x1 : Int) (x2 : Bool) (x3 : ByteArray) (w : World) (hB : B ≤ w.heap.size) (hS : SkipL B hb w L) (hL : SrtL L) (hm : x0.size ≤ 549755813888) (ht : HashT w) :
    Calls Tryd.prog 31 #[.pointer (some ⟨hb, 0, none⟩), .agg #[.string x0, .int .i64 x1, .bool x2, .string x3]] w fun en w' => en = .returned (.bool (!hasE L (x0, x1, x2, x3))) ∧ SkipL B hb w' (addE L (x0, x1, x2, x3)) ∧ Below B w w' := by
  obtain ⟨z, S, hSL, hsk, hh, hBh, hBn⟩ := hS
  subst hSL
  have hs : S.takeWhile (fun n => lessB n.2.1 (x0, x1, x2, x3)) ++ S.dropWhile (fun n => lessB n.2.1 (x0, x1, x2, x3)) = S := List.takeWhile_append_dropWhile
  have hd := map_dw S (x0, x1, x2, x3)
  have htk := map_tw S (x0, x1, x2, x3)
  have a1 : ∀ n ∈ S.takeWhile (fun n => lessB n.2.1 (x0, x1, x2, x3)), lessB n.2.1 (x0, x1, x2, x3) = true := fun n hn => tw_all (S.map (·.2.1)) _ n.2.1 (by rw [← htk]; exact List.mem_map_of_mem hn)
  have a2 : ∀ n ∈ S.dropWhile (fun n => lessB n.2.1 (x0, x1, x2, x3)), lessB n.2.1 (x0, x1, x2, x3) = false := fun n hn => srt_drop hL _ n.2.1 (by rw [← hd]; exact List.mem_map_of_mem hn)
  have hit : hitN (S.dropWhile (fun n => lessB n.2.1 (x0, x1, x2, x3))) (x0, x1, x2, x3) = hasE (S.map (·.2.1)) (x0, x1, x2, x3) := by
    rw [has_head hL, ← hd]
    cases S.dropWhile (fun n => lessB n.2.1 (x0, x1, x2, x3)) with
    | nil => rfl
    | cons c C => rfl
  have hput : putE (S.map (·.2.1)) (x0, x1, x2, x3) = (S.takeWhile (fun n => lessB n.2.1 (x0, x1, x2, x3))).map (·.2.1) ++ (x0, x1, x2, x3) :: (S.dropWhile (fun n => lessB n.2.1 (x0, x1, x2, x3))).map (·.2.1) := by rw [hd, htk]; rfl
  generalize S.takeWhile (fun n => lessB n.2.1 (x0, x1, x2, x3)) = S1 at *
  generalize S.dropWhile (fun n => lessB n.2.1 (x0, x1, x2, x3)) = C at *
  refine (put_any B hb z S1 C x0 x1 x2 x3 w hB (fun n hn => ?_) (by rw [List.cons_append, hs]; exact hsk) a1 a2 (fun n hn => hh n (by rw [← hs]; exact List.mem_append_right _ hn)) hm ht).mono ?_
  · rw [List.cons_append, hs] at hn
    rcases List.mem_cons.1 hn with rfl | hn
    · exact hBh
    · exact hBn n hn
  · rintro en w' ⟨hbl, ⟨ht1, rfl, hsk'⟩ | ⟨ht1, nb, h, rfl, hsk', hnb, h1⟩⟩
    · rw [hit] at ht1
      refine ⟨by rw [ht1]; rfl, ⟨z, S, by unfold addE; rw [if_pos ht1], by rw [List.cons_append, hs] at hsk'; exact hsk', hh, hBh, hBn⟩, hbl⟩
    · rw [hit] at ht1
      refine ⟨by rw [ht1]; rfl, ⟨z, S1 ++ (nb, (x0, x1, x2, x3), h) :: C, by unfold addE; rw [if_neg (by rw [ht1]; exact Bool.false_ne_true), hput, List.map_append, List.map_cons], hsk', fun n hn => ?_, hBh, fun n hn => ?_⟩, hbl⟩
      · rcases List.mem_append.1 hn with hn | hn
        · exact hh n (by rw [← hs]; exact List.mem_append_left _ hn)
        · rcases List.mem_cons.1 hn with rfl | hn
          · exact h1
          · exact hh n (by rw [← hs]; exact List.mem_append_right _ hn)
      · rcases List.mem_append.1 hn with hn | hn
        · exact hBn n (by rw [← hs]; exact List.mem_append_left _ hn)
        · rcases List.mem_cons.1 hn with rfl | hn
          · show B ≤ nb
            omega
          · exact hBn n (by rw [← hs]; exact List.mem_append_right _ hn)
end Go.Proofs.YteejabpohnfoaaaDoor

/- Entries that are ok are linked. -/
namespace Go.Proofs.YteejabpohnfoaaaDoor
open Go Go.RowKit

theorem ent_size {l : List EntryD} (h : entsB l = true) : ∀ x ∈ l, x.1.size ≤ 24 := by
  intro x hx
  obtain ⟨j, hj, rfl⟩ := List.getElem_of_mem hx
  have := (entsB_at h).2.1 j hj
  unfold entB keyB inB at this
  simp only [Bool.and_eq_true, decide_eq_true_eq] at this
  omega
set_option maxRecDepth 100000 in
set_option maxHeartbeats 2000000 in
theorem start_any (a : Option Addr) (ca : Nat) (l : List EntryD) (w : World) (hl : ElS 4 encEntry w a l) (hok : entsB l = true) (ht : HashT w) :
    Calls Tryd.prog 30 #[.slice a l.length ca] w fun en w' => ∃ hb, en = .returned (.pointer (some ⟨hb, 0, none⟩)) ∧ SkipL w.heap.size hb w' l ∧ Below w.heap.size w w' := by
  have hl1 := hl.1
  unfold maxLen at hl1
  have HT := Lib.hid ht
  have HZ := Lib.hid (ent_size hok)
  have HSR := Lib.hid (srt_of hok)
  have HJN := Lib.hid (join_start (srt_of hok))
  clear hok ht
  obtain ⟨w1, hw1⟩ : ∃ W, w.alloc (.cells #[.string ⟨#[]⟩, .int .i64 0, .bool false, .string ⟨#[]⟩, .pointer none, .pointer none, .pointer none, .pointer none] 78) = W := ⟨_, rfl⟩
  have B1 := Lib.hid (show Below w.heap.size w w1 by rw [← hw1]; exact below_alloc _ _)
  have S1 := Lib.hid (show SkipL w.heap.size w.heap.size w1 (joinE [] (l.take 0)) from ⟨(⟨#[]⟩, 0, false, ⟨#[]⟩), [], rfl, skip_start _ (by rw [← hw1]; exact Box.alloc w #[.string ⟨#[]⟩, .int .i64 0, .bool false, .string ⟨#[]⟩, .pointer none, .pointer none, .pointer none, .pointer none] 78), fun n hn => (by cases hn), Nat.le_refl _, fun n hn => (by cases hn)⟩)
  go_enter Tryd.func30, Tryd.ntmps30
  go_wp2
  clear hw1
  go_loopg [10] l.length (fun q v10 wr => ∃ k : Nat, k + q = l.length ∧ v10 = .int .i64 k ∧ SkipL w.heap.size w.heap.size wr (joinE [] (l.take k)) ∧ Below w.heap.size w wr)
  case atStart => exact ⟨0, by omega, rfl, S1.out, B1.out⟩
  case round =>
    clear B1 S1
    obtain ⟨k, hk, rfl, hs, hb⟩ := hrel
    have HK := Lib.hid hk
    have HS := Lib.hid hs
    have HB := Lib.hid hb
    clear hk hs hb
    by_cases hlt : k < l.length
    · have hl0 : l ≠ [] := fun e => by rw [e] at hlt; simp at hlt
      obtain ⟨ba, oa, rfl, hc⟩ := hl.2.resolve_left hl0
      obtain ⟨c0, c1, c2, c3⟩ := cellsEntry HB.out hc k hlt
      have i1 : (k : Int) < (l.length : Int) := by omega
      have i2 : (0 : Int) ≤ (k : Int) := by omega
      have HC := Lib.hid hc
      have HMZ := Lib.hid (HZ.out l[k] (List.getElem_mem _))
      have HJ := Lib.hid (joinE_take (L := []) hlt)
      obtain ⟨⟨x0, x1, x2, x3⟩, hx⟩ : ∃ x, l[k] = x := ⟨_, rfl⟩
      rw [hx] at c0 c1 c2 c3 HMZ HJ
      dsimp only at c0 c1 c2 c3 HMZ
      clear hc hl hx hl0
      go_wp2_with fail
      have SK := Lib.hid (HS.out.below (below_alloc wr (.cells #[.string x0, .int .i64 x1, .bool x2, .string x3] 31)))
      have BB := Lib.hid (HB.out.alloc HB.out.size (.cells #[.string x0, .int .i64 x1, .bool x2, .string x3] 31))
      refine (put_list w.heap.size w.heap.size _ x0 x1 x2 x3 _ BB.out.size SK.out (srt_join List.Pairwise.nil _) (by have := HMZ.out; omega) (HT.out.below BB.out)).mono ?_
      rintro en w3 ⟨rfl, hs3, b3⟩
      have S3 := Lib.hid hs3
      have B3 := Lib.hid (BB.out.trans b3)
      clear hs3 b3 c0 c1 c2 c3
      go_wp2
      go_roundg (gk - 1)
      case measure => have := HK.out; omega
      case rel => exact ⟨k + 1, by have := HK.out; omega, by go_num, by rw [HJ.out]; exact S3.out, B3.out⟩
    · have hke : k = l.length := by have := HK.out; omega
      have i1 : ¬ (k : Int) < (l.length : Int) := by omega
      have HF := Lib.hid (show SkipL w.heap.size w.heap.size wr l by have h := HS.out; rwa [List.take_of_length_le (by omega), HJN.out] at h)
      clear hke
      go_wp2
      go_ret
      exact ⟨_, rfl, HF.out, HB.out⟩
end Go.Proofs.YteejabpohnfoaaaDoor

/- Linked entries are told one by one, and collected. -/
namespace Go.Proofs.YteejabpohnfoaaaDoor
open Go Go.RowKit Go.Shelf

attribute [local go_sem] Oper.semAt_some

set_option maxRecDepth 100000 in
set_option maxHeartbeats 2000000 in
theorem all_core (m : Nat) (hm : 1 ≤ m) (Bn hb : Nat) (z : EntryD) (S : List Nd) (T : Nat → Prop) (hTb : ∀ n ∈ S, ¬ T n.1) (lp : Nat) (J Jx : List EntryD → World → Prop) (W : World)
    (hbx : W.cell? ⟨Bn, 0, none⟩ = some (.pointer (some ⟨hb, 0, none⟩))) (hS : Skip W ((hb, z, 4) :: S)) (hh : ∀ n ∈ S, 1 ≤ n.2.2)
    (hY : ∀ pre x W1, J pre W1 → pre.length < S.length → YieldAt Fence.wide (m - 1) Tryd.prog lp (encA x) W1 fun e W2 => (e = .returned (.bool true) ∧ J (pre ++ [x]) W2 ∧ KeptOut T W1 W2) ∨ (e = .returned (.bool false) ∧ Jx (pre ++ [x]) W2))
    (h0 : J [] W) :
    CallsIn Fence.wide m Tryd.prog 54 (#[.func (.yield lp) #[] #[]] ++ #[.pointer (some ⟨Bn, 0, none⟩)]) W fun e W2 => (∃ v, e = .returned v) ∧ ((∃ xs, xs = S.map (·.2.1) ∧ J xs W2) ∨ (∃ pre, pre <+: S.map (·.2.1) ∧ Jx pre W2)) := by
  have HS := Lib.hid hS
  have HH := Lib.hid hh
  have HT := Lib.hid hTb
  have hd := (Skip.at (show Skip W ([] ++ (hb, z, 4) :: S) from hS) 4 _ (nodeC_get (k := 0) (by decide))).1
  rw [show nx (hb, z, 4).2.2 0 S = nxt 0 S from rfl] at hd
  dsimp only at hd
  clear hS hh hTb
  refine callsIn_of_wp Tryd.func54 rfl trivial ?_ rfl
  simp only [Tryd.ntmps54, List.size_toArray, List.length_cons, List.length_nil, Nat.reduceAdd, Nat.reduceSub, Array.replicate_succ, Array.replicate_zero, List.push_toArray, List.append_toArray, List.nil_append, List.cons_append]
  gi_wp2_with fail
  gi_loopg [3] (S.length + 1) (fun q v3 wr => ∃ A R : List Nd, S = A ++ R ∧ R.length + 1 = q ∧ v3 = nxt 0 R ∧ J (A.map (·.2.1)) wr ∧ KeptOut T W wr)
  case atStart => exact ⟨[], S, rfl, rfl, rfl, h0, KeptOut.refl _ _⟩
  case round =>
    clear h0 hd hbx
    obtain ⟨A, R, hAR, hq, rfl, hJ, hk⟩ := hrel
    have HAR := Lib.hid hAR
    have HQ := Lib.hid hq
    clear hAR hq
    cases R with
    | nil =>
      rw [show nxt 0 ([] : List Nd) = .pointer none from rfl]
      have HE := Lib.hid (show A.map (·.2.1) = S.map (·.2.1) by rw [HAR.out, List.append_nil])
      gi_wp2
      go_end0
      exact ⟨⟨_, rfl⟩, .inl (by first | exact ⟨_, HE.out, hJ⟩ | (rw [← HE.out]; exact hJ))⟩
    | cons n R =>
      have hn : n ∈ S := by rw [HAR.out]; simp
      have hl : lvl 0 n = true := decide_eq_true (by have := HH.out n hn; omega)
      rw [nxt_hit hl]
      have hTn := HT.out n hn
      have bx := Skip.at (show Skip W (((hb, z, 4) :: A) ++ n :: R) by have h := HS.out; rwa [HAR.out] at h)
      have hnl : n.1 < W.heap.size := Box.lt bx
      have HA1 := Lib.hid (show S = (A ++ [n]) ++ R by rw [HAR.out]; simp)
      have HM := Lib.hid (show (A ++ [n]).map (·.2.1) = A.map (·.2.1) ++ [n.2.1] by simp)
      have hlt : (A.map (·.2.1)).length < S.length := by rw [HAR.out]; simp
      obtain ⟨fn, tmps, assign, body, hy, hR⟩ := hY _ n.2.1 _ hJ hlt
      have bq := Box.kept hk hTn bx
      have c5 := bx 4 _ (nodeC_get (k := 0) (by decide))
      rw [show nx n.2.2 0 R = nxt 0 R by unfold nx; rw [if_pos (by have := HH.out n hn; omega)]] at c5
      have HC5 := Lib.hid c5.1
      obtain ⟨⟨c0, -⟩, ⟨c1, -⟩, ⟨c2, -⟩, c3, -⟩ := show _ ∧ _ ∧ _ ∧ _ from ⟨bq 0 _ rfl, bq 1 _ rfl, bq 2 _ rfl, bq 3 _ rfl⟩
      have HJP := Lib.hid (show A.map (·.2.1) ++ [n.2.1] <+: S.map (·.2.1) from ⟨R.map (·.2.1), by rw [HAR.out]; simp⟩)
      clear hl hn bx bq c5 hlt
      obtain ⟨nb, ⟨x0, x1, x2, x3⟩, nh⟩ := n
      dsimp only at c0 c1 c2 c3 hTn hnl
      unfold encA at hy
      dsimp only at hy
      gi_wp2
      refine hR.mono ?_
      rintro e W3 (⟨rfl, hJ3, hk3⟩ | ⟨rfl, hJx3⟩)
      · have K3 : KeptOut T W W3 := hk.trans hk3
        have c6 := (K3.cell (p := ⟨nb, 4, none⟩) hnl hTn).trans HC5.out
        have J3 := Lib.hid hJ3
        clear hJ3 hJ hk3 hY hk c0 c1 c2 c3
        gi_wp2
        go_roundg (gk - 1)
        case measure => have := HQ.out; simp only [List.length_cons] at this; omega
        case rel => exact ⟨A ++ [(nb, (x0, x1, x2, x3), nh)], R, HA1.out, by have := HQ.out; simp only [List.length_cons] at this; omega, rfl, by rw [HM.out]; exact J3.out, K3⟩
      · have J3 := Lib.hid hJx3
        clear hJx3 hJ hY hk c0 c1 c2 c3
        gi_wp2
        refine bodyPost_ret (results_none rfl _ _ _) rfl ?_
        exact ⟨⟨_, rfl⟩, .inr ⟨_, HJP.out, J3.out⟩⟩
theorem all_stops (m : Nat) (hm : 1 ≤ m) (Bn hb B : Nat) (L : List EntryD) (T : Nat → Prop) (hT : ∀ b, T b → B ≤ b) (w0 : World)
    (hbx : w0.cell? ⟨Bn, 0, none⟩ = some (.pointer (some ⟨hb, 0, none⟩))) (z : EntryD) (S : List Nd) (hSL : S.map (·.2.1) = L) (hS : Skip w0 ((hb, z, 4) :: S)) (hh : ∀ n ∈ S, 1 ≤ n.2.2) (hB : ∀ n ∈ S, n.1 < B) :
    SeqStopsK Fence.wide m Tryd.prog 54 #[.pointer (some ⟨Bn, 0, none⟩)] encA (KeptOut T) (fun ys => ys = L) (fun pre => pre <+: L) L.length w0 := by
  intro lp J Jx W hbW hJ hJx hY h0
  subst hSL
  exact all_core m hm Bn hb z S T (fun n hn h => by have := hT _ h; have := hB n hn; omega) lp J Jx W ((hbW.cell (by have := World.block_lt_of_cell? w0 _ hbx; simpa using this)).trans hbx) (hS.below hbW) hh (fun pre x W1 h hl => hY pre x W1 h (by rwa [List.length_map])) h0
theorem allMk_any (hb : Nat) (w : World) :
    Calls Tryd.prog 33 #[.pointer (some ⟨hb, 0, none⟩)] w fun e w' => e = .returned (.func (.func 54) #[] #[.pointer (some ⟨w.heap.size, 0, none⟩)]) ∧ w' = w.alloc (.cells #[.pointer (some ⟨hb, 0, none⟩)] 52) := by
  go_enter Tryd.func33, Tryd.ntmps33
  go_wp2
  go_ret
  exact ⟨by simp, rfl⟩
/-- between two rounds -/
def InvA (w : World) (n2 : Nat) (s : List EntryD) (W : World) : Prop :=
  (∃ v, Boxed W w.heap.size 27 v ∧ W.ownsRow n2 31 4 v s.length (s.flatMap encEntry) ∧ True) ∧ Below w.heap.size w W ∧ n2 ≤ W.heap.size
theorem invA_own (w : World) (n2 B : Nat) (hB : w.heap.size ≤ B) : OwnFrom B (InvA w n2) :=
  OwnFrom.and (Own.from (holdsRow_own (β := List EntryD) n2 w.heap.size 27 31 4 (fun s => s.length) (fun s => s.flatMap encEntry) (fun _ _ => True)) _)
    (OwnFrom.and (ownFrom_below (Nat.le_refl _) hB) (fun _ _ _ _ hs hg _ => Nat.le_trans hs hg.size))
set_option maxRecDepth 100000 in
set_option maxHeartbeats 2000000 in
theorem appendSeq_any (Bn hb : Nat) (L : List EntryD) (hL : L.length ≤ 1000) (w : World) (hbx : w.cell? ⟨Bn, 0, none⟩ = some (.pointer (some ⟨hb, 0, none⟩))) (B : Nat) (hS : SkipL B hb w L) :
    Calls Tryd.prog 53 #[.slice none 0 0, .func (.func 54) #[] #[.pointer (some ⟨Bn, 0, none⟩)]] w (OwnE w L) := by
  obtain ⟨i0, hi, hz0, hz1, hz2⟩ := info_parts infoEntry
  obtain ⟨z, S, hSL, hsk, hh, -, -⟩ := hS
  have hlt := hsk.lt
  refine (callsIn_wide (n := 3)).1 ?_
  refine callsIn_of_wp_marks Tryd.func53 rfl trivial ?_ rfl
  simp only [Tryd.ntmps53, List.size_toArray, List.length_cons, List.length_nil, Nat.reduceAdd, Nat.reduceSub, Array.replicate_succ, Array.replicate_zero, List.push_toArray, List.append_toArray, List.nil_append, List.cons_append]
  obtain ⟨W0, hW0⟩ : ∃ W0, w.alloc (.cells #[.slice none 0 0] 27) = W0 := ⟨_, rfl⟩
  have B0 : Below w.heap.size w W0 := by rw [← hW0]; exact below_alloc _ _
  have S0 : W0.heap.size = w.heap.size + 1 := by rw [← hW0]; simp
  have bs0 : Boxed W0 w.heap.size 27 (.slice none 0 0) := by rw [← hW0]; exact Boxed.new w 27 (.slice none 0 0)
  have HB0 := Lib.hid ((B0.cell (p := ⟨Bn, 0, none⟩) (by have := World.block_lt_of_cell? w _ hbx; simpa using this)).trans hbx)
  have HSK := Lib.hid (hsk.below B0)
  have HLT := Lib.hid hlt
  have HSL := Lib.hid hSL
  clear hbx hsk hlt hSL
  gi_wp2
  have hI : OwnFrom W0.heap.size (InvA w (w.heap.size + 1)) := invA_own w (w.heap.size + 1) W0.heap.size (by omega)
  refine wpIn_rangeFunc_ownH (F := Fence.wide) (n := 3) rfl (by omega) (gf := 54) (lb := #[.pointer (some ⟨Bn, 0, none⟩)]) rfl trivial (enters_of Tryd.func54 (by kernel_rfl) rfl)
    (all_stops 2 (by omega) Bn hb w.heap.size L (fun b => w.heap.size ≤ b) (fun b h => h) W0 HB0.out z S HSL.out HSK.out hh (fun n hn => HLT.out n (List.mem_cons_of_mem _ hn)))
    KeptOut.trans (fun W k o o' hk h _ _ => (kept_of_grown (grownBy_putObj' W k o')).mono (fun j _ e => by cases e; show w.heap.size ≤ k; omega)) (Below.refl _ _) (fun _ => rfl)
    (InvA w (w.heap.size + 1)) (fun c s W => False)
    hI (fun c s A B row hs hg hr => hs.elim)
    ⟨⟨_, bs0, World.ownsRow_nil _ _ _ _, trivial⟩, B0, by omega⟩
    (fun x a' W => ∃ Bx, w.heap.size + 1 ≤ Bx ∧ Box W Bx (encEntry x) ∧ a' = { tmps := #[.slice none 0 0, .func (.func 54) #[] #[.pointer (some ⟨Bn, 0, none⟩)], .pointer (some ⟨w.heap.size, 0, none⟩), undef, .slice none 0 0, .pointer (some ⟨Bx, 0, none⟩), .func (.func 54) #[] #[.pointer (some ⟨Bn, 0, none⟩)], .agg #[.string x.1, .int .i64 x.2.1, .bool x.2.2.1, .string x.2.2.2], undef, undef, undef, undef, undef], defers := [] })
    (fun x a' s A B row hs hg hr => by obtain ⟨Bx, h1, h2, h3⟩ := hs; exact ⟨Bx, h1, fun i v hv => ⟨cell_kept (h2 i v hv).1 hg (fun r e => (hr r e).2), (frozen_kept (h2 i v hv).1 hg (fun r e => (hr r e).2)).trans (h2 i v hv).2⟩, h3⟩) ?assign ?body ?done ?stop
  case assign =>
    rintro lp s x W K hi hK
    have hsz := hi.2.2
    simp only [encA]
    gi_wp2
    exact hK _ _ ((KeepsOthers.alloc _ _).from _) ((KeptOut.refl _ _).alloc _) (hI.alloc _ hi) ⟨W.heap.size, by omega, Box.alloc _ _ _, rfl⟩
  case body =>
    rintro lp s x a' W hlp ⟨r, hr⟩ ⟨⟨v, hv, hrow, hG⟩, hB, hsz⟩ ⟨Bx, hBx, bX, rfl⟩ hlt
    have hc := hv.cell
    have hsl : s.length < 1000 := by omega
    obtain ⟨⟨x0, _⟩, ⟨x1, _⟩, ⟨x2, _⟩, x3, _⟩ := show _ ∧ _ ∧ _ ∧ _ from ⟨bX 0 _ rfl, bX 1 _ rfl, bX 2 _ rfl, bX 3 _ rfl⟩
    have zb := hB.size
    have HRW := Lib.hid hrow
    have HVV := Lib.hid hv
    clear hrow hv
    gi_wp2_with (gi_at_builtin; refine wpListIn_append_own _ rfl _ _ 27 rfl (w.heap.size + 1) 31 i0 (.agg #[.string ⟨#[]⟩, .int .i64 0, .bool false, .string ⟨#[]⟩]) 4 48 Tryd.underlying27 hi hz0 hz1 hz2 rfl (by decide) _ _ _ rfl (HRW.out.alloc _) ⟨W.heap.size, 0, none⟩ 1 1 [.string x.1, .int .i64 x.2.1, .bool x.2.2.1, .string x.2.2.2] rfl rfl (cellsNew _ _ _) (by simp [Value.oneCell']) (by unfold maxLen; omega) (by omega) (by simp; omega) ?_; intro v' w5 hown' hgrow _; obtain ⟨g5, cap5, rfl⟩ := ownsRow_succ hown'; obtain ⟨hv1, hv2, _, hk2, hb2⟩ := HVV.out.appended (by decide) (own_mono (Nat.le_succ _) HRW.out) hB.size (Nat.le_refl _) (own_mono (Nat.le_succ _) hown') hgrow; have hr2 := hown'.kept (grownBy_setCell' w5 w.heap.size (.slice (some ⟨g5, 0, none⟩) (s.length + 1) cap5)) (.inr (hv1.not_row (by decide) hown').symm); have hc1 := hv1.cell; have hf1 := hv1.frozen)
    have KK : KeptOut (fun b => w.heap.size ≤ b) W (w5.setCell ⟨w.heap.size, 0, none⟩ (.slice (some ⟨g5, 0, none⟩) (s.length + 1) cap5)) := ((((KeptOut.refl (fun b => w.heap.size ≤ b) W).alloc _).trans ((kept_of_grown hgrow).mono (fun j _ e => by have := (HRW.out.lt j e).1; show w.heap.size ≤ j; omega)))).setCell (p := ⟨w.heap.size, 0, none⟩) (Nat.le_refl _) _
    exact ⟨hk2.from _, KK, ⟨_, hv2, by rw [List.length_append, flat_snoc]; exact hr2, trivial⟩, hB.trans hb2, Nat.le_trans hsz KK.size⟩
  case done =>
    rintro D ys W hD rfl ⟨⟨v, hv, hrow, hG⟩, hB, hsz⟩ hK
    have hc := hv.cell
    have HRW := Lib.hid hrow
    clear hrow hv
    gi_wp2
    refine ⟨by simp, .inl ⟨_, _, rfl, run_takeDeferred hK, ?_⟩⟩
    exact ⟨_, results_tmp rfl _ _ _, v, rfl, ownsRow_putObj (own_mono (Nat.le_succ _) HRW.out) _ hK rfl, hB.trans (belowK_b (w := w) (Nat.le_refl _) W D _ _ (by omega) hK rfl rfl)⟩
  case stop =>
    rintro D c s W hD hSp hx hK
    exact hx.elim
theorem collect_any (Bn hb : Nat) (L : List EntryD) (hL : L.length ≤ 1000) (w : World) (hbx : w.cell? ⟨Bn, 0, none⟩ = some (.pointer (some ⟨hb, 0, none⟩))) (B : Nat) (hS : SkipL B hb w L) :
    Calls Tryd.prog 32 #[.func (.func 54) #[] #[.pointer (some ⟨Bn, 0, none⟩)]] w (OwnE w L) := by
  go_enter Tryd.func32, Tryd.ntmps32
  go_wp2_with fail
  refine (appendSeq_any Bn hb L hL w hbx B hS).mono ?_
  rintro e w1 ⟨v, rfl, o1, b1⟩
  go_wp2
  go_ret
  exact ⟨v, rfl, o1, b1⟩
end Go.Proofs.YteejabpohnfoaaaDoor

/- slices.Clone of a list of Entry. -/
namespace Go.Proofs.YteejabpohnfoaaaDoor
open Go Go.RowKit

theorem oneEntC {l : List EntryD} : ∀ u ∈ l.flatMap encEntry, u.oneCell' = true := by
  intro u hu
  obtain ⟨x, _, hx⟩ := List.mem_flatMap.1 hu
  simp only [encEntry, List.mem_cons, List.not_mem_nil, or_false] at hx
  rcases hx with rfl | rfl | rfl | rfl <;> rfl
set_option maxRecDepth 100000 in
set_option maxHeartbeats 1000000 in
theorem cloneEnt_any (a : Option Addr) (c : Nat) (l : List EntryD) (w : World) (hl : ElS 4 encEntry w a l) (hlen : l.length ≤ 1048576) :
    Calls Tryd.prog 29 #[.slice a l.length c] w (fun e w' => ∃ v, e = .returned v ∧ w'.ownsRow w.heap.size 31 4 v l.length (l.flatMap encEntry) ∧ Below w.heap.size w w') := by
  obtain ⟨i0, hi, hz0, hz1, hz2⟩ := info_parts infoEntry
  have HX := Lib.hid (src_el encEntry_len (by decide) hl)
  cases a with
  | none =>
    obtain rfl : l = [] := by
      rcases hl.2 with h | ⟨b, o, h, -⟩
      · exact h
      · cases h
    clear hl
    have hnil : (binOp .eql 27 (.slice none ([] : List EntryD).length c) (.slice none 0 0)).run Tryd.prog w = .ok (.bool true) w := Lib.run_eql_slice_nil w _ _ _ _ _ _ _ Tryd.underlying27
    simp only [List.length_nil] at hnil
    go_enter Tryd.func29, Tryd.ntmps29
    go_wp2
    go_ret
    exact ⟨_, rfl, World.ownsRow_nil _ _ _ _, Below.refl _ _⟩
  | some x =>
    obtain ⟨b, o, sp⟩ := x
    clear hl
    have hnil : (binOp .eql 27 (.slice (some ⟨b, o, sp⟩) l.length c) (.slice none 0 0)).run Tryd.prog w = .ok (.bool false) w := Lib.run_eql_slice_nil w _ _ _ _ _ _ _ Tryd.underlying27
    have O0 := Lib.hid (World.ownsRow_made (e := 31) (size := 4) w #[] 0 (Nat.le_refl _) (by unfold maxLen; omega) rfl)
    go_enter Tryd.func29, Tryd.ntmps29
    go_wp2_with (at_builtin; refine wpList_append_src _ rfl _ _ 27 rfl w.heap.size 31 i0 (.agg #[.string ⟨#[]⟩, .int .i64 0, .bool false, .string ⟨#[]⟩]) 4 48 Tryd.underlying27 hi hz0 hz1 hz2 rfl (by decide) _ 0 [] rfl O0.out (some ⟨b, o, sp⟩) l.length c (l.flatMap encEntry) rfl (HX.out.below (below_alloc w _)) oneEntC (by unfold maxLen; omega) (by omega) (by simp) ?_; intro v2 w2 o2 g2 _)
    have B2 := Lib.hid (show Below w.heap.size w w2 from (below_alloc w _).grown g2 (by simp) (fun k hk => (O0.out.lt k hk).1))
    have O2 := Lib.hid (show w2.ownsRow w.heap.size 31 4 v2 l.length (l.flatMap encEntry) by have h := o2; rwa [Nat.zero_add, List.nil_append] at h)
    clear o2 g2 hnil
    go_wp2
    go_ret
    exact ⟨_, rfl, O2.out, B2.out⟩
end Go.Proofs.YteejabpohnfoaaaDoor

/- MemPut and MemJoin of both sides. -/
namespace Go.Proofs.YteejabpohnfoaaaDoor
open Go Go.RowKit

def OwnEB (w : World) (L : List EntryD) (b : Bool) (e : Ending) (w' : World) : Prop := ∃ v, e = .returned (.tuple #[v, .bool b]) ∧ w'.ownsRow w.heap.size 31 4 v L.length (L.flatMap encEntry) ∧ Below w.heap.size w w'
theorem OwnEB.of {w w' : World} {L M : List EntryD} {b c : Bool} {e : Ending} (h : OwnEB w L b e w') (h1 : L = M) (h2 : b = c) : OwnEB w M c e w' := by subst h1; subst h2; exact h
def putOk (l : List EntryD) (e : EntryD) : Bool := entsB l && entB e && decide (l.length < 240) && !hasE l e
def putL (l : List EntryD) (e : EntryD) : List EntryD := if putOk l e = true then putE l e else l
theorem putL_no {l : List EntryD} {e : EntryD} (h : putOk l e = false) : l = putL l e := by unfold putL; rw [h]; rfl
theorem putL_yes {l : List EntryD} {e : EntryD} (h : putOk l e = true) : putE l e = putL l e := by unfold putL; rw [h]; rfl
set_option maxRecDepth 100000 in
set_option maxHeartbeats 2000000 in
theorem implPut_any (a : Option Addr) (ca : Nat) (l : List EntryD) (x0 : ByteArray) (x1 : Int) (x2 : Bool) (x3 : ByteArray) (w : World) (hlen : l.length ≤ 1048576) (hl : ElS 4 encEntry w a l) (hok : ∀ x ∈ l, OkEntry x) (s0 : x0.size ≤ maxLen) (s3 : x3.size ≤ maxLen) (ht : HashT w) :
    Calls Tryd.prog 13 #[.slice a l.length ca, .agg #[.string x0, .int .i64 x1, .bool x2, .string x3]] w (OwnEB w (putL l (x0, x1, x2, x3)) (putOk l (x0, x1, x2, x3))) := by
  have HX := Lib.hid hl
  have HT := Lib.hid ht
  clear hl ht
  obtain ⟨w1, hw1⟩ : ∃ W, w.alloc (.cells #[.string x0, .int .i64 x1, .bool x2, .string x3] 31) = W := ⟨_, rfl⟩
  have BX := Lib.hid (show Box w1 w.heap.size [.string x0, .int .i64 x1, .bool x2, .string x3] by rw [← hw1]; exact Box.alloc w _ _)
  have B1 := Lib.hid (show Below w.heap.size w w1 by rw [← hw1]; exact below_alloc _ _)
  have KS := Lib.hid (show ∀ W, Below w1.heap.size w1 W → Below w.heap.size w W ∧ W.cell? ⟨w.heap.size, 0, none⟩ = some (.string x0) ∧ W.cell? ⟨w.heap.size, 1, none⟩ = some (.int .i64 x1) ∧ W.cell? ⟨w.heap.size, 2, none⟩ = some (.bool x2) ∧ W.cell? ⟨w.heap.size, 3, none⟩ = some (.string x3) from fun W hb => by
    have q := BX.out.below hb
    exact ⟨B1.out.trans (hb.mono B1.out.size), (q 0 _ rfl).1, (q 1 _ rfl).1, (q 2 _ rfl).1, (q 3 _ rfl).1⟩)
  cases h1 : entsB l with
  | false =>
    have HP := Lib.hid (show putOk l (x0, x1, x2, x3) = false by unfold putOk; rw [h1]; rfl)
    have H1 := Lib.hid h1
    clear h1
    go_enter Tryd.func13, Tryd.ntmps13
    go_wp2_with fail
    clear hw1
    refine (implEntries_any _ _ l _ (HX.out.below B1.out) hok).mono ?_
    rintro e w2 ⟨rfl, b2⟩
    rw [H1.out]
    obtain ⟨B2, d0, d1, d2, d3⟩ := KS.out _ b2
    have HB2 := Lib.hid B2
    clear B2
    go_wp2_with fail
    refine (cloneEnt_any a ca l _ (HX.out.below HB2.out) hlen).mono ?_
    rintro e w3 ⟨v, rfl, o3, b3⟩
    have O3 := Lib.hid (own_mono HB2.out.size o3)
    have B3 := Lib.hid (HB2.out.trans (b3.mono HB2.out.size))
    clear o3 b3 d0 d1 d2 d3
    go_wp2
    go_ret2
    exact OwnEB.of ⟨v, rfl, O3.out, B3.out⟩ (putL_no HP.out) HP.out.symm
  | true =>
    have H1 := Lib.hid h1
    cases h2 : entB (x0, x1, x2, x3) with
    | false =>
      have HP := Lib.hid (show putOk l (x0, x1, x2, x3) = false by unfold putOk; rw [h1, h2]; rfl)
      have H2 := Lib.hid h2
      clear h1 h2
      go_enter Tryd.func13, Tryd.ntmps13
      go_wp2_with fail
      clear hw1
      refine (implEntries_any _ _ l _ (HX.out.below B1.out) hok).mono ?_
      rintro e w2 ⟨rfl, b2⟩
      rw [H1.out]
      obtain ⟨B2, d0, d1, d2, d3⟩ := KS.out _ b2
      have HB2 := Lib.hid B2
      clear B2
      go_wp2_with fail
      refine (implOk_any x0 x1 x2 x3 _ s0 s3).mono ?_
      rintro e w3 ⟨rfl, b3⟩
      rw [H2.out]
      have HB3 := Lib.hid (HB2.out.trans (b3.mono HB2.out.size))
      clear b3 b2 d0 d1 d2 d3
      go_wp2_with fail
      refine (cloneEnt_any a ca l _ (HX.out.below HB3.out) hlen).mono ?_
      rintro e w4 ⟨v, rfl, o4, b4⟩
      have O4 := Lib.hid (own_mono HB3.out.size o4)
      have B4 := Lib.hid (HB3.out.trans (b4.mono HB3.out.size))
      clear o4 b4
      go_wp2
      go_ret2
      exact OwnEB.of ⟨v, rfl, O4.out, B4.out⟩ (putL_no HP.out) HP.out.symm
    | true =>
      have H2 := Lib.hid h2
      have hle := (entsB_at h1).1
      have HSR := Lib.hid (srt_of h1)
      by_cases h3 : l.length = 240
      · have HP := Lib.hid (show putOk l (x0, x1, x2, x3) = false by unfold putOk; rw [h1, h2, decide_eq_false (by omega)]; rfl)
        have i3 : (l.length : Int) = 240 := by omega
        have I3 := Lib.hid i3
        have H3 := Lib.hid h3
        clear h1 h2 h3 i3
        go_enter Tryd.func13, Tryd.ntmps13
        go_wp2_with fail
        clear hw1
        refine (implEntries_any _ _ l _ (HX.out.below B1.out) hok).mono ?_
        rintro e w2 ⟨rfl, b2⟩
        rw [H1.out]
        obtain ⟨B2, d0, d1, d2, d3⟩ := KS.out _ b2
        have HB2 := Lib.hid B2
        clear B2
        go_wp2_with fail
        refine (implOk_any x0 x1 x2 x3 _ s0 s3).mono ?_
        rintro e w3 ⟨rfl, b3⟩
        rw [H2.out]
        have HB3 := Lib.hid (HB2.out.trans (b3.mono HB2.out.size))
        clear b3 b2 d0 d1 d2 d3
        have i3 := I3.out
        go_wp2_with fail
        refine (cloneEnt_any a ca l _ (HX.out.below HB3.out) hlen).mono ?_
        rintro e w4 ⟨v, rfl, o4, b4⟩
        have O4 := Lib.hid (own_mono HB3.out.size o4)
        have B4 := Lib.hid (HB3.out.trans (b4.mono HB3.out.size))
        clear o4 b4 i3
        go_wp2
        go_ret2
        exact OwnEB.of ⟨v, rfl, O4.out, B4.out⟩ (putL_no HP.out) HP.out.symm
      · have i3 : ¬ (l.length : Int) = 240 := by omega
        have HPO := Lib.hid (show putOk l (x0, x1, x2, x3) = !hasE l (x0, x1, x2, x3) by unfold putOk; rw [h1, h2, decide_eq_true (by omega)]; simp)
        have HPL := Lib.hid (show addE l (x0, x1, x2, x3) = putL l (x0, x1, x2, x3) by
          unfold addE putL
          rw [HPO.out]
          cases hasE l (x0, x1, x2, x3) <;> rfl)
        have HLN := Lib.hid (show (addE l (x0, x1, x2, x3)).length ≤ 1000 by
          unfold addE
          split
          · omega
          · rw [putE_len]; omega)
        have HZ := Lib.hid (show x0.size ≤ 549755813888 by
          have h := h2
          unfold entB keyB inB at h
          simp only [Bool.and_eq_true, decide_eq_true_eq] at h
          omega)
        clear h2 h3
        go_enter Tryd.func13, Tryd.ntmps13
        go_wp2_with fail
        clear hw1
        refine (implEntries_any _ _ l _ (HX.out.below B1.out) hok).mono ?_
        rintro e w2 ⟨rfl, b2⟩
        rw [H1.out]
        obtain ⟨B2, d0, d1, d2, d3⟩ := KS.out _ b2
        have HB2 := Lib.hid B2
        clear B2
        go_wp2_with fail
        refine (implOk_any x0 x1 x2 x3 _ s0 s3).mono ?_
        rintro e w3 ⟨rfl, b3⟩
        rw [H2.out]
        have HB3 := Lib.hid (HB2.out.trans (b3.mono HB2.out.size))
        have BX3 := Lib.hid ((BX.out.below b2).below b3)
        clear b3 b2 d0 d1 d2 d3
        go_wp2_with fail
        refine (start_any a ca l _ (HX.out.below HB3.out) h1 (HT.out.below HB3.out)).mono ?_
        rintro e w4 ⟨hb, rfl, hs4, b4⟩
        have S4 := Lib.hid hs4
        have B4 := Lib.hid (HB3.out.trans (b4.mono HB3.out.size))
        have bx4 := BX3.out.below b4
        have Z4 := Lib.hid b4.size
        obtain ⟨⟨d0, -⟩, ⟨d1, -⟩, ⟨d2, -⟩, d3, -⟩ := show _ ∧ _ ∧ _ ∧ _ from ⟨bx4 0 _ rfl, bx4 1 _ rfl, bx4 2 _ rfl, bx4 3 _ rfl⟩
        clear hs4 b4 bx4 h1
        go_wp2_with fail
        refine (put_list w3.heap.size hb l x0 x1 x2 x3 w4 Z4.out S4.out HSR.out HZ.out (HT.out.below B4.out)).mono ?_
        rintro e w5 ⟨rfl, hs5, b5⟩
        have S5 := Lib.hid hs5
        have B5 := Lib.hid (B4.out.trans (b5.mono HB3.out.size))
        obtain ⟨r, hr⟩ : ∃ r, (!hasE l (x0, x1, x2, x3)) = r := ⟨_, rfl⟩
        have HR := Lib.hid hr
        rw [hr]
        clear hs5 b5 hr d0 d1 d2 d3
        go_wp2_with fail
        refine (allMk_any hb w5).mono ?_
        rintro e w6 ⟨rfl, hw6⟩
        have B56 := show Below w5.heap.size w5 w6 by rw [hw6]; exact below_alloc _ _
        have C6 := Lib.hid (show w6.cell? ⟨w5.heap.size, 0, none⟩ = some (.pointer (some ⟨hb, 0, none⟩)) by rw [hw6]; exact (Box.alloc w5 #[.pointer (some ⟨hb, 0, none⟩)] 52 0 _ rfl).1)
        have S6 := Lib.hid (S5.out.below B56)
        have B6 := Lib.hid (B5.out.trans (B56.mono B5.out.size))
        clear hw6 B56
        go_wp2_with fail
        refine (collect_any w5.heap.size hb _ HLN.out w6 C6.out w3.heap.size S6.out).mono ?_
        rintro e w7 ⟨v, rfl, o7, b7⟩
        have O7 := Lib.hid (own_mono B6.out.size o7)
        have B7 := Lib.hid (B6.out.trans (b7.mono B6.out.size))
        clear o7 b7
        go_wp2
        go_ret2
        exact OwnEB.of ⟨v, rfl, O7.out, B7.out⟩ HPL.out (by rw [HPO.out, HR.out])
end Go.Proofs.YteejabpohnfoaaaDoor

/- MemPut and MemJoin of the model. -/
namespace Go.Proofs.YteejabpohnfoaaaDoor
open Go Go.RowKit

set_option maxRecDepth 100000 in
set_option maxHeartbeats 2000000 in
theorem specMemPut_any (a : Option Addr) (ca : Nat) (l : List EntryD) (x0 : ByteArray) (x1 : Int) (x2 : Bool) (x3 : ByteArray) (w : World) (hlen : l.length ≤ 1048576) (hcap : l.length ≤ ca) (hl : ElS 4 encEntry w a l) (hok : ∀ x ∈ l, OkEntry x) (s0 : x0.size ≤ maxLen) (s3 : x3.size ≤ maxLen) :
    Calls Tryd.prog 10 #[.slice a l.length ca, .agg #[.string x0, .int .i64 x1, .bool x2, .string x3]] w (OwnEB w (putL l (x0, x1, x2, x3)) (putOk l (x0, x1, x2, x3))) := by
  obtain ⟨i0, hi, hz0, hz1, hz2⟩ := info_parts infoEntry
  have HX := Lib.hid hl
  clear hl
  obtain ⟨w1, hw1⟩ : ∃ W, w.alloc (.cells #[.string x0, .int .i64 x1, .bool x2, .string x3] 31) = W := ⟨_, rfl⟩
  have BX := Lib.hid (show Box w1 w.heap.size [.string x0, .int .i64 x1, .bool x2, .string x3] by rw [← hw1]; exact Box.alloc w _ _)
  have B1 := Lib.hid (show Below w.heap.size w w1 by rw [← hw1]; exact below_alloc _ _)
  have KS := Lib.hid (show ∀ W, Below w1.heap.size w1 W → Below w.heap.size w W ∧ W.cell? ⟨w.heap.size, 0, none⟩ = some (.string x0) ∧ W.cell? ⟨w.heap.size, 1, none⟩ = some (.int .i64 x1) ∧ W.cell? ⟨w.heap.size, 2, none⟩ = some (.bool x2) ∧ W.cell? ⟨w.heap.size, 3, none⟩ = some (.string x3) from fun W hb => by
    have q := BX.out.below hb
    exact ⟨B1.out.trans (hb.mono B1.out.size), (q 0 _ rfl).1, (q 1 _ rfl).1, (q 2 _ rfl).1, (q 3 _ rfl).1⟩)
  cases h1 : entsB l with
  | false =>
    have HP := Lib.hid (show putOk l (x0, x1, x2, x3) = false by unfold putOk; rw [h1]; rfl)
    have H1 := Lib.hid h1
    clear h1
    go_enter Tryd.func10, Tryd.ntmps10
    go_wp2_with fail
    clear hw1
    refine (specEntries_any _ _ l _ (HX.out.below B1.out) hok).mono ?_
    rintro e w2 ⟨rfl, b2⟩
    rw [H1.out]
    obtain ⟨B2, d0, d1, d2, d3⟩ := KS.out _ b2
    have HB2 := Lib.hid B2
    clear B2
    have O0 := Lib.hid (World.ownsRow_made (e := 31) (size := 4) w2 #[] 0 (Nat.le_refl _) (by unfold maxLen; omega) rfl)
    have SR := Lib.hid (src_el encEntry_len (by decide) ((HX.out.below HB2.out).below (below_alloc w2 (.cells #[] 31))))
    go_wp2_with (at_builtin; refine wpList_append_src _ rfl _ _ 27 rfl w2.heap.size 31 i0 (.agg #[.string ⟨#[]⟩, .int .i64 0, .bool false, .string ⟨#[]⟩]) 4 48 Tryd.underlying27 hi hz0 hz1 hz2 rfl (by decide) _ 0 [] rfl O0.out a l.length ca (l.flatMap encEntry) rfl SR.out (fun u hu => one_ents hu) (by unfold maxLen; omega) (by omega) (by simp) ?_; intro v2 wz o2 g2 _)
    have BZ := Lib.hid ((HB2.out).trans ((show Below w2.heap.size w2 wz from (below_alloc w2 _).grown g2 (by simp) (fun k hk => (O0.out.lt k hk).1)).mono (HB2.out).size))
    have OZ := Lib.hid (show wz.ownsRow w.heap.size 31 4 v2 l.length (l.flatMap encEntry) from own_mono (HB2.out).size (by have h := o2; rwa [Nat.zero_add, List.nil_append] at h))
    clear o2 g2
    go_wp2
    go_ret2
    exact OwnEB.of ⟨v2, rfl, OZ.out, BZ.out⟩ (putL_no HP.out) HP.out.symm
  | true =>
    have H1 := Lib.hid h1
    have hle := (entsB_at h1).1
    cases h2 : entB (x0, x1, x2, x3) with
    | false =>
      have HP := Lib.hid (show putOk l (x0, x1, x2, x3) = false by unfold putOk; rw [h1, h2]; rfl)
      have H2 := Lib.hid h2
      clear h1 h2
      go_enter Tryd.func10, Tryd.ntmps10
      go_wp2_with fail
      clear hw1
      refine (specEntries_any _ _ l _ (HX.out.below B1.out) hok).mono ?_
      rintro e w2 ⟨rfl, b2⟩
      rw [H1.out]
      obtain ⟨B2, d0, d1, d2, d3⟩ := KS.out _ b2
      have HB2 := Lib.hid B2
      clear B2
      go_wp2_with fail
      refine (specOk_any x0 x1 x2 x3 _ s0 s3).mono ?_
      rintro e w3 ⟨rfl, b3⟩
      rw [H2.out]
      obtain ⟨B3, d0, d1, d2, d3⟩ := KS.out _ (b2.trans (b3.mono b2.size))
      have HB3 := Lib.hid B3
      clear B3 b3 b2
      have O0 := Lib.hid (World.ownsRow_made (e := 31) (size := 4) w3 #[] 0 (Nat.le_refl _) (by unfold maxLen; omega) rfl)
      have SR := Lib.hid (src_el encEntry_len (by decide) ((HX.out.below HB3.out).below (below_alloc w3 (.cells #[] 31))))
      go_wp2_with (at_builtin; refine wpList_append_src _ rfl _ _ 27 rfl w3.heap.size 31 i0 (.agg #[.string ⟨#[]⟩, .int .i64 0, .bool false, .string ⟨#[]⟩]) 4 48 Tryd.underlying27 hi hz0 hz1 hz2 rfl (by decide) _ 0 [] rfl O0.out a l.length ca (l.flatMap encEntry) rfl SR.out (fun u hu => one_ents hu) (by unfold maxLen; omega) (by omega) (by simp) ?_; intro v2 wz o2 g2 _)
      have BZ := Lib.hid ((HB3.out).trans ((show Below w3.heap.size w3 wz from (below_alloc w3 _).grown g2 (by simp) (fun k hk => (O0.out.lt k hk).1)).mono (HB3.out).size))
      have OZ := Lib.hid (show wz.ownsRow w.heap.size 31 4 v2 l.length (l.flatMap encEntry) from own_mono (HB3.out).size (by have h := o2; rwa [Nat.zero_add, List.nil_append] at h))
      clear o2 g2
      go_wp2
      go_ret2
      exact OwnEB.of ⟨v2, rfl, OZ.out, BZ.out⟩ (putL_no HP.out) HP.out.symm
    | true =>
      have H2 := Lib.hid h2
      cases h4 : hasE l (x0, x1, x2, x3) with
      | true =>
        have HP := Lib.hid (show putOk l (x0, x1, x2, x3) = false by unfold putOk; rw [h1, h2, h4]; simp)
        have H4 := Lib.hid h4
        clear h1 h2 h4
        go_enter Tryd.func10, Tryd.ntmps10
        go_wp2_with fail
        clear hw1
        refine (specEntries_any _ _ l _ (HX.out.below B1.out) hok).mono ?_
        rintro e w2 ⟨rfl, b2⟩
        rw [H1.out]
        obtain ⟨B2, d0, d1, d2, d3⟩ := KS.out _ b2
        have HB2 := Lib.hid B2
        clear B2
        go_wp2_with fail
        refine (specOk_any x0 x1 x2 x3 _ s0 s3).mono ?_
        rintro e w3 ⟨rfl, b3⟩
        rw [H2.out]
        obtain ⟨B3, e0, e1, e2, e3⟩ := KS.out _ (b2.trans (b3.mono b2.size))
        have HB3 := Lib.hid B3
        have b13 := b2.trans (b3.mono b2.size)
        clear B3 b3 b2 d0 d1 d2 d3
        go_wp2_with fail
        refine (specHas_any a ca l x0 x1 x2 x3 _ (HX.out.below HB3.out)).mono ?_
        rintro e w4 ⟨rfl, b4⟩
        rw [H4.out]
        have HB4 := Lib.hid (HB3.out.trans (b4.mono HB3.out.size))
        clear b4 b13 e0 e1 e2 e3
        have O0 := Lib.hid (World.ownsRow_made (e := 31) (size := 4) w4 #[] 0 (Nat.le_refl _) (by unfold maxLen; omega) rfl)
        have SR := Lib.hid (src_el encEntry_len (by decide) ((HX.out.below HB4.out).below (below_alloc w4 (.cells #[] 31))))
        go_wp2_with (at_builtin; refine wpList_append_src _ rfl _ _ 27 rfl w4.heap.size 31 i0 (.agg #[.string ⟨#[]⟩, .int .i64 0, .bool false, .string ⟨#[]⟩]) 4 48 Tryd.underlying27 hi hz0 hz1 hz2 rfl (by decide) _ 0 [] rfl O0.out a l.length ca (l.flatMap encEntry) rfl SR.out (fun u hu => one_ents hu) (by unfold maxLen; omega) (by omega) (by simp) ?_; intro v2 wz o2 g2 _)
        have BZ := Lib.hid ((HB4.out).trans ((show Below w4.heap.size w4 wz from (below_alloc w4 _).grown g2 (by simp) (fun k hk => (O0.out.lt k hk).1)).mono (HB4.out).size))
        have OZ := Lib.hid (show wz.ownsRow w.heap.size 31 4 v2 l.length (l.flatMap encEntry) from own_mono (HB4.out).size (by have h := o2; rwa [Nat.zero_add, List.nil_append] at h))
        clear o2 g2
        go_wp2
        go_ret2
        exact OwnEB.of ⟨v2, rfl, OZ.out, BZ.out⟩ (putL_no HP.out) HP.out.symm
      | false =>
        have H4 := Lib.hid h4
        by_cases h3 : l.length = 240
        · have HP := Lib.hid (show putOk l (x0, x1, x2, x3) = false by unfold putOk; rw [h1, h2, h4, decide_eq_false (by omega)]; rfl)
          have i3 : (240 : Int) ≤ (l.length : Int) := by omega
          have I3 := Lib.hid i3
          clear h1 h2 h4 h3 i3
          go_enter Tryd.func10, Tryd.ntmps10
          go_wp2_with fail
          clear hw1
          refine (specEntries_any _ _ l _ (HX.out.below B1.out) hok).mono ?_
          rintro e w2 ⟨rfl, b2⟩
          rw [H1.out]
          obtain ⟨B2, d0, d1, d2, d3⟩ := KS.out _ b2
          clear B2
          go_wp2_with fail
          refine (specOk_any x0 x1 x2 x3 _ s0 s3).mono ?_
          rintro e w3 ⟨rfl, b3⟩
          rw [H2.out]
          obtain ⟨B3, e0, e1, e2, e3⟩ := KS.out _ (b2.trans (b3.mono b2.size))
          have HB3 := Lib.hid B3
          clear B3 b3 b2 d0 d1 d2 d3
          go_wp2_with fail
          refine (specHas_any a ca l x0 x1 x2 x3 _ (HX.out.below HB3.out)).mono ?_
          rintro e w4 ⟨rfl, b4⟩
          rw [H4.out]
          have HB4 := Lib.hid (HB3.out.trans (b4.mono HB3.out.size))
          have i3 := I3.out
          clear b4 e0 e1 e2 e3
          have O0 := Lib.hid (World.ownsRow_made (e := 31) (size := 4) w4 #[] 0 (Nat.le_refl _) (by unfold maxLen; omega) rfl)
          have SR := Lib.hid (src_el encEntry_len (by decide) ((HX.out.below HB4.out).below (below_alloc w4 (.cells #[] 31))))
          go_wp2_with (at_builtin; refine wpList_append_src _ rfl _ _ 27 rfl w4.heap.size 31 i0 (.agg #[.string ⟨#[]⟩, .int .i64 0, .bool false, .string ⟨#[]⟩]) 4 48 Tryd.underlying27 hi hz0 hz1 hz2 rfl (by decide) _ 0 [] rfl O0.out a l.length ca (l.flatMap encEntry) rfl SR.out (fun u hu => one_ents hu) (by unfold maxLen; omega) (by omega) (by simp) ?_; intro v2 wz o2 g2 _)
          have BZ := Lib.hid ((HB4.out).trans ((show Below w4.heap.size w4 wz from (below_alloc w4 _).grown g2 (by simp) (fun k hk => (O0.out.lt k hk).1)).mono (HB4.out).size))
          have OZ := Lib.hid (show wz.ownsRow w.heap.size 31 4 v2 l.length (l.flatMap encEntry) from own_mono (HB4.out).size (by have h := o2; rwa [Nat.zero_add, List.nil_append] at h))
          clear o2 g2
          go_wp2
          go_ret2
          exact OwnEB.of ⟨v2, rfl, OZ.out, BZ.out⟩ (putL_no HP.out) HP.out.symm
        · have HP := Lib.hid (show putOk l (x0, x1, x2, x3) = true by unfold putOk; rw [h1, h2, h4, decide_eq_true (by omega)]; rfl)
          have i3 : ¬ (240 : Int) ≤ (l.length : Int) := by omega
          have I3 := Lib.hid i3
          clear h1 h2 h4 h3 i3
          go_enter Tryd.func10, Tryd.ntmps10
          go_wp2_with fail
          clear hw1
          refine (specEntries_any _ _ l _ (HX.out.below B1.out) hok).mono ?_
          rintro e w2 ⟨rfl, b2⟩
          rw [H1.out]
          obtain ⟨B2, d0, d1, d2, d3⟩ := KS.out _ b2
          clear B2
          go_wp2_with fail
          refine (specOk_any x0 x1 x2 x3 _ s0 s3).mono ?_
          rintro e w3 ⟨rfl, b3⟩
          rw [H2.out]
          obtain ⟨B3, e0, e1, e2, e3⟩ := KS.out _ (b2.trans (b3.mono b2.size))
          have HB3 := Lib.hid B3
          have b13 := Lib.hid (b2.trans (b3.mono b2.size))
          clear B3 b3 b2 d0 d1 d2 d3
          go_wp2_with fail
          refine (specHas_any a ca l x0 x1 x2 x3 _ (HX.out.below HB3.out)).mono ?_
          rintro e w4 ⟨rfl, b4⟩
          rw [H4.out]
          obtain ⟨B4, f0, f1, f2, f3⟩ := KS.out _ (b13.out.trans (b4.mono b13.out.size))
          have HB4 := Lib.hid B4
          have i3 := I3.out
          clear b4 e0 e1 e2 e3 B4
          go_wp2_with fail
          refine (specPut_any a ca l x0 x1 x2 x3 _ hlen hcap (HX.out.below HB4.out)).mono ?_
          rintro e w5 ⟨v, rfl, o5, b5⟩
          have O5 := Lib.hid (own_mono HB4.out.size o5)
          have B5 := Lib.hid (HB4.out.trans (b5.mono HB4.out.size))
          clear o5 b5 f0 f1 f2 f3 i3
          go_wp2
          go_ret2
          exact OwnEB.of ⟨v, rfl, O5.out, B5.out⟩ (putL_yes HP.out) HP.out.symm
end Go.Proofs.YteejabpohnfoaaaDoor

/- MemJoin of both sides. -/
namespace Go.Proofs.YteejabpohnfoaaaDoor
open Go Go.RowKit

def joinOk (a b : List EntryD) : Bool := entsB a && entsB b && entsB (joinE a b)
def joinL (a b : List EntryD) : List EntryD := if joinOk a b = true then joinE a b else []
theorem joinL_no {a b : List EntryD} (h : joinOk a b = false) : [] = joinL a b := by unfold joinL; rw [h]; rfl
theorem joinL_yes {a b : List EntryD} (h : joinOk a b = true) : joinE a b = joinL a b := by unfold joinL; rw [h]; rfl
theorem join_ok {a b : List EntryD} (ha : ∀ x ∈ a, OkEntry x) (hb : ∀ x ∈ b, OkEntry x) : ∀ x ∈ joinE a b, OkEntry x := fun x hx => (joinE_mem hx).elim (hb x) (ha x)
set_option maxRecDepth 100000 in
set_option maxHeartbeats 2000000 in
theorem specJoinE_any (a b : Option Addr) (ca cb : Nat) (l m : List EntryD) (w : World) (hl : ElS 4 encEntry w a l) (hm : ElS 4 encEntry w b m) (h1 : l.length ≤ 240) (h2 : m.length ≤ 240) :
    Calls Tryd.prog 36 #[.slice a l.length ca, .slice b m.length cb] w (OwnE w (joinE l m)) := by
  obtain ⟨i0, hi, hz0, hz1, hz2⟩ := info_parts infoEntry
  have HM := Lib.hid hm
  have O0 := Lib.hid (World.ownsRow_made (e := 31) (size := 4) w #[] 0 (Nat.le_refl _) (by unfold maxLen; omega) rfl)
  have SR := Lib.hid (src_el encEntry_len (by decide) (hl.below (below_alloc w (.cells #[] 31))))
  clear hl hm
  go_enter Tryd.func36, Tryd.ntmps36
  go_wp2_with (at_builtin; refine wpList_append_src _ rfl _ _ 27 rfl w.heap.size 31 i0 (.agg #[.string ⟨#[]⟩, .int .i64 0, .bool false, .string ⟨#[]⟩]) 4 48 Tryd.underlying27 hi hz0 hz1 hz2 rfl (by decide) _ 0 [] rfl O0.out a l.length ca (l.flatMap encEntry) rfl SR.out (fun u hu => one_ents hu) (by unfold maxLen; omega) (by omega) (by simp) ?_; intro v2 w2 o2 g2 _)
  have B2 := Lib.hid (show Below w.heap.size w w2 from (below_alloc w _).grown g2 (by simp) (fun k hk => (O0.out.lt k hk).1))
  have O2 := Lib.hid (show w2.ownsRow w.heap.size 31 4 v2 (joinE l (m.take 0)).length ((joinE l (m.take 0)).flatMap encEntry) by have h := o2; rwa [Nat.zero_add, List.nil_append] at h)
  clear o2 g2
  go_wp2
  go_loopg [5, 6] m.length (fun q v5 v6 wr => ∃ k : Nat, k + q = m.length ∧ v6 = .int .i64 k ∧ wr.ownsRow w.heap.size 31 4 v5 (joinE l (m.take k)).length ((joinE l (m.take k)).flatMap encEntry) ∧ Below w.heap.size w wr)
  case atStart => exact ⟨0, by omega, rfl, O2.out, B2.out⟩
  case round =>
    clear B2 O2 O0 SR
    obtain ⟨k, hk, rfl, ho, hb⟩ := hrel
    obtain ⟨g, cg, rfl⟩ := own_shape ho
    have HK := Lib.hid hk
    have HO := Lib.hid ho
    have HB := Lib.hid hb
    have hJ : (joinE l (m.take k)).length ≤ 480 := by
      have := joinE_len l (m.take k)
      have := List.length_take_le k m
      omega
    clear hk ho hb
    by_cases hlt : k < m.length
    · have hm0 : m ≠ [] := fun e => by rw [e] at hlt; simp at hlt
      obtain ⟨ba, oa, rfl, hc⟩ := HM.out.2.resolve_left hm0
      obtain ⟨c0, c1, c2, c3⟩ := cellsEntry HB.out hc k hlt
      have i1 : (k : Int) < (m.length : Int) := by omega
      have i2 : (0 : Int) ≤ (k : Int) := by omega
      have HC := Lib.hid hc
      have HJ := Lib.hid (joinE_take (L := l) hlt)
      have KC := Lib.hid (show ∀ W, Below w.heap.size w W → _ from fun W hW => cellsEntry hW hc k hlt)
      obtain ⟨J, hJe⟩ : ∃ J, joinE l (m.take k) = J := ⟨_, rfl⟩
      rw [hJe] at HO HJ hJ
      rw [hJe]
      obtain ⟨⟨x0, x1, x2, x3⟩, hx⟩ : ∃ x, m[k] = x := ⟨_, rfl⟩
      rw [hx] at c0 c1 c2 c3 HJ KC
      dsimp only at c0 c1 c2 c3 KC
      clear hc hx hm0 hJe
      go_wp2_with fail
      refine (specHas_any _ _ J x0 x1 x2 x3 _ (own_el encEntry_len (by unfold maxLen; omega) HO.out)).mono ?_
      rintro e w3 ⟨rfl, b3⟩
      have B3 := Lib.hid (HB.out.trans (b3.mono HB.out.size))
      have O3 := Lib.hid (own_below HO.out b3)
      clear c0 c1 c2 c3 b3
      cases hh : hasE J (x0, x1, x2, x3) with
      | true =>
        have HN := Lib.hid (show joinE l (m.take (k + 1)) = J by rw [HJ.out]; unfold addE; rw [if_pos hh])
        clear hh
        go_wp2
        go_roundg (gk - 1)
        case measure => have := HK.out; omega
        case rel => exact ⟨k + 1, by have := HK.out; omega, by go_num, by rw [HN.out]; exact O3.out, B3.out⟩
      | false =>
        have HN := Lib.hid (show joinE l (m.take (k + 1)) = putE J (x0, x1, x2, x3) by rw [HJ.out]; unfold addE; rw [if_neg (by rw [hh]; exact Bool.false_ne_true)])
        obtain ⟨c0, c1, c2, c3⟩ := KC.out _ B3.out
        clear hh
        go_wp2_with fail
        refine (specPut_any _ _ J x0 x1 x2 x3 _ (by omega) (own_cap O3.out) (own_el encEntry_len (by unfold maxLen; omega) O3.out)).mono ?_
        rintro e w4 ⟨v, rfl, o4, b4⟩
        have B4 := Lib.hid (B3.out.trans (b4.mono B3.out.size))
        have O4 := Lib.hid (own_mono B3.out.size o4)
        clear c0 c1 c2 c3 o4 b4
        go_wp2
        go_roundg (gk - 1)
        case measure => have := HK.out; omega
        case rel => exact ⟨k + 1, by have := HK.out; omega, by go_num, by rw [HN.out]; exact O4.out, B4.out⟩
    · have hke : k = m.length := by have := HK.out; omega
      have i1 : ¬ (k : Int) < (m.length : Int) := by omega
      have HF := Lib.hid (show joinE l (m.take k) = joinE l m by rw [List.take_of_length_le (by omega)])
      clear hke
      go_wp2
      go_ret
      exact ⟨_, rfl, by rw [← HF.out]; exact HO.out, HB.out⟩
set_option maxRecDepth 100000 in
set_option maxHeartbeats 2000000 in
theorem specMemJoin_any (a b : Option Addr) (ca cb : Nat) (l m : List EntryD) (w : World) (hl : ElS 4 encEntry w a l) (hm : ElS 4 encEntry w b m) (hok : ∀ x ∈ l, OkEntry x) (hok2 : ∀ x ∈ m, OkEntry x) :
    Calls Tryd.prog 17 #[.slice a l.length ca, .slice b m.length cb] w (OwnEB w (joinL l m) (joinOk l m)) := by
  have HX := Lib.hid hl
  have HM := Lib.hid hm
  clear hl hm
  cases h1 : entsB l with
  | false =>
    have HP := Lib.hid (show joinOk l m = false by unfold joinOk; rw [h1]; rfl)
    have H1 := Lib.hid h1
    clear h1
    go_enter Tryd.func17, Tryd.ntmps17
    go_wp2_with fail
    refine (specEntries_any _ _ l _ HX.out hok).mono ?_
    rintro e w2 ⟨rfl, b2⟩
    rw [H1.out]
    have B2 := Lib.hid b2
    clear b2
    go_wp2
    go_ret2
    exact OwnEB.of (L := []) ⟨.slice (some ⟨w2.heap.size, 0, none⟩) 0 0, rfl, own_lit0 w2 31 4 w2.heap.size rfl B2.out.size, B2.out.alloc B2.out.size _⟩ (joinL_no HP.out) HP.out.symm
  | true =>
    have H1 := Lib.hid h1
    have hle := (entsB_at h1).1
    cases h2 : entsB m with
    | false =>
      have HP := Lib.hid (show joinOk l m = false by unfold joinOk; rw [h1, h2]; rfl)
      have H2 := Lib.hid h2
      clear h1 h2
      go_enter Tryd.func17, Tryd.ntmps17
      go_wp2_with fail
      refine (specEntries_any _ _ l _ HX.out hok).mono ?_
      rintro e w2 ⟨rfl, b2⟩
      rw [H1.out]
      have B2 := Lib.hid b2
      clear b2
      go_wp2_with fail
      refine (specEntries_any _ _ m _ (HM.out.below B2.out) hok2).mono ?_
      rintro e w3 ⟨rfl, b3⟩
      rw [H2.out]
      have B3 := Lib.hid (B2.out.trans (b3.mono B2.out.size))
      clear b3
      go_wp2
      go_ret2
      exact OwnEB.of (L := []) ⟨.slice (some ⟨w3.heap.size, 0, none⟩) 0 0, rfl, own_lit0 w3 31 4 w3.heap.size rfl B3.out.size, B3.out.alloc B3.out.size _⟩ (joinL_no HP.out) HP.out.symm
    | true =>
      have H2 := Lib.hid h2
      have hme := (entsB_at h2).1
      have HJO := Lib.hid (show joinOk l m = entsB (joinE l m) by unfold joinOk; rw [h1, h2]; rfl)
      have hJ : (joinE l m).length ≤ 480 := by have := joinE_len l m; omega
      have HOK := Lib.hid (join_ok hok hok2)
      clear h1 h2
      obtain ⟨J, hJe⟩ : ∃ J, joinE l m = J := ⟨_, rfl⟩
      rw [hJe] at HJO hJ HOK
      have HJE := Lib.hid hJe
      clear hJe
      go_enter Tryd.func17, Tryd.ntmps17
      go_wp2_with fail
      refine (specEntries_any _ _ l _ HX.out hok).mono ?_
      rintro e w2 ⟨rfl, b2⟩
      rw [H1.out]
      have B2 := Lib.hid b2
      clear b2
      go_wp2_with fail
      refine (specEntries_any _ _ m _ (HM.out.below B2.out) hok2).mono ?_
      rintro e w3 ⟨rfl, b3⟩
      rw [H2.out]
      have B3 := Lib.hid (B2.out.trans (b3.mono B2.out.size))
      clear b3
      go_wp2_with fail
      refine (specJoinE_any _ _ ca cb l m _ (HX.out.below B3.out) (HM.out.below B3.out) hle hme).mono ?_
      rw [HJE.out]
      rintro e w4 ⟨v, rfl, o4, b4⟩
      obtain ⟨g, cg, rfl⟩ := own_shape o4
      have B4 := Lib.hid (B3.out.trans (b4.mono B3.out.size))
      have O4 := Lib.hid (own_mono B3.out.size o4)
      clear o4 b4
      go_wp2_with fail
      refine (specEntries_any _ _ J _ (own_el encEntry_len (by unfold maxLen; omega) O4.out) HOK.out).mono ?_
      rintro e w5 ⟨rfl, b5⟩
      have B5 := Lib.hid (B4.out.trans (b5.mono B4.out.size))
      have O5 := Lib.hid (own_below O4.out b5)
      clear b5
      cases h5 : entsB J with
      | false =>
        have HP := Lib.hid (show joinOk l m = false by rw [HJO.out, h5])
        clear h5
        go_wp2
        go_ret2
        exact OwnEB.of (L := []) ⟨.slice (some ⟨w5.heap.size, 0, none⟩) 0 0, rfl, own_lit0 w5 31 4 w5.heap.size rfl B5.out.size, B5.out.alloc B5.out.size _⟩ (joinL_no HP.out) HP.out.symm
      | true =>
        have HP := Lib.hid (show joinOk l m = true by rw [HJO.out, h5])
        clear h5
        go_wp2
        go_ret2
        exact OwnEB.of ⟨_, rfl, O5.out, B5.out⟩ (by rw [← HJE.out]; exact joinL_yes HP.out) HP.out.symm
set_option maxRecDepth 100000 in
set_option maxHeartbeats 2000000 in
theorem implMemJoin_any (a b : Option Addr) (ca cb : Nat) (l m : List EntryD) (w : World) (hl : ElS 4 encEntry w a l) (hm : ElS 4 encEntry w b m) (hok : ∀ x ∈ l, OkEntry x) (hok2 : ∀ x ∈ m, OkEntry x) (ht : HashT w) :
    Calls Tryd.prog 18 #[.slice a l.length ca, .slice b m.length cb] w (OwnEB w (joinL l m) (joinOk l m)) := by
  have HX := Lib.hid hl
  have HM := Lib.hid hm
  have HT := Lib.hid ht
  clear hl hm ht
  cases h1 : entsB l with
  | false =>
    have HP := Lib.hid (show joinOk l m = false by unfold joinOk; rw [h1]; rfl)
    have H1 := Lib.hid h1
    clear h1
    go_enter Tryd.func18, Tryd.ntmps18
    go_wp2_with fail
    refine (implEntries_any _ _ l _ HX.out hok).mono ?_
    rintro e w2 ⟨rfl, b2⟩
    rw [H1.out]
    have B2 := Lib.hid b2
    clear b2
    go_wp2
    go_ret2
    exact OwnEB.of (L := []) ⟨.slice none 0 0, rfl, World.ownsRow_nil _ _ _ _, B2.out⟩ (joinL_no HP.out) HP.out.symm
  | true =>
    have H1 := Lib.hid h1
    have hle := (entsB_at h1).1
    cases h2 : entsB m with
    | false =>
      have HP := Lib.hid (show joinOk l m = false by unfold joinOk; rw [h1, h2]; rfl)
      have H2 := Lib.hid h2
      clear h1 h2
      go_enter Tryd.func18, Tryd.ntmps18
      go_wp2_with fail
      refine (implEntries_any _ _ l _ HX.out hok).mono ?_
      rintro e w2 ⟨rfl, b2⟩
      rw [H1.out]
      have B2 := Lib.hid b2
      clear b2
      go_wp2_with fail
      refine (implEntries_any _ _ m _ (HM.out.below B2.out) hok2).mono ?_
      rintro e w3 ⟨rfl, b3⟩
      rw [H2.out]
      have B3 := Lib.hid (B2.out.trans (b3.mono B2.out.size))
      clear b3
      go_wp2
      go_ret2
      exact OwnEB.of (L := []) ⟨.slice none 0 0, rfl, World.ownsRow_nil _ _ _ _, B3.out⟩ (joinL_no HP.out) HP.out.symm
    | true =>
      have H2 := Lib.hid h2
      have hme := (entsB_at h2).1
      have HJO := Lib.hid (show joinOk l m = entsB (joinE l m) by unfold joinOk; rw [h1, h2]; rfl)
      have hJ : (joinE l m).length ≤ 480 := by have := joinE_len l m; omega
      have HOK := Lib.hid (join_ok hok hok2)
      have HSL := Lib.hid (srt_of h1)
      have HZ := Lib.hid (ent_size h2)
      clear h2
      go_enter Tryd.func18, Tryd.ntmps18
      go_wp2_with fail
      refine (implEntries_any _ _ l _ HX.out hok).mono ?_
      rintro e w2 ⟨rfl, b2⟩
      rw [H1.out]
      have B2 := Lib.hid b2
      clear b2
      go_wp2_with fail
      refine (implEntries_any _ _ m _ (HM.out.below B2.out) hok2).mono ?_
      rintro e w3 ⟨rfl, b3⟩
      rw [H2.out]
      have B3 := Lib.hid (B2.out.trans (b3.mono B2.out.size))
      clear b3
      go_wp2_with fail
      refine (start_any a ca l _ (HX.out.below B3.out) h1 (HT.out.below B3.out)).mono ?_
      rintro e w4 ⟨hb, rfl, hs4, b4⟩
      have S4 := Lib.hid (show SkipL w3.heap.size hb w4 (joinE l (m.take 0)) from hs4)
      have B4 := Lib.hid (B3.out.trans (b4.mono B3.out.size))
      have Z3 := Lib.hid B3.out.size
      have Z4 := Lib.hid b4.size
      clear hs4 b4 h1
      go_wp2
      go_loopg [22] m.length (fun q v22 wr => ∃ k : Nat, k + q = m.length ∧ v22 = .int .i64 k ∧ SkipL w3.heap.size hb wr (joinE l (m.take k)) ∧ Below w.heap.size w wr ∧ w3.heap.size ≤ wr.heap.size)
      case atStart => exact ⟨0, by omega, rfl, S4.out, B4.out, Z4.out⟩
      case round =>
        clear B4 S4
        obtain ⟨k, hk, rfl, hs, hbw, hz⟩ := hrel
        have HK := Lib.hid hk
        have HS := Lib.hid hs
        have HB := Lib.hid hbw
        have HZ3 := Lib.hid hz
        clear hk hs hbw hz
        by_cases hlt : k < m.length
        · have hm0 : m ≠ [] := fun e => by rw [e] at hlt; simp at hlt
          obtain ⟨ba, oa, rfl, hc⟩ := HM.out.2.resolve_left hm0
          obtain ⟨c0, c1, c2, c3⟩ := cellsEntry HB.out hc k hlt
          have i1 : (k : Int) < (m.length : Int) := by omega
          have i2 : (0 : Int) ≤ (k : Int) := by omega
          have HMZ := Lib.hid (HZ.out m[k] (List.getElem_mem _))
          have HJ := Lib.hid (joinE_take (L := l) hlt)
          obtain ⟨⟨x0, x1, x2, x3⟩, hx⟩ : ∃ x, m[k] = x := ⟨_, rfl⟩
          rw [hx] at c0 c1 c2 c3 HMZ HJ
          dsimp only at c0 c1 c2 c3 HMZ
          clear hc hx hm0
          go_wp2_with fail
          have SK := Lib.hid (HS.out.below (below_alloc wr (.cells #[.string x0, .int .i64 x1, .bool x2, .string x3] 31)))
          have BB := Lib.hid (HB.out.alloc HB.out.size (.cells #[.string x0, .int .i64 x1, .bool x2, .string x3] 31))
          have ZZ := Lib.hid (show w3.heap.size ≤ (wr.alloc (.cells #[.string x0, .int .i64 x1, .bool x2, .string x3] 31)).heap.size by rw [World.size_alloc]; have := HZ3.out; omega)
          refine (put_list w3.heap.size hb _ x0 x1 x2 x3 _ ZZ.out SK.out (srt_join HSL.out _) (by have := HMZ.out; omega) (HT.out.below BB.out)).mono ?_
          rintro en w5 ⟨rfl, hs5, b5⟩
          have S5 := Lib.hid hs5
          have B5 := Lib.hid (BB.out.trans (b5.mono Z3.out))
          have Z5 := Lib.hid (Nat.le_trans ZZ.out b5.size)
          clear hs5 b5 c0 c1 c2 c3
          go_wp2
          go_roundg (gk - 1)
          case measure => have := HK.out; omega
          case rel => exact ⟨k + 1, by have := HK.out; omega, by go_num, by rw [HJ.out]; exact S5.out, B5.out, Z5.out⟩
        · have hke : k = m.length := by have := HK.out; omega
          have i1 : ¬ (k : Int) < (m.length : Int) := by omega
          have S6 := Lib.hid (show SkipL w3.heap.size hb wr (joinE l m) by have h := HS.out; rwa [List.take_of_length_le (by omega)] at h)
          clear hke HS
          obtain ⟨J, hJe⟩ : ∃ J, joinE l m = J := ⟨_, rfl⟩
          rw [hJe] at HJO hJ HOK S6
          have HJE := Lib.hid hJe
          clear hJe
          go_wp2_with fail
          refine (allMk_any hb wr).mono ?_
          rintro e w6 ⟨rfl, hw6⟩
          have B56 := show Below wr.heap.size wr w6 by rw [hw6]; exact below_alloc _ _
          have C6 := Lib.hid (show w6.cell? ⟨wr.heap.size, 0, none⟩ = some (.pointer (some ⟨hb, 0, none⟩)) by rw [hw6]; exact (Box.alloc wr #[.pointer (some ⟨hb, 0, none⟩)] 52 0 _ rfl).1)
          have S7 := Lib.hid (S6.out.below B56)
          have B6 := Lib.hid (HB.out.trans (B56.mono HB.out.size))
          clear hw6 B56
          go_wp2_with fail
          refine (collect_any wr.heap.size hb J (by omega) w6 C6.out w3.heap.size S7.out).mono ?_
          rintro e w7 ⟨v, rfl, o7, b7⟩
          obtain ⟨g, cg, rfl⟩ := own_shape o7
          have O7 := Lib.hid (own_mono B6.out.size o7)
          have B7 := Lib.hid (B6.out.trans (b7.mono B6.out.size))
          clear o7 b7
          go_wp2_with fail
          refine (implEntries_any _ _ J _ (own_el encEntry_len (by unfold maxLen; omega) O7.out) HOK.out).mono ?_
          rintro e w8 ⟨rfl, b8⟩
          have B8 := Lib.hid (B7.out.trans (b8.mono B7.out.size))
          have O8 := Lib.hid (own_below O7.out b8)
          clear b8
          cases h5 : entsB J with
          | false =>
            have HP := Lib.hid (show joinOk l m = false by rw [HJO.out, h5])
            clear h5
            go_wp2
            go_ret2
            exact OwnEB.of (L := []) ⟨.slice none 0 0, rfl, World.ownsRow_nil _ _ _ _, B8.out⟩ (joinL_no HP.out) HP.out.symm
          | true =>
            have HP := Lib.hid (show joinOk l m = true by rw [HJO.out, h5])
            clear h5
            go_wp2
            go_ret2
            exact OwnEB.of ⟨_, rfl, O8.out, B8.out⟩ (by rw [← HJE.out]; exact joinL_yes HP.out) HP.out.symm
end Go.Proofs.YteejabpohnfoaaaDoor
