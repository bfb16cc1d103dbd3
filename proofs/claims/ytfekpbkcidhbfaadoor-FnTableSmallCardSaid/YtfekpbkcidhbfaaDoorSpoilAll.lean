import Derived.Test.YtfekpbkcidhbfaaDoorGet
import Derived.Test.YtfekpbkcidhbfaaDoorShape
import Derived.OwnWalk
import Derived.Laws.OwnMore
import Derived.WalkSpells
import Derived.Test.YtfekpbkcidhbfaaDoorKept
import Derived.RangeFuncBox
import Derived.RangeFuncLeaves
import Derived.Shelf.Abstract
import Derived.OwnWalkIn
import Derived.TacticsInMore
import Derived.LoopNIn
import Derived.LoopIn
import Derived.Maps.AppendAt
import Derived.RangeFuncNested
import Derived.Test.YtfekpbkcidhbfaaDoorApp
import Derived.Test.YtfekpbkcidhbfaaDoorDrawKeyE
import Derived.Test.YtfekpbkcidhbfaaDoorDec
import Derived.Test.YtfekpbkcidhbfaaDoorMany
/- slices.BinarySearchFunc over entries. -/
namespace Go.Proofs.YtfekpbkcidhbfaaDoor
open Go Go.RowKit

end Go.Proofs.YtfekpbkcidhbfaaDoor

/- MemGet of the program and of the specification. -/
namespace Go.Proofs.YtfekpbkcidhbfaaDoor
open Go Go.RowKit

end Go.Proofs.YtfekpbkcidhbfaaDoor

/- MemGet of the program and of the specification. -/
namespace Go.Proofs.YtfekpbkcidhbfaaDoor
open Go Go.RowKit

theorem bel_drewN {B : Nat} {w w' : World} (h : Below B w w') (n : Nat) : Below B w (w'.drewN n) := h.trans ⟨rfl, rfl, rfl, Nat.le_refl _, fun _ _ => rfl⟩

/-- what MemGet answers, of entries that may be not ok -/
def getVV (l : List EntryD) (key : ByteArray) (seq : Int) : ByteArray := if entsB l = true then getV l key seq else ⟨#[]⟩
def getBB (l : List EntryD) (key : ByteArray) (seq : Int) : Bool := if entsB l = true then getB l key seq else false
theorem ret_getNo {l : List EntryD} {key : ByteArray} {seq : Int} (h : entsB l = false) : Ending.returned (.tuple #[.string ⟨#[]⟩, .bool false]) = .returned (.tuple #[.string (getVV l key seq), .bool (getBB l key seq)]) := by
  unfold getVV getBB; rw [h]; rfl
theorem ret_getNone {l : List EntryD} {key : ByteArray} {seq : Int} (h : entsB l = true) (g : getE l key seq = none) : Ending.returned (.tuple #[.string ⟨#[]⟩, .bool false]) = .returned (.tuple #[.string (getVV l key seq), .bool (getBB l key seq)]) := by
  unfold getVV getBB; unfold getV getB; rw [h, g]; rfl
theorem ret_getSome {l : List EntryD} {key : ByteArray} {seq : Int} {x : EntryD} (h : entsB l = true) (g : getE l key seq = some x) : Ending.returned (.tuple #[.string x.2.2.2, .bool !x.2.2.1]) = .returned (.tuple #[.string (getVV l key seq), .bool (getBB l key seq)]) := by
  unfold getVV getBB; unfold getV getB; rw [h, g]; rfl

end Go.Proofs.YtfekpbkcidhbfaaDoor

/- MemTrim of the specification. -/
namespace Go.Proofs.YtfekpbkcidhbfaaDoor
open Go Go.RowKit

theorem cellsNew (w : World) (cs : List Value) (e : TypeId) : ∀ j u, cs[j]? = some u → (w.alloc (.cells cs.toArray e)).cell? ((⟨w.heap.size, 0, none⟩ : Addr).add j) = some u := by
  intro j u h
  rw [addr_add, Nat.zero_add]
  exact (Box.alloc w cs.toArray e j u (by simpa using h)).1
theorem cellsNew2 (w : World) (o : Obj) (cs : List Value) (e : TypeId) : ∀ j u, cs[j]? = some u → ((w.alloc o).alloc (.cells cs.toArray e)).cell? ((⟨w.heap.size + 1, 0, none⟩ : Addr).add j) = some u := by
  have h := cellsNew (w.alloc o) cs e
  simpa using h
theorem lastOk_zero (l : List EntryD) (floor : Int) : lastOk l floor 0 ⟨#[]⟩ := by simp [lastOk]
theorem entB_key {e : EntryD} (h : entB e = true) : e.1 ≠ ⟨#[]⟩ := by
  intro q
  have : e = (e.1, e.2.1, e.2.2.1, e.2.2.2) := rfl
  rw [this, entB_eq, q] at h
  simp only [Bool.and_eq_true, keyB, inB, decide_eq_true_eq] at h
  have h1 := h.1.1.1.2.1
  exact absurd h1 (by decide)
theorem ents_ne {l : List EntryD} (h : entsB l = true) : ∀ j (hj : j < l.length), l[j].1 ≠ ⟨#[]⟩ := fun j hj => entB_key ((entsB_at h).2.1 j hj)
theorem trim_skip {l : List EntryD} {floor : Int} {bottom : Bool} {k : Nat} (h : k < l.length) (hk : keepB l floor bottom k = false) : trimTo l floor bottom (k + 1) = trimTo l floor bottom k := by
  rw [trimTo_succ l floor bottom k h, hk]; simp
theorem trim_take {l : List EntryD} {floor : Int} {bottom : Bool} {k : Nat} (h : k < l.length) (hk : keepB l floor bottom k = true) : trimTo l floor bottom (k + 1) = trimTo l floor bottom k ++ [l[k]] := by
  rw [trimTo_succ l floor bottom k h, hk]; simp
theorem keepB_eq {l : List EntryD} {floor : Int} {bottom : Bool} {k : Nat} (h : k < l.length) : keepB l floor bottom k = (!hidB l k floor && !(bottom && l[k].2.2.1 && decide (l[k].2.1 ≤ floor))) := by
  simp [keepB, List.getElem?_eq_getElem h]
theorem enc_len (l : List EntryD) : (l.flatMap encEntry).length = l.length * 4 := flat_len encEntry_len l

/-- what MemTrim answers, of entries that may be not ok -/
def trimV (l : List EntryD) (floor : Int) (bottom : Bool) : List EntryD := if entsB l = true then trimL l floor bottom else []
theorem trimV_no {l : List EntryD} {floor : Int} {bottom : Bool} (h : entsB l = false) : trimV l floor bottom = [] := by unfold trimV; rw [h]; rfl
theorem trimV_yes {l : List EntryD} {floor : Int} {bottom : Bool} (h : entsB l = true) : trimV l floor bottom = trimL l floor bottom := by unfold trimV; rw [if_pos h]

/-- A list of entries that a call hands back, in memory of its own. -/
def OwnE (w : World) (L : List EntryD) (e : Ending) (w' : World) : Prop := ∃ v, e = .returned v ∧ w'.ownsRow w.heap.size 32 4 v L.length (L.flatMap encEntry) ∧ Below w.heap.size w w'

end Go.Proofs.YtfekpbkcidhbfaaDoor

/- MemTrim of the program. -/
namespace Go.Proofs.YtfekpbkcidhbfaaDoor
open Go Go.RowKit

theorem hid_zero {l : List EntryD} {floor : Int} {k : Nat} (h : k = 0) : hidB l k floor = false := by subst h; simp [hidB]
theorem hid_succ {l : List EntryD} {floor : Int} {k m : Nat} (hk : k < l.length) (hm : k = m + 1) : hidB l k floor = (decide ((l[m]'(by omega)).1 = l[k].1) && decide ((l[m]'(by omega)).2.1 ≤ floor)) := by
  subst hm
  simp [hidB, List.getElem?_eq_getElem (show m < l.length by omega), List.getElem?_eq_getElem hk]

theorem own_drewN {w : World} {base : Nat} {e : TypeId} {m : Nat} {v : Value} {n : Nat} {xs : List Value} (h : w.ownsRow base e m v n xs) (q : Nat) : (w.drewN q).ownsRow base e m v n xs := own_below h (bel_drewN (Below.refl _ _) q)
theorem cellsNew3 (w : World) (o : Obj) (n : Nat) (cs : List Value) (e : TypeId) : ∀ j u, cs[j]? = some u → (((w.alloc o).drewN n).alloc (.cells cs.toArray e)).cell? ((⟨w.heap.size + 1, 0, none⟩ : Addr).add j) = some u := by
  have h := cellsNew ((w.alloc o).drewN n) cs e
  simpa using h

theorem trimV_len (l : List EntryD) (floor : Int) (bottom : Bool) : (trimV l floor bottom).length ≤ 240 := by
  unfold trimV
  split
  · next h =>
    have h1 := trimTo_len l floor bottom l.length (Nat.le_refl _)
    have h2 := (entsB_at h).1
    unfold trimL; omega
  · simp
theorem trimV_mem {l : List EntryD} {floor : Int} {bottom : Bool} {x : EntryD} (h : x ∈ trimV l floor bottom) : x ∈ l := by
  unfold trimV at h
  split at h
  · unfold trimL trimTo at h
    rw [List.mem_flatMap] at h
    obtain ⟨j, hj, hx⟩ := h
    split at hx
    · rw [Option.mem_toList] at hx
      exact List.mem_of_getElem? hx
    · simp at hx
  · simp at h
end Go.Proofs.YtfekpbkcidhbfaaDoor

/- What many keys have at a moment: plain words and their laws. -/
namespace Go.Proofs.YtfekpbkcidhbfaaDoor
open Go Go.RowKit

theorem bl_pre : ∀ p t : List UInt8, Op.bytesLess (p ++ t) p = false
  | [], t => by cases t <;> rfl
  | c :: p, t => by
    have ih := bl_pre p t
    simp [Op.bytesLess, ih]
theorem bl_mid : ∀ p t x : List UInt8, Op.bytesLess x p = false → Op.bytesLess (p ++ t) x = false → ∃ u, x = p ++ u
  | [], _, x, _, _ => ⟨x, rfl⟩
  | c :: p, t, [], h, _ => by simp [Op.bytesLess] at h
  | c :: p, t, d :: x, h1, h2 => by
    simp only [List.cons_append, Op.bytesLess, Bool.or_eq_false_iff, decide_eq_false_iff_not, Bool.and_eq_false_iff, beq_eq_false_iff_ne] at h1 h2
    have hcd : c = d := UInt8.le_antisymm (UInt8.not_lt.1 h1.1) (UInt8.not_lt.1 h2.1)
    subst hcd
    obtain ⟨u, hu⟩ := bl_mid p t x (h1.2.resolve_left (fun k => k rfl)) (h2.2.resolve_left (fun k => k rfl))
    exact ⟨u, by rw [hu]; rfl⟩

/-- text s begins with text pre -/
def startsB (s pre : ByteArray) : Bool := decide (s.data.toList.take pre.size = pre.data.toList)
theorem starts_iff {s pre : ByteArray} : startsB s pre = true ↔ ∃ t, s.toList = pre.toList ++ t := by
  rw [ByteArray.toList_eq, ByteArray.toList_eq]
  unfold startsB
  rw [decide_eq_true_eq]
  constructor
  · intro h
    exact ⟨s.data.toList.drop pre.size, by rw [← h, List.take_append_drop]⟩
  · rintro ⟨t, h⟩
    rw [h, List.take_left' (by simp)]
theorem starts_nil (s : ByteArray) : startsB s ⟨#[]⟩ = true := decide_eq_true rfl
theorem starts_ge {s pre : ByteArray} (h : startsB s pre = true) : ltS s pre = false := by
  obtain ⟨t, ht⟩ := starts_iff.1 h
  unfold ltS
  rw [ht]
  exact bl_pre _ _
theorem starts_mid {x y pre : ByteArray} (h1 : ltS x pre = false) (h2 : ltS y x = false) (h : startsB y pre = true) : startsB x pre = true := by
  obtain ⟨t, ht⟩ := starts_iff.1 h
  unfold ltS at h1 h2
  rw [ht] at h2
  exact starts_iff.2 (bl_mid _ _ _ h1 h2)

/-- what each key has, key by key; told: the key that was told last -/
def seenR (seq : Int) : ByteArray → List EntryD → List EntryD
  | _, [] => []
  | told, e :: l => if decide (seq < e.2.1) || decide (e.1 = told) then seenR seq told l else if e.2.2.1 then seenR seq e.1 l else e :: seenR seq e.1 l
/-- the same, of keys that begin so -/
def scanR (pre : ByteArray) (seq : Int) : ByteArray → List EntryD → List EntryD
  | _, [] => []
  | last, e :: l => if decide (seq < e.2.1) || decide (e.1 = last) || !startsB e.1 pre then scanR pre seq last l else if e.2.2.1 then scanR pre seq e.1 l else e :: scanR pre seq e.1 l

theorem seenR_mem {seq : Int} {x : EntryD} : ∀ {m : List EntryD} {told : ByteArray}, x ∈ seenR seq told m → x ∈ m
  | [], _, h => by simp [seenR] at h
  | e :: m, told, h => by
    unfold seenR at h
    split at h
    · exact List.mem_cons_of_mem _ (seenR_mem h)
    · split at h
      · exact List.mem_cons_of_mem _ (seenR_mem h)
      · rcases List.mem_cons.1 h with h | h
        · rw [h]; exact List.mem_cons_self
        · exact List.mem_cons_of_mem _ (seenR_mem h)
theorem scanR_mem {pre : ByteArray} {seq : Int} {x : EntryD} : ∀ {m : List EntryD} {told : ByteArray}, x ∈ scanR pre seq told m → x ∈ m
  | [], _, h => by simp [scanR] at h
  | e :: m, told, h => by
    unfold scanR at h
    split at h
    · exact List.mem_cons_of_mem _ (scanR_mem h)
    · split at h
      · exact List.mem_cons_of_mem _ (scanR_mem h)
      · rcases List.mem_cons.1 h with h | h
        · rw [h]; exact List.mem_cons_self
        · exact List.mem_cons_of_mem _ (scanR_mem h)
theorem seenR_len (seq : Int) : ∀ (m : List EntryD) (told : ByteArray), (seenR seq told m).length ≤ m.length
  | [], _ => by simp [seenR]
  | e :: m, told => by
    have h1 := seenR_len seq m told
    have h2 := seenR_len seq m e.1
    unfold seenR
    split
    · simp; omega
    · split <;> simp <;> omega
theorem scanR_len (pre : ByteArray) (seq : Int) : ∀ (m : List EntryD) (told : ByteArray), (scanR pre seq told m).length ≤ m.length
  | [], _ => by simp [scanR]
  | e :: m, told => by
    have h1 := scanR_len pre seq m told
    have h2 := scanR_len pre seq m e.1
    unfold scanR
    split
    · simp; omega
    · split <;> simp <;> omega
theorem scanR_skip {pre : ByteArray} {seq : Int} : ∀ (l m : List EntryD) (told : ByteArray), (∀ e ∈ l, startsB e.1 pre = false) → scanR pre seq told (l ++ m) = scanR pre seq told m
  | [], _, _, _ => rfl
  | e :: l, m, told, h => by
    rw [List.cons_append]
    unfold scanR
    rw [if_pos (by simp [h e List.mem_cons_self])]
    rw [scanR_skip l m told (fun x hx => h x (List.mem_cons_of_mem _ hx))]
    cases m <;> rfl
theorem take_none {α : Type} {p : α → Bool} : ∀ {l : List α}, (∀ x ∈ l, p x = false) → l.takeWhile p = []
  | [], _ => rfl
  | x :: l, h => by simp [h x List.mem_cons_self]

/-- in order, as a list -/
def PW (l : List EntryD) : Prop := l.Pairwise (fun a b => lessB a b = true)
theorem pw_of {l : List EntryD} (h : ∀ j (hj : j + 1 < l.length), lessB (l[j]'(by omega)) l[j+1] = true) : PW l :=
  List.pairwise_iff_getElem.2 fun i j _ hj hij => sorted_lt h i j hij hj
theorem less_key {a b : EntryD} (h : lessB a b = true) : ltS b.1 a.1 = false := by
  simp only [lessB, Bool.or_eq_true, Bool.and_eq_true, decide_eq_true_eq] at h
  rcases h with h | h
  · exact ltS_asymm h
  · rw [h.1]; exact ltS_irrefl _

theorem seen_no {seq : Int} {told : ByteArray} {e : EntryD} {m : List EntryD} (h : (decide (seq < e.2.1) || decide (e.1 = told)) = true) : seenR seq told (e :: m) = seenR seq told m := by rw [seenR, if_pos h]
theorem seen_yes {seq : Int} {told : ByteArray} {e : EntryD} {m : List EntryD} (h : ¬ (decide (seq < e.2.1) || decide (e.1 = told)) = true) : seenR seq told (e :: m) = if e.2.2.1 then seenR seq e.1 m else e :: seenR seq e.1 m := by rw [seenR, if_neg h]
theorem scan_no {pre : ByteArray} {seq : Int} {told : ByteArray} {e : EntryD} {m : List EntryD} (h : (decide (seq < e.2.1) || decide (e.1 = told) || !startsB e.1 pre) = true) : scanR pre seq told (e :: m) = scanR pre seq told m := by rw [scanR, if_pos h]
theorem scan_yes {pre : ByteArray} {seq : Int} {told : ByteArray} {e : EntryD} {m : List EntryD} (h : ¬ (decide (seq < e.2.1) || decide (e.1 = told) || !startsB e.1 pre) = true) : scanR pre seq told (e :: m) = if e.2.2.1 then scanR pre seq e.1 m else e :: scanR pre seq e.1 m := by rw [scanR, if_neg h]
theorem seen_take {pre : ByteArray} {seq : Int} : ∀ (m : List EntryD) (told : ByteArray), PW m → (∀ e ∈ m, ltS e.1 pre = false) →
    (seenR seq told m).takeWhile (fun e => startsB e.1 pre) = scanR pre seq told m
  | [], _, _, _ => rfl
  | e :: m, told, hs, hp => by
    obtain ⟨hs1, hs2⟩ := List.pairwise_cons.1 hs
    have hm : ∀ x ∈ m, ltS x.1 pre = false := fun x hx => hp x (List.mem_cons_of_mem _ hx)
    by_cases h1 : (decide (seq < e.2.1) || decide (e.1 = told)) = true
    · rw [seen_no h1, scan_no (by rw [h1]; rfl)]
      exact seen_take m told hs2 hm
    · cases h2 : startsB e.1 pre with
      | true =>
        have h3 : ¬ (decide (seq < e.2.1) || decide (e.1 = told) || !startsB e.1 pre) = true := by rw [h2, Bool.not_true, Bool.or_false]; exact h1
        rw [seen_yes h1, scan_yes h3]
        have ih := seen_take (pre := pre) (seq := seq) m e.1 hs2 hm
        cases hd : e.2.2.1 with
        | true => rw [if_pos rfl, if_pos rfl]; exact ih
        | false => rw [if_neg Bool.false_ne_true, if_neg Bool.false_ne_true, List.takeWhile_cons, h2, if_pos rfl, ih]
      | false =>
        have h3 : (decide (seq < e.2.1) || decide (e.1 = told) || !startsB e.1 pre) = true := by rw [h2]; simp
        have hno : ∀ x ∈ m, startsB x.1 pre = false := fun x hx => by
          cases hc : startsB x.1 pre with
          | false => rfl
          | true => rw [starts_mid (hp e List.mem_cons_self) (less_key (hs1 x hx)) hc] at h2; cases h2
        have hnil : scanR pre seq told m = [] := by
          have := scanR_skip (seq := seq) m [] told hno
          rw [List.append_nil] at this
          rw [this]; rfl
        rw [scan_no h3, hnil]
        apply take_none
        intro x hx
        rcases List.mem_cons.1 (seenR_mem hx) with rfl | hx
        · exact h2
        · exact hno x hx

/-- all that stands ahead of a beginning's place does not begin so -/
theorem scan_place {l : List EntryD} {pre : ByteArray} {seq : Int} {p : Nat} (hs : ∀ j (hj : j + 1 < l.length), lessB (l[j]'(by omega)) l[j+1] = true) (hok : ∀ j (hj : j < l.length), l[j].2.1 ≤ 99999999)
    (h1 : ∀ r (hr : r < l.length), r < p → lessB l[r] (tgt pre 99999999) = true) (h2 : ∀ r (hr : r < l.length), p ≤ r → lessB l[r] (tgt pre 99999999) = false) :
    (seenR seq ⟨#[]⟩ (l.drop p)).takeWhile (fun e => startsB e.1 pre) = scanR pre seq ⟨#[]⟩ l := by
  have hpw := pw_of hs
  rw [seen_take]
  · conv => rhs; rw [← List.take_append_drop p l]
    rw [scanR_skip]
    intro e he
    obtain ⟨j, hj, rfl⟩ := List.getElem_of_mem he
    simp only [List.length_take] at hj
    rw [List.getElem_take]
    have h := h1 j (by omega) (by omega)
    rw [lessB_tgt] at h
    have hq := hok j (by omega)
    cases hc : startsB l[j].1 pre with
    | false => rfl
    | true =>
      have := starts_ge hc
      simp only [Bool.or_eq_true, this, Bool.false_eq_true, false_or, Bool.and_eq_true, decide_eq_true_eq] at h
      omega
  · exact hpw.drop
  · intro e he
    obtain ⟨j, hj, rfl⟩ := List.getElem_of_mem he
    simp only [List.length_drop] at hj
    rw [List.getElem_drop]
    have h := h2 (p + j) (by omega) (by omega)
    rw [lessB_tgt] at h
    simp only [Bool.or_eq_false_iff] at h
    exact h.1

/-- what MemScan answers, of entries that may be not ok -/
def scanV (l : List EntryD) (pre : ByteArray) (seq : Int) : List EntryD := if entsB l = true then scanR pre seq ⟨#[]⟩ l else []
theorem scanV_no {l : List EntryD} {pre : ByteArray} {seq : Int} (h : entsB l = false) : scanV l pre seq = [] := by unfold scanV; rw [h]; rfl
theorem scanV_yes {l : List EntryD} {pre : ByteArray} {seq : Int} (h : entsB l = true) : scanV l pre seq = scanR pre seq ⟨#[]⟩ l := by unfold scanV; rw [if_pos h]
theorem scanV_len (l : List EntryD) (pre : ByteArray) (seq : Int) : (scanV l pre seq).length ≤ 240 := by
  cases h : entsB l with
  | false => rw [scanV_no h]; simp
  | true => rw [scanV_yes h]; exact Nat.le_trans (scanR_len _ _ _ _) (entsB_at h).1
theorem scanV_mem {l : List EntryD} {pre : ByteArray} {seq : Int} {x : EntryD} (hx : x ∈ scanV l pre seq) : x ∈ l := by
  cases h : entsB l with
  | false => rw [scanV_no h] at hx; simp at hx
  | true => rw [scanV_yes h] at hx; exact scanR_mem hx
end Go.Proofs.YtfekpbkcidhbfaaDoor

/- Entries with one more: plain words. -/
namespace Go.Proofs.YtfekpbkcidhbfaaDoor
open Go Go.RowKit

theorem span_at {α : Type} (p : α → Bool) : ∀ (l : List α) (k : Nat), (∀ x ∈ l.take k, p x = true) → (∀ h : k < l.length, p l[k] = false) → l.takeWhile p = l.take k ∧ l.dropWhile p = l.drop k
  | [], k, _, _ => by simp
  | x :: l, 0, _, h => by
    have := h (by simp)
    simp only [List.getElem_cons_zero] at this
    simp [this]
  | x :: l, k + 1, h1, h2 => by
    have hx : p x = true := h1 x (by simp)
    obtain ⟨g1, g2⟩ := span_at p l k (fun y hy => h1 y (by simp [hy])) (fun h => by have := h2 (by simpa using h); simpa using this)
    simp [hx, g1, g2]

/-- entries with one more in its place -/
def putE (l : List EntryD) (e : EntryD) : List EntryD := l.takeWhile (fun x => lessB x e) ++ e :: l.dropWhile (fun x => lessB x e)
theorem putE_at {l : List EntryD} {e : EntryD} {k : Nat} (h1 : ∀ x ∈ l.take k, lessB x e = true) (h2 : ∀ h : k < l.length, lessB l[k] e = false) : putE l e = (l.take k ++ [e]) ++ l.drop k := by
  obtain ⟨g1, g2⟩ := span_at (fun x => lessB x e) l k h1 h2
  unfold putE
  rw [g1, g2, List.append_assoc]
  rfl
theorem putE_len (l : List EntryD) (e : EntryD) : (putE l e).length = l.length + 1 := by
  have h := congrArg List.length (List.takeWhile_append_dropWhile (p := fun x => lessB x e) (l := l))
  rw [List.length_append] at h
  unfold putE
  rw [List.length_append, List.length_cons]
  omega
theorem putE_mem {l : List EntryD} {e x : EntryD} (h : x ∈ putE l e) : x = e ∨ x ∈ l := by
  unfold putE at h
  rcases List.mem_append.1 h with h | h
  · exact .inr ((List.takeWhile_sublist _).subset h)
  · rcases List.mem_cons.1 h with h | h
    · exact .inl h
    · exact .inr ((List.dropWhile_sublist _).subset h)
/-- whether there is an entry of that key and moment -/
def isE (e x : EntryD) : Bool := decide (x.1 = e.1) && decide (x.2.1 = e.2.1)
def hasE (l : List EntryD) (e : EntryD) : Bool := l.any (isE e)
theorem hasE_yes {l : List EntryD} {e : EntryD} {k : Nat} (h : k < l.length) (hp : isE e l[k] = true) : hasE l e = true := List.any_eq_true.2 ⟨_, List.getElem_mem _, hp⟩
theorem hasE_no {l : List EntryD} {e : EntryD} {k : Nat} (hk : l.length ≤ k) (h : (l.take k).any (isE e) = false) : hasE l e = false := by rwa [List.take_of_length_le hk] at h
theorem any_take_succ {l : List EntryD} {p : EntryD → Bool} {k : Nat} (hk : k < l.length) (h : (l.take k).any p = false) (hp : p l[k] = false) : (l.take (k+1)).any p = false := by
  rw [List.take_succ_eq_append_getElem hk, List.any_append, h]
  simp [hp]
theorem all_take_succ {l : List EntryD} {p : EntryD → Bool} {k : Nat} (hk : k < l.length) (h : ∀ x ∈ l.take k, p x = true) (hp : p l[k] = true) : ∀ x ∈ l.take (k+1), p x = true := by
  rw [List.take_succ_eq_append_getElem hk]
  intro x hx
  rcases List.mem_append.1 hx with hx | hx
  · exact h x hx
  · rw [List.mem_singleton.1 hx]; exact hp
end Go.Proofs.YtfekpbkcidhbfaaDoor

/- MemScan of the specification; how a text begins. -/
namespace Go.Proofs.YtfekpbkcidhbfaaDoor
open Go Go.RowKit

theorem starts_cut {s pre : ByteArray} : ((s.extract 0 pre.size).toList == pre.toList) = startsB s pre := by
  rw [ByteArray.toList_eq, ByteArray.toList_eq, Lib.extract_data]
  by_cases h : s.data.toList.take pre.size = pre.data.toList <;> simp [startsB, h]
theorem starts_short {s pre : ByteArray} (h : ¬ pre.size ≤ s.size) : startsB s pre = false := by
  unfold startsB
  rw [decide_eq_false_iff_not]
  intro e
  have := congrArg List.length e
  simp at this
  omega

theorem flat_snoc {l : List EntryD} (e : EntryD) : (l ++ [e]).flatMap encEntry = l.flatMap encEntry ++ encEntry e := by rw [List.flatMap_append]; simp

/-- what is told ahead of the rest -/
theorem scan_step_no {pre : ByteArray} {seq : Int} {told : ByteArray} {l out : List EntryD} {k : Nat} (hk : k < l.length) (h : (decide (seq < l[k].2.1) || decide (l[k].1 = told) || !startsB l[k].1 pre) = true)
    (he : out ++ scanR pre seq told (l.drop k) = scanR pre seq ⟨#[]⟩ l) : out ++ scanR pre seq told (l.drop (k + 1)) = scanR pre seq ⟨#[]⟩ l := by
  rw [List.drop_eq_getElem_cons hk, scan_no h] at he; exact he
theorem scan_step_dead {pre : ByteArray} {seq : Int} {told : ByteArray} {l out : List EntryD} {k : Nat} (hk : k < l.length) (h : (decide (seq < l[k].2.1) || decide (l[k].1 = told) || !startsB l[k].1 pre) = false) (hd : l[k].2.2.1 = true)
    (he : out ++ scanR pre seq told (l.drop k) = scanR pre seq ⟨#[]⟩ l) : out ++ scanR pre seq l[k].1 (l.drop (k + 1)) = scanR pre seq ⟨#[]⟩ l := by
  rw [List.drop_eq_getElem_cons hk, scan_yes (by rw [h]; exact Bool.false_ne_true), if_pos hd] at he; exact he
theorem scan_step_live {pre : ByteArray} {seq : Int} {told : ByteArray} {l out : List EntryD} {k : Nat} (hk : k < l.length) (h : (decide (seq < l[k].2.1) || decide (l[k].1 = told) || !startsB l[k].1 pre) = false) (hd : l[k].2.2.1 = false)
    (he : out ++ scanR pre seq told (l.drop k) = scanR pre seq ⟨#[]⟩ l) : (out ++ [l[k]]) ++ scanR pre seq l[k].1 (l.drop (k + 1)) = scanR pre seq ⟨#[]⟩ l := by
  rw [List.drop_eq_getElem_cons hk, scan_yes (by rw [h]; exact Bool.false_ne_true), if_neg (by rw [hd]; exact Bool.false_ne_true)] at he
  rw [List.append_assoc]; exact he

end Go.Proofs.YtfekpbkcidhbfaaDoor

/- What each key has, told one by one: the program's iterator. -/
namespace Go.Proofs.YtfekpbkcidhbfaaDoor
open Go Go.RowKit Go.Shelf

attribute [local go_sem] Oper.semAt_some

def encA (x : EntryD) : Array Value := #[.agg #[.string x.1, .int .i64 x.2.1, .bool x.2.2.1, .string x.2.2.2]]

theorem seen_step_no {seq : Int} {told : ByteArray} {l out : List EntryD} {k : Nat} (hk : k < l.length) (h : (decide (seq < l[k].2.1) || decide (l[k].1 = told)) = true)
    (he : out ++ seenR seq told (l.drop k) = seenR seq ⟨#[]⟩ l) : out ++ seenR seq told (l.drop (k + 1)) = seenR seq ⟨#[]⟩ l := by
  rw [List.drop_eq_getElem_cons hk, seen_no h] at he; exact he
theorem seen_step_dead {seq : Int} {told : ByteArray} {l out : List EntryD} {k : Nat} (hk : k < l.length) (h : (decide (seq < l[k].2.1) || decide (l[k].1 = told)) = false) (hd : l[k].2.2.1 = true)
    (he : out ++ seenR seq told (l.drop k) = seenR seq ⟨#[]⟩ l) : out ++ seenR seq l[k].1 (l.drop (k + 1)) = seenR seq ⟨#[]⟩ l := by
  rw [List.drop_eq_getElem_cons hk, seen_yes (by rw [h]; exact Bool.false_ne_true), if_pos hd] at he; exact he
theorem seen_step_live {seq : Int} {told : ByteArray} {l out : List EntryD} {k : Nat} (hk : k < l.length) (h : (decide (seq < l[k].2.1) || decide (l[k].1 = told)) = false) (hd : l[k].2.2.1 = false)
    (he : out ++ seenR seq told (l.drop k) = seenR seq ⟨#[]⟩ l) : (out ++ [l[k]]) ++ seenR seq l[k].1 (l.drop (k + 1)) = seenR seq ⟨#[]⟩ l := by
  rw [List.drop_eq_getElem_cons hk, seen_yes (by rw [h]; exact Bool.false_ne_true), if_neg (by rw [hd]; exact Bool.false_ne_true)] at he
  rw [List.append_assoc]; exact he

theorem cellsEntryK {T : Nat → Prop} {w wr : World} {b o : Nat} {l : List EntryD} (hb : KeptOut T w wr) (hT : ¬ T b) (hc : ∀ j, (h : j < l.length) → ∀ i v, (encEntry l[j])[i]? = some v → w.cell? ⟨b, o + j * 4 + i, none⟩ = some v) (k : Nat) (h : k < l.length) :
    wr.cell? ⟨b, o + k * 4, none⟩ = some (.string l[k].1) ∧ wr.cell? ⟨b, o + k * 4 + 1, none⟩ = some (.int .i64 l[k].2.1) ∧ wr.cell? ⟨b, o + k * 4 + 2, none⟩ = some (.bool l[k].2.2.1) ∧ wr.cell? ⟨b, o + k * 4 + 3, none⟩ = some (.string l[k].2.2.2) := by
  have g : ∀ i v, (encEntry l[k])[i]? = some v → wr.cell? ⟨b, o + k * 4 + i, none⟩ = some v := fun i v hv => by
    have h0 := hc k h i v hv
    rw [hb.cell (by have := World.block_lt_of_cell? w _ h0; simpa using this) hT]
    exact h0
  exact ⟨g 0 _ rfl, g 1 _ rfl, g 2 _ rfl, g 3 _ rfl⟩

end Go.Proofs.YtfekpbkcidhbfaaDoor

/- MemScan of the program. -/
namespace Go.Proofs.YtfekpbkcidhbfaaDoor
open Go Go.RowKit Go.Shelf

attribute [local go_sem] Oper.semAt_some

theorem els_drop {w : World} {a : Option Addr} {l : List EntryD} (p : Nat) (h : ElS 4 encEntry w a l) : ElS 4 encEntry w (a.map (fun x => x.add (p * 4))) (l.drop p) := by
  refine ⟨Nat.le_trans (by rw [List.length_drop]; omega) h.1, ?_⟩
  rcases h.2 with rfl | ⟨b, o, rfl, hc⟩
  · exact .inl (by simp)
  · refine .inr ⟨b, o + p * 4, by simp [addr_add], fun j hj i v hv => ?_⟩
    rw [List.length_drop] at hj
    have := hc (p + j) (by omega) i v (by rwa [List.getElem_drop] at hv)
    rw [← this]
    congr 2
    rw [Nat.add_mul]; omega
theorem els_lt {w : World} {a : Option Addr} {l : List EntryD} (h : ElS 4 encEntry w a l) (hn : l ≠ []) : ∀ k, a.map Addr.block = some k → k < w.heap.size := by
  obtain ⟨b, o, rfl, hc⟩ := h.2.resolve_left hn
  rintro k e
  obtain rfl : b = k := by simpa using e
  have := hc 0 (List.length_pos_iff.2 hn) 0 _ rfl
  have := World.block_lt_of_cell? w _ this
  simpa using this
theorem take_allS {l : List EntryD} {pre : ByteArray} (h : ∀ x ∈ l, startsB x.1 pre = true) : l.takeWhile (fun e => startsB e.1 pre) = l := by
  induction l with
  | nil => rfl
  | cons x l ih => rw [List.takeWhile_cons, h x List.mem_cons_self, if_pos rfl, ih (fun y hy => h y (List.mem_cons_of_mem _ hy))]
theorem take_stopS {q : List EntryD} {x : EntryD} {l : List EntryD} {pre : ByteArray} (hp : q ++ [x] <+: l) (h : ∀ y ∈ q, startsB y.1 pre = true) (hx : startsB x.1 pre = false) : l.takeWhile (fun e => startsB e.1 pre) = q := by
  obtain ⟨t, rfl⟩ := hp
  induction q with
  | nil => simp [hx]
  | cons y q ih => rw [List.cons_append, List.cons_append, List.takeWhile_cons, h y List.mem_cons_self, if_pos rfl, ih (fun z hz => h z (List.mem_cons_of_mem _ hz))]
/-- between two rounds -/
def InvS (w : World) (pre : ByteArray) (Bs n2 : Nat) (s : List EntryD) (W : World) : Prop :=
  ((∃ v, Boxed W Bs 25 v ∧ W.ownsRow n2 32 4 v s.length (s.flatMap encEntry) ∧ True) ∧ W.cell? ⟨w.heap.size, 0, none⟩ = some (.string pre)) ∧ ((∀ x ∈ s, startsB x.1 pre = true) ∧ Below w.heap.size w W) ∧ n2 ≤ W.heap.size
theorem invS_own (w : World) (pre : ByteArray) (Bs n2 B : Nat) (hB : w.heap.size ≤ B) : OwnFrom B (InvS w pre Bs n2) :=
  OwnFrom.and (OwnFrom.and (Own.from (holdsRow_own (β := List EntryD) n2 Bs 25 32 4 (fun s => s.length) (fun s => s.flatMap encEntry) (fun _ _ => True)) _) (Own.from (fun _ _ _ _ hs hg hr => cell_kept hs hg hr) _))
    (OwnFrom.and (OwnFrom.and (ownFrom_pure _ _) (ownFrom_below (Nat.le_refl _) hB)) (fun _ _ _ _ hs hg _ => Nat.le_trans hs hg.size))

theorem box_two (w w1 : World) (pre : ByteArray) (t : TypeId) (o : Obj) (b1 : Below (w.alloc (.cells #[.string pre] t)).heap.size (w.alloc (.cells #[.string pre] t)) w1) :
    (w1.alloc o).cell? ⟨w.heap.size, 0, none⟩ = some (.string pre) ∧ (w1.alloc o).frozen? ⟨w.heap.size, 0, none⟩ = false :=
  (((Box.alloc w #[.string pre] t).below b1).below (below_alloc w1 o)) 0 _ rfl

end Go.Proofs.YtfekpbkcidhbfaaDoor

/- Entries with one more, by the specification. -/
namespace Go.Proofs.YtfekpbkcidhbfaaDoor
open Go Go.RowKit

theorem below_app {B : Nat} {w0 W w1 : World} {g n c : Nat} (h : Below B w0 W) (hB : B ≤ W.heap.size) (hg : W.grownBy w1 (Value.slice (some ⟨g, 0, none⟩) n c).ownBlock) (hk : B ≤ g) : Below B w0 w1 :=
  h.grown hg hB (fun k e => by
    have e2 : g = k := Option.some.inj e
    omega)
theorem own_lit0 {base : Nat} (W : World) (e : TypeId) (size g : Nat) (hg : g = W.heap.size) (h : base ≤ W.heap.size) : (W.alloc (.cells #[] e)).ownsRow base e size (.slice (some ⟨g, 0, none⟩) 0 0) 0 [] := by
  subst hg
  exact World.ownsRow_lit W #[] 0 h (by unfold maxLen; omega) (by simp)
theorem src_lit' (W : World) (cs : List Value) (e : TypeId) (m size g : Nat) (hg : g = W.heap.size) (h : cs.length = m * size) : SrcS (W.alloc (.cells cs.toArray e)) size (some ⟨g, 0, none⟩) m cs := by
  subst hg
  exact ⟨h, .inr ⟨W.heap.size, 0, rfl, fun j u hu => by have := cellsNew W cs e j u hu; rwa [addr_add] at this⟩⟩
theorem one_ents {l : List EntryD} {u : Value} (hu : u ∈ l.flatMap encEntry) : u.oneCell' = true := by
  rw [List.mem_flatMap] at hu
  obtain ⟨x, _, hx⟩ := hu
  simp only [encEntry, List.mem_cons, List.not_mem_nil, or_false] at hx
  rcases hx with rfl | rfl | rfl | rfl <;> rfl
theorem els_take {w : World} {a : Option Addr} {l : List EntryD} (p : Nat) (h : ElS 4 encEntry w a l) : ElS 4 encEntry w a (l.take p) := by
  refine ⟨Nat.le_trans (by rw [List.length_take]; omega) h.1, ?_⟩
  rcases h.2 with rfl | ⟨b, o, rfl, hc⟩
  · exact .inl (by simp)
  · refine .inr ⟨b, o, rfl, fun j hj i v hv => ?_⟩
    rw [List.length_take] at hj
    exact hc j (by omega) i v (by rwa [List.getElem_take] at hv)
theorem els_nil_of {w : World} {a : Option Addr} {l : List EntryD} (h : l = []) : ElS 4 encEntry w a l := by
  subst h
  exact ⟨by simp, .inl rfl⟩

set_option maxRecDepth 100000 in
set_option maxHeartbeats 800000 in
theorem specHas_any (a : Option Addr) (ca : Nat) (l : List EntryD) (x0 : ByteArray) (x1 : Int) (x2 : Bool) (x3 : ByteArray) (w : World) (hl : ElS 4 encEntry w a l) :
    Calls Tryd.prog 54 #[.slice a l.length ca, .agg #[.string x0, .int .i64 x1, .bool x2, .string x3]] w fun e w' => e = .returned (.bool (hasE l (x0, x1, x2, x3))) ∧ Below w.heap.size w w' := by
  obtain ⟨hl1, hl⟩ := hl
  unfold maxLen at hl1
  rcases hl with rfl | ⟨ba, oa, rfl, hca⟩
  · go_enter Tryd.func54, Tryd.ntmps54
    go_wp2
    refine wp_loop_rounds 1 ?_
    rw [rounds_succ]
    go_wp2
    go_ret
    exact ⟨rfl, (by repeat (first | exact Below.refl _ _ | (refine Below.alloc ?_ (by first | (simp; done) | (simp; omega)) _) | (refine Below.setCell ?_ (by first | (simp; done) | (simp; omega)) _) | (refine Below.drew ?_)))⟩
  · have HC := Lib.hid hca
    clear hca
    obtain ⟨E, hE⟩ : ∃ E : EntryD, E = (x0, x1, x2, x3) := ⟨_, rfl⟩
    rw [← hE]
    have HE := Lib.hid hE
    clear hE
    go_enter Tryd.func54, Tryd.ntmps54
    go_wp2
    go_loopw [5] (fun i wr => ∃ k : Nat, k ≤ l.length ∧ i = .int .i64 k ∧ (l.take k).any (isE E) = false ∧ Box wr w.heap.size [.string x0, .int .i64 x1, .bool x2, .string x3] ∧ Below w.heap.size w wr) (fun i _ => l.length - (intOf i).toNat)
    case atStart => exact ⟨0, Nat.zero_le _, rfl, by simp, Box.alloc _ _ _, (by repeat (first | exact Below.refl _ _ | (refine Below.alloc ?_ (by first | (simp; done) | (simp; omega)) _) | (refine Below.setCell ?_ (by first | (simp; done) | (simp; omega)) _) | (refine Below.drew ?_)))⟩
    case round =>
      obtain ⟨k, hk, rfl, hto, hbx, hbel⟩ := hrel
      have HT := Lib.hid hto
      have HX := Lib.hid hbx
      obtain ⟨⟨y0, f0⟩, ⟨y1, f1⟩, ⟨y2, f2⟩, y3, f3⟩ := show _ ∧ _ ∧ _ ∧ _ from ⟨hbx 0 _ rfl, hbx 1 _ rfl, hbx 2 _ rfl, hbx 3 _ rfl⟩
      clear hto hbx
      by_cases hlt : k < l.length
      · obtain ⟨c0, c1, c2, c3⟩ := cellsEntry hbel HC.out k hlt
        have hk0 : (0 : Int) ≤ (k : Int) := by omega
        have hkn : (k : Int) < (l.length : Int) := by omega
        by_cases e : l[k].1 = x0
        · have q1 : (l[k].1.toList == x0.toList) = true := by rw [e]; simp
          by_cases g : l[k].2.1 = x1
          · have g1 : (l[k].2.1 == x1) = true := by rw [g]; simp
            have HN := Lib.hid (show hasE l E = true from hasE_yes hlt (by rw [HE.out]; simp [isE, e, g]))
            clear e g
            go_wp2
            go_quiet (fail)
            go_wp2
            go_ret
            exact ⟨ret_bool (by rw [HN.out]), bel_drewN hbel _⟩
          · have g1 : (l[k].2.1 == x1) = false := by simp [g]
            have HN := Lib.hid (any_take_succ hlt HT.out (show isE E l[k] = false by rw [HE.out]; simp [isE, g]))
            clear e g
            go_wp2
            go_quiet (fail)
            go_wp2
            go_roundw
            case rel => exact ⟨k + 1, by omega, by go_num, HN.out, HX.out.below (bel_drewN (Below.refl _ _) _), bel_drewN hbel _⟩
            case measure => simp [intOf]; omega
        · have q1 := eqL_no e
          have HN := Lib.hid (any_take_succ hlt HT.out (show isE E l[k] = false by rw [HE.out]; simp [isE, e]))
          clear e
          go_wp2
          go_quiet (fail)
          go_wp2
          go_roundw
          case rel => exact ⟨k + 1, by omega, by go_num, HN.out, HX.out.below (bel_drewN (Below.refl _ _) _), bel_drewN hbel _⟩
          case measure => simp [intOf]; omega
      · have HN := Lib.hid (show hasE l E = false from hasE_no (k := k) (by omega) HT.out)
        go_wp2
        go_ret
        exact ⟨ret_bool (by rw [HN.out]), hbel⟩

set_option maxRecDepth 100000 in
set_option maxHeartbeats 1600000 in
theorem specPut_any (a : Option Addr) (ca : Nat) (l : List EntryD) (x0 : ByteArray) (x1 : Int) (x2 : Bool) (x3 : ByteArray) (w : World) (hn : l.length ≤ 1048576) (hcap : l.length ≤ ca) (hl : ElS 4 encEntry w a l) :
    Calls Tryd.prog 55 #[.slice a l.length ca, .agg #[.string x0, .int .i64 x1, .bool x2, .string x3]] w (OwnE w (putE l (x0, x1, x2, x3))) := by
  obtain ⟨i0, hi, hz0, hz1, hz2⟩ := info_parts infoEntry
  have HX := Lib.hid hl
  clear hl
  obtain ⟨E, hE⟩ : ∃ E : EntryD, E = (x0, x1, x2, x3) := ⟨_, rfl⟩
  rw [← hE]
  have HE := Lib.hid hE
  clear hE
  go_enter Tryd.func55, Tryd.ntmps55
  go_wp2
  go_loopw [5] (fun i wr => ∃ k : Nat, k ≤ l.length ∧ i = .int .i64 k ∧ (∀ x ∈ l.take k, lessB x E = true) ∧ Box wr w.heap.size [.string x0, .int .i64 x1, .bool x2, .string x3] ∧ Below w.heap.size w wr) (fun i _ => l.length - (intOf i).toNat)
  case atStart => exact ⟨0, Nat.zero_le _, rfl, by simp, Box.alloc _ _ _, (by repeat (first | exact Below.refl _ _ | (refine Below.alloc ?_ (by first | (simp; done) | (simp; omega)) _) | (refine Below.setCell ?_ (by first | (simp; done) | (simp; omega)) _) | (refine Below.drew ?_)))⟩
  case round =>
    obtain ⟨k, hk, rfl, hto, hbx, hbel⟩ := hrel
    have HT := Lib.hid hto
    have HBX := Lib.hid hbx
    obtain ⟨⟨y0, f0⟩, ⟨y1, f1⟩, ⟨y2, f2⟩, y3, f3⟩ := show _ ∧ _ ∧ _ ∧ _ from ⟨hbx 0 _ rfl, hbx 1 _ rfl, hbx 2 _ rfl, hbx 3 _ rfl⟩
    clear hto hbx
    by_cases hgo : ∃ h : k < l.length, lessB l[k] E = true
    · obtain ⟨hlt, hle⟩ := hgo
      obtain ⟨ba, oa, rfl, hca⟩ := HX.out.2.resolve_left (by intro e; subst e; simp at hlt)
      have HC := Lib.hid hca
      clear hca
      obtain ⟨c0, c1, c2, c3⟩ := cellsEntry hbel HC.out k hlt
      have hk0 : (0 : Int) ≤ (k : Int) := by omega
      have hkn : (k : Int) < (l.length : Int) := by omega
      have hd : decide (k < l.length) = true := decide_eq_true hlt
      have HN := Lib.hid (all_take_succ hlt HT.out hle)
      have HL := Lib.hid (show lessB (l[k].1, l[k].2.1, l[k].2.2.1, l[k].2.2.2) (x0, x1, x2, x3) = true by rw [← HE.out]; exact hle)
      clear hle
      go_wp2
      go_region_held3 (fun w' => w'.cell? ⟨ba, oa + k * 4, none⟩ = some (.string l[k].1) ∧ w'.cell? ⟨ba, oa + k * 4 + 1, none⟩ = some (.int .i64 l[k].2.1) ∧ w'.cell? ⟨ba, oa + k * 4 + 2, none⟩ = some (.bool l[k].2.2.1) ∧ w'.cell? ⟨ba, oa + k * 4 + 3, none⟩ = some (.string l[k].2.2.2) ∧ w'.cell? ⟨w.heap.size, 0, none⟩ = some (.string x0) ∧ w'.cell? ⟨w.heap.size, 1, none⟩ = some (.int .i64 x1) ∧ w'.cell? ⟨w.heap.size, 2, none⟩ = some (.bool x2) ∧ w'.cell? ⟨w.heap.size, 3, none⟩ = some (.string x3)) (first | exact ⟨c0, c1, c2, c3, y0, y1, y2, y3⟩ | exact ⟨(cellsEntry bel1 HC.out k hlt).1, (cellsEntry bel1 HC.out k hlt).2.1, (cellsEntry bel1 HC.out k hlt).2.2.1, (cellsEntry bel1 HC.out k hlt).2.2.2, (HX1.out 0 _ rfl).1, (HX1.out 1 _ rfl).1, (HX1.out 2 _ rfl).1, (HX1.out 3 _ rfl).1⟩)
        (first | (go_at_call 40; refine (specLess_any l[k].1 l[k].2.1 l[k].2.2.1 l[k].2.2.2 x0 x1 x2 x3 _).mono ?_; rintro e w1 ⟨rfl, hb1⟩; rw [HL.out]; have bel1 : Below w.heap.size w w1 := hbel.drew.trans (hb1.mono hbel.size); have HX1 := Lib.hid ((HBX.out.below ((Below.refl _ _).drew.trans hb1)) : Box w1 w.heap.size [.string x0, .int .i64 x1, .bool x2, .string x3])))
      go_wp2
      go_roundw
      case rel => exact ⟨k + 1, by omega, by go_num, HN.out, HX1.out, bel1⟩
      case measure => simp [intOf]; omega
    · have HP := Lib.hid (putE_at HT.out (fun h => by cases hc : lessB l[k] E with
        | false => rfl
        | true => exact absurd ⟨h, hc⟩ hgo))
      by_cases hlt : k < l.length
      · have hle : lessB l[k] E = false := by cases hc : lessB l[k] E with
          | false => rfl
          | true => exact absurd ⟨hlt, hc⟩ hgo
        obtain ⟨ba, oa, rfl, hca⟩ := HX.out.2.resolve_left (by intro e; subst e; simp at hlt)
        have HC := Lib.hid hca
        clear hca
        obtain ⟨c0, c1, c2, c3⟩ := cellsEntry hbel HC.out k hlt
        have hk0 : (0 : Int) ≤ (k : Int) := by omega
        have hkn : (k : Int) < (l.length : Int) := by omega
        have hd : decide (k < l.length) = true := decide_eq_true hlt
        have HL := Lib.hid (show lessB (l[k].1, l[k].2.1, l[k].2.2.1, l[k].2.2.2) (x0, x1, x2, x3) = false by rw [← HE.out]; exact hle)
        clear hle hgo
        go_wp2
        go_region_held3 (fun w' => w'.cell? ⟨ba, oa + k * 4, none⟩ = some (.string l[k].1) ∧ w'.cell? ⟨ba, oa + k * 4 + 1, none⟩ = some (.int .i64 l[k].2.1) ∧ w'.cell? ⟨ba, oa + k * 4 + 2, none⟩ = some (.bool l[k].2.2.1) ∧ w'.cell? ⟨ba, oa + k * 4 + 3, none⟩ = some (.string l[k].2.2.2) ∧ w'.cell? ⟨w.heap.size, 0, none⟩ = some (.string x0) ∧ w'.cell? ⟨w.heap.size, 1, none⟩ = some (.int .i64 x1) ∧ w'.cell? ⟨w.heap.size, 2, none⟩ = some (.bool x2) ∧ w'.cell? ⟨w.heap.size, 3, none⟩ = some (.string x3)) (first | exact ⟨c0, c1, c2, c3, y0, y1, y2, y3⟩ | exact ⟨(cellsEntry bel1 HC.out k hlt).1, (cellsEntry bel1 HC.out k hlt).2.1, (cellsEntry bel1 HC.out k hlt).2.2.1, (cellsEntry bel1 HC.out k hlt).2.2.2, (HX1.out 0 _ rfl).1, (HX1.out 1 _ rfl).1, (HX1.out 2 _ rfl).1, (HX1.out 3 _ rfl).1⟩)
          (first | (go_at_call 40; refine (specLess_any l[k].1 l[k].2.1 l[k].2.2.1 l[k].2.2.2 x0 x1 x2 x3 _).mono ?_; rintro e w1 ⟨rfl, hb1⟩; rw [HL.out]; have bel1 : Below w.heap.size w w1 := hbel.drew.trans (hb1.mono hbel.size); have HX1 := Lib.hid ((HBX.out.below ((Below.refl _ _).drew.trans hb1)) : Box w1 w.heap.size [.string x0, .int .i64 x1, .bool x2, .string x3])))
        go_wp2
        have B00 := bel1
        have HB0 := HX1
        obtain ⟨w0, hw0⟩ : ∃ w0, w0 = w1 := ⟨_, rfl⟩
        rw [← hw0] at B00 HB0 ⊢
        clear y0 y1 y2 y3 f0 f1 f2 f3 c0 c1 c2 c3 bel1 HX1 hb1 hw0
        have hkt : (l.take k).length = k := by rw [List.length_take]; omega
        have HS1 := Lib.hid (show SrcS w0 4 ((some ⟨ba, oa, none⟩)) k ((l.take k).flatMap encEntry) from by
          have h := src_el encEntry_len (by decide) (els_take k (HX.out.below B00))
          rwa [hkt] at h)
        have l0 : w.heap.size < w0.heap.size := HB0.out.lt
        have KS : ∀ w' : World, KeptOut (fun _ => False) w0 w' → w'.cell? ⟨w.heap.size, 0, none⟩ = some (.string x0) ∧ w'.cell? ⟨w.heap.size, 1, none⟩ = some (.int .i64 x1) ∧ w'.cell? ⟨w.heap.size, 2, none⟩ = some (.bool x2) ∧ w'.cell? ⟨w.heap.size, 3, none⟩ = some (.string x3) :=
          fun w' h => by
            have hb := HB0.out.kept h (fun h => h)
            exact ⟨(hb 0 _ rfl).1, (hb 1 _ rfl).1, (hb 2 _ rfl).1, (hb 3 _ rfl).1⟩
        have hnk : k ≤ l.length := hk
        have ik0 : (0 : Int) ≤ (k : Int) := by omega
        have ikn : (k : Int) ≤ (l.length : Int) := by omega
        have ikc : (k : Int) ≤ (ca : Int) := by omega
        have inc : (l.length : Int) ≤ (ca : Int) := by omega
        by_cases hck : k = ca
        · subst hck
          omega
        · have hck2 : ¬ ca = k := fun h => hck h.symm
          have HS2 := Lib.hid (show SrcS w0 4 (some ⟨ba, oa + k * 4, none⟩) (l.length - k) ((l.drop k).flatMap encEntry) from by
            have h := src_el encEntry_len (by decide) (by have h := els_drop k (HX.out.below B00); first | exact h | simpa [addr_add] using h : ElS 4 encEntry w0 (some ⟨ba, oa + k * 4, none⟩) (l.drop k))
            rw [List.length_drop] at h; exact h)
          go_region_held3 (fun w' => w'.cell? ⟨w.heap.size, 0, none⟩ = some (.string x0) ∧ w'.cell? ⟨w.heap.size, 1, none⟩ = some (.int .i64 x1) ∧ w'.cell? ⟨w.heap.size, 2, none⟩ = some (.bool x2) ∧ w'.cell? ⟨w.heap.size, 3, none⟩ = some (.string x3))
            ((refine KS _ ?_; (repeat (first | exact KeptOut.refl _ _ | exact b1 | exact b2 | exact b3 | refine KeptOut.drew ?_ | refine KeptOut.alloc ?_ _))))
            (first
              | (refine step_append_src _ rfl (.tmp 20) (.tmp 23) 25 rfl w0.heap.size 32 i0 (.agg #[.string ⟨#[]⟩, .int .i64 0, .bool false, .string ⟨#[]⟩]) 4 48 Tryd.underlying25 hi hz0 hz1 hz2 rfl (by decide) (.slice (some ⟨_, 0, none⟩) 0 0) 0 [] rfl (own_lit0 w0 32 4 _ rfl (Nat.le_refl _)) (some ⟨ba, oa, none⟩) k ca ((l.take k).flatMap encEntry) rfl (HS1.out.below (below_alloc w0 _)) (by intro u hu; exact one_ents hu) (by unfold maxLen; omega) (by omega) (by simp; try omega) ?_; intro v1 w1 o1 g1 at1; rw [Nat.zero_add, List.nil_append] at o1; obtain ⟨a1, c1, rfl⟩ := own_shape o1; have B1 : Below w0.heap.size w0 w1 := below_app (below_alloc w0 _) (by simp; try omega) g1 (by omega); have b1 : KeptOut (fun _ => False) w0 w1 := .of_below B1; have z1 := B1.size)
              | (refine step_append_src _ rfl (.tmp 20) (.tmp 23) 25 rfl w0.heap.size 32 i0 (.agg #[.string ⟨#[]⟩, .int .i64 0, .bool false, .string ⟨#[]⟩]) 4 48 Tryd.underlying25 hi hz0 hz1 hz2 rfl (by decide) (.slice (some ⟨_, 0, none⟩) 0 0) 0 [] rfl ((own_lit0 w0 32 4 _ rfl (Nat.le_refl _)).drew) (some ⟨ba, oa, none⟩) k ca ((l.take k).flatMap encEntry) rfl (HS1.out.below ((below_alloc w0 _).drew)) (by intro u hu; exact one_ents hu) (by unfold maxLen; omega) (by omega) (by simp; try omega) ?_; intro v1 w1 o1 g1 at1; rw [Nat.zero_add, List.nil_append] at o1; obtain ⟨a1, c1, rfl⟩ := own_shape o1; have B1 : Below w0.heap.size w0 w1 := below_app ((below_alloc w0 _).drew) (by simp; try omega) g1 (by omega); have b1 : KeptOut (fun _ => False) w0 w1 := .of_below B1; have z1 := B1.size)
              | (refine step_append_src _ rfl (.tmp 20) (.tmp 23) 25 rfl w0.heap.size 32 i0 (.agg #[.string ⟨#[]⟩, .int .i64 0, .bool false, .string ⟨#[]⟩]) 4 48 Tryd.underlying25 hi hz0 hz1 hz2 rfl (by decide) (.slice (some ⟨_, 0, none⟩) 0 0) 0 [] rfl (((own_lit0 w0 32 4 _ rfl (Nat.le_refl _)).alloc _).drew) (some ⟨ba, oa, none⟩) k ca ((l.take k).flatMap encEntry) rfl (HS1.out.below (((below_alloc w0 _).alloc (by simp) _).drew)) (by intro u hu; exact one_ents hu) (by unfold maxLen; omega) (by omega) (by simp; try omega) ?_; intro v1 w1 o1 g1 at1; rw [Nat.zero_add, List.nil_append] at o1; obtain ⟨a1, c1, rfl⟩ := own_shape o1; have B1 : Below w0.heap.size w0 w1 := below_app (((below_alloc w0 _).alloc (by simp) _).drew) (by simp; try omega) g1 (by omega); have b1 : KeptOut (fun _ => False) w0 w1 := .of_below B1; have z1 := B1.size; have SE : SrcS w1 4 (some ⟨w0.heap.size + 1, 0, none⟩) 1 [.string x0, .int .i64 x1, .bool x2, .string x3] := ((src_lit' (w0.alloc (.cells #[] 32)) [.string x0, .int .i64 x1, .bool x2, .string x3] 32 1 4 (w0.heap.size + 1) (by simp) rfl).kept (KeptOut.drew (KeptOut.refl (fun _ => False) _)) (fun _ _ h => h)).kept (kept_of_grown g1) (fun q hq e => by simp at hq; have := own_blk e; omega))
              | (refine step_append_src _ rfl (.tmp 20) (.tmp 23) 25 rfl w0.heap.size 32 i0 (.agg #[.string ⟨#[]⟩, .int .i64 0, .bool false, .string ⟨#[]⟩]) 4 48 Tryd.underlying25 hi hz0 hz1 hz2 rfl (by decide) (.slice (some ⟨_, 0, none⟩) 0 0) 0 [] rfl ((own_lit0 (w0.alloc _) 32 4 (w0.heap.size + 1) (by simp) (by simp)).drew) (some ⟨ba, oa, none⟩) k ca ((l.take k).flatMap encEntry) rfl (HS1.out.below (((below_alloc w0 _).alloc (by simp) _).drew)) (by intro u hu; exact one_ents hu) (by unfold maxLen; omega) (by omega) (by simp; try omega) ?_; intro v1 w1 o1 g1 at1; rw [Nat.zero_add, List.nil_append] at o1; obtain ⟨a1, c1, rfl⟩ := own_shape o1; have B1 : Below w0.heap.size w0 w1 := below_app (((below_alloc w0 _).alloc (by simp) _).drew) (by simp; try omega) g1 (by omega); have b1 : KeptOut (fun _ => False) w0 w1 := .of_below B1; have z1 := B1.size; have SE : SrcS w1 4 (some ⟨w0.heap.size, 0, none⟩) 1 [.string x0, .int .i64 x1, .bool x2, .string x3] := (((src_lit' w0 [.string x0, .int .i64 x1, .bool x2, .string x3] 32 1 4 w0.heap.size rfl rfl).below (below_alloc _ (.cells #[] 32))).kept (KeptOut.drew (KeptOut.refl (fun _ => False) _)) (fun _ _ h => h)).kept (kept_of_grown g1) (fun q hq e => by simp at hq; have := own_blk e; omega))
              | (refine step_append_src _ rfl (.tmp 24) (.tmp 26) 25 rfl w0.heap.size 32 i0 (.agg #[.string ⟨#[]⟩, .int .i64 0, .bool false, .string ⟨#[]⟩]) 4 48 Tryd.underlying25 hi hz0 hz1 hz2 rfl (by decide) (.slice a1 k c1) k ((l.take k).flatMap encEntry) rfl (o1) (some ⟨_, 0, none⟩) 1 1 [.string x0, .int .i64 x1, .bool x2, .string x3] rfl (SE) (by simp [Value.oneCell']) (by unfold maxLen; omega) (by omega) (by first | omega | (simp; omega)) ?_; intro v2 w2 o2 g2 at2; obtain ⟨a2, c2, rfl⟩ := own_shape o2; have B2 : Below w0.heap.size w0 w2 := (B1).grown g2 (by first | omega | (simp; omega)) (fun q hq => (o1.lt q hq).1); have b2 : KeptOut (fun _ => False) w0 w2 := .of_below B2; have z2 := B2.size)
              | (refine step_append_src _ rfl (.tmp 24) (.tmp 26) 25 rfl w0.heap.size 32 i0 (.agg #[.string ⟨#[]⟩, .int .i64 0, .bool false, .string ⟨#[]⟩]) 4 48 Tryd.underlying25 hi hz0 hz1 hz2 rfl (by decide) (.slice a1 k c1) k ((l.take k).flatMap encEntry) rfl (o1.alloc _) (some ⟨_, 0, none⟩) 1 1 [.string x0, .int .i64 x1, .bool x2, .string x3] rfl (src_lit' w1 [.string x0, .int .i64 x1, .bool x2, .string x3] 32 1 4 _ rfl rfl) (by simp [Value.oneCell']) (by unfold maxLen; omega) (by omega) (by first | omega | (simp; omega)) ?_; intro v2 w2 o2 g2 at2; obtain ⟨a2, c2, rfl⟩ := own_shape o2; have B2 : Below w0.heap.size w0 w2 := (B1.alloc z1 _).grown g2 (by first | omega | (simp; omega)) (fun q hq => (o1.lt q hq).1); have b2 : KeptOut (fun _ => False) w0 w2 := .of_below B2; have z2 := B2.size)
              | (refine step_append_src _ rfl (.tmp 27) (.tmp 30) 25 rfl w0.heap.size 32 i0 (.agg #[.string ⟨#[]⟩, .int .i64 0, .bool false, .string ⟨#[]⟩]) 4 48 Tryd.underlying25 hi hz0 hz1 hz2 rfl (by decide) (.slice a2 (k + 1) c2) (k + 1) ((l.take k).flatMap encEntry ++ [.string x0, .int .i64 x1, .bool x2, .string x3]) rfl o2 (some ⟨ba, oa + k * 4, none⟩) (l.length - k) ((ca - k)) ((l.drop k).flatMap encEntry) rfl (HS2.out.below B2) (by intro u hu; exact one_ents hu) (by unfold maxLen; omega) (by omega) (by first | omega | (simp; omega)) ?_; intro v3 w3 o3 g3 at3; have B3 : Below w0.heap.size w0 w3 := B2.grown g3 (by first | omega | (simp; omega)) (fun q hq => (o2.lt q hq).1); have b3 : KeptOut (fun _ => False) w0 w3 := .of_below B3))
          all_goals
            go_wp2
            go_ret
            exact ⟨_, rfl, by rw [HP.out, HE.out, List.length_append, List.length_append, List.flatMap_append, List.flatMap_append, hkt, List.length_drop]; exact own_mono B00.size o3, B00.trans (B3.mono B00.size)⟩
      · have hd : decide (k < l.length) = false := decide_eq_false hlt
        clear hgo
        go_wp2
        go_quiet (fail)
        go_wp2
        have B00 := bel_drewN hbel nq
        have HB0 := Lib.hid (HBX.out.below (bel_drewN (Below.refl _ _) nq))
        generalize World.drewN wr nq = w0 at B00 HB0 ⊢
        clear y0 y1 y2 y3 f0 f1 f2 f3
        have hkt : (l.take k).length = k := by rw [List.length_take]; omega
        have HS1 := Lib.hid (show SrcS w0 4 (a) k ((l.take k).flatMap encEntry) from by
          have h := src_el encEntry_len (by decide) (els_take k (HX.out.below B00))
          rwa [hkt] at h)
        have l0 : w.heap.size < w0.heap.size := HB0.out.lt
        have KS : ∀ w' : World, KeptOut (fun _ => False) w0 w' → w'.cell? ⟨w.heap.size, 0, none⟩ = some (.string x0) ∧ w'.cell? ⟨w.heap.size, 1, none⟩ = some (.int .i64 x1) ∧ w'.cell? ⟨w.heap.size, 2, none⟩ = some (.bool x2) ∧ w'.cell? ⟨w.heap.size, 3, none⟩ = some (.string x3) :=
          fun w' h => by
            have hb := HB0.out.kept h (fun h => h)
            exact ⟨(hb 0 _ rfl).1, (hb 1 _ rfl).1, (hb 2 _ rfl).1, (hb 3 _ rfl).1⟩
        have hnk : k ≤ l.length := hk
        have ik0 : (0 : Int) ≤ (k : Int) := by omega
        have ikn : (k : Int) ≤ (l.length : Int) := by omega
        have ikc : (k : Int) ≤ (ca : Int) := by omega
        have inc : (l.length : Int) ≤ (ca : Int) := by omega
        by_cases hck : k = ca
        · subst hck
          have hdk : l.drop k = [] := List.drop_of_length_le (by omega)
          go_region_held3 (fun w' => w'.cell? ⟨w.heap.size, 0, none⟩ = some (.string x0) ∧ w'.cell? ⟨w.heap.size, 1, none⟩ = some (.int .i64 x1) ∧ w'.cell? ⟨w.heap.size, 2, none⟩ = some (.bool x2) ∧ w'.cell? ⟨w.heap.size, 3, none⟩ = some (.string x3))
            ((refine KS _ ?_; (repeat (first | exact KeptOut.refl _ _ | exact b1 | exact b2 | exact b3 | refine KeptOut.drew ?_ | refine KeptOut.alloc ?_ _))))
            (first
              | (refine step_append_src _ rfl (.tmp 20) (.tmp 23) 25 rfl w0.heap.size 32 i0 (.agg #[.string ⟨#[]⟩, .int .i64 0, .bool false, .string ⟨#[]⟩]) 4 48 Tryd.underlying25 hi hz0 hz1 hz2 rfl (by decide) (.slice (some ⟨_, 0, none⟩) 0 0) 0 [] rfl (own_lit0 w0 32 4 _ rfl (Nat.le_refl _)) a k k ((l.take k).flatMap encEntry) rfl (HS1.out.below (below_alloc w0 _)) (by intro u hu; exact one_ents hu) (by unfold maxLen; omega) (by omega) (by simp; try omega) ?_; intro v1 w1 o1 g1 at1; rw [Nat.zero_add, List.nil_append] at o1; obtain ⟨a1, c1, rfl⟩ := own_shape o1; have B1 : Below w0.heap.size w0 w1 := below_app (below_alloc w0 _) (by simp; try omega) g1 (by omega); have b1 : KeptOut (fun _ => False) w0 w1 := .of_below B1; have z1 := B1.size)
              | (refine step_append_src _ rfl (.tmp 20) (.tmp 23) 25 rfl w0.heap.size 32 i0 (.agg #[.string ⟨#[]⟩, .int .i64 0, .bool false, .string ⟨#[]⟩]) 4 48 Tryd.underlying25 hi hz0 hz1 hz2 rfl (by decide) (.slice (some ⟨_, 0, none⟩) 0 0) 0 [] rfl ((own_lit0 w0 32 4 _ rfl (Nat.le_refl _)).drew) a k k ((l.take k).flatMap encEntry) rfl (HS1.out.below ((below_alloc w0 _).drew)) (by intro u hu; exact one_ents hu) (by unfold maxLen; omega) (by omega) (by simp; try omega) ?_; intro v1 w1 o1 g1 at1; rw [Nat.zero_add, List.nil_append] at o1; obtain ⟨a1, c1, rfl⟩ := own_shape o1; have B1 : Below w0.heap.size w0 w1 := below_app ((below_alloc w0 _).drew) (by simp; try omega) g1 (by omega); have b1 : KeptOut (fun _ => False) w0 w1 := .of_below B1; have z1 := B1.size)
              | (refine step_append_src _ rfl (.tmp 20) (.tmp 23) 25 rfl w0.heap.size 32 i0 (.agg #[.string ⟨#[]⟩, .int .i64 0, .bool false, .string ⟨#[]⟩]) 4 48 Tryd.underlying25 hi hz0 hz1 hz2 rfl (by decide) (.slice (some ⟨_, 0, none⟩) 0 0) 0 [] rfl (((own_lit0 w0 32 4 _ rfl (Nat.le_refl _)).alloc _).drew) a k k ((l.take k).flatMap encEntry) rfl (HS1.out.below (((below_alloc w0 _).alloc (by simp) _).drew)) (by intro u hu; exact one_ents hu) (by unfold maxLen; omega) (by omega) (by simp; try omega) ?_; intro v1 w1 o1 g1 at1; rw [Nat.zero_add, List.nil_append] at o1; obtain ⟨a1, c1, rfl⟩ := own_shape o1; have B1 : Below w0.heap.size w0 w1 := below_app (((below_alloc w0 _).alloc (by simp) _).drew) (by simp; try omega) g1 (by omega); have b1 : KeptOut (fun _ => False) w0 w1 := .of_below B1; have z1 := B1.size; have SE : SrcS w1 4 (some ⟨w0.heap.size + 1, 0, none⟩) 1 [.string x0, .int .i64 x1, .bool x2, .string x3] := ((src_lit' (w0.alloc (.cells #[] 32)) [.string x0, .int .i64 x1, .bool x2, .string x3] 32 1 4 (w0.heap.size + 1) (by simp) rfl).kept (KeptOut.drew (KeptOut.refl (fun _ => False) _)) (fun _ _ h => h)).kept (kept_of_grown g1) (fun q hq e => by simp at hq; have := own_blk e; omega))
              | (refine step_append_src _ rfl (.tmp 20) (.tmp 23) 25 rfl w0.heap.size 32 i0 (.agg #[.string ⟨#[]⟩, .int .i64 0, .bool false, .string ⟨#[]⟩]) 4 48 Tryd.underlying25 hi hz0 hz1 hz2 rfl (by decide) (.slice (some ⟨_, 0, none⟩) 0 0) 0 [] rfl ((own_lit0 (w0.alloc _) 32 4 (w0.heap.size + 1) (by simp) (by simp)).drew) a k k ((l.take k).flatMap encEntry) rfl (HS1.out.below (((below_alloc w0 _).alloc (by simp) _).drew)) (by intro u hu; exact one_ents hu) (by unfold maxLen; omega) (by omega) (by simp; try omega) ?_; intro v1 w1 o1 g1 at1; rw [Nat.zero_add, List.nil_append] at o1; obtain ⟨a1, c1, rfl⟩ := own_shape o1; have B1 : Below w0.heap.size w0 w1 := below_app (((below_alloc w0 _).alloc (by simp) _).drew) (by simp; try omega) g1 (by omega); have b1 : KeptOut (fun _ => False) w0 w1 := .of_below B1; have z1 := B1.size; have SE : SrcS w1 4 (some ⟨w0.heap.size, 0, none⟩) 1 [.string x0, .int .i64 x1, .bool x2, .string x3] := (((src_lit' w0 [.string x0, .int .i64 x1, .bool x2, .string x3] 32 1 4 w0.heap.size rfl rfl).below (below_alloc _ (.cells #[] 32))).kept (KeptOut.drew (KeptOut.refl (fun _ => False) _)) (fun _ _ h => h)).kept (kept_of_grown g1) (fun q hq e => by simp at hq; have := own_blk e; omega))
              | (refine step_append_src _ rfl (.tmp 24) (.tmp 26) 25 rfl w0.heap.size 32 i0 (.agg #[.string ⟨#[]⟩, .int .i64 0, .bool false, .string ⟨#[]⟩]) 4 48 Tryd.underlying25 hi hz0 hz1 hz2 rfl (by decide) (.slice a1 k c1) k ((l.take k).flatMap encEntry) rfl (o1) (some ⟨_, 0, none⟩) 1 1 [.string x0, .int .i64 x1, .bool x2, .string x3] rfl (SE) (by simp [Value.oneCell']) (by unfold maxLen; omega) (by omega) (by first | omega | (simp; omega)) ?_; intro v2 w2 o2 g2 at2; obtain ⟨a2, c2, rfl⟩ := own_shape o2; have B2 : Below w0.heap.size w0 w2 := (B1).grown g2 (by first | omega | (simp; omega)) (fun q hq => (o1.lt q hq).1); have b2 : KeptOut (fun _ => False) w0 w2 := .of_below B2; have z2 := B2.size)
              | (refine step_append_src _ rfl (.tmp 24) (.tmp 26) 25 rfl w0.heap.size 32 i0 (.agg #[.string ⟨#[]⟩, .int .i64 0, .bool false, .string ⟨#[]⟩]) 4 48 Tryd.underlying25 hi hz0 hz1 hz2 rfl (by decide) (.slice a1 k c1) k ((l.take k).flatMap encEntry) rfl (o1.alloc _) (some ⟨_, 0, none⟩) 1 1 [.string x0, .int .i64 x1, .bool x2, .string x3] rfl (src_lit' w1 [.string x0, .int .i64 x1, .bool x2, .string x3] 32 1 4 _ rfl rfl) (by simp [Value.oneCell']) (by unfold maxLen; omega) (by omega) (by first | omega | (simp; omega)) ?_; intro v2 w2 o2 g2 at2; obtain ⟨a2, c2, rfl⟩ := own_shape o2; have B2 : Below w0.heap.size w0 w2 := (B1.alloc z1 _).grown g2 (by first | omega | (simp; omega)) (fun q hq => (o1.lt q hq).1); have b2 : KeptOut (fun _ => False) w0 w2 := .of_below B2; have z2 := B2.size)
              | (refine step_append_src _ rfl (.tmp 27) (.tmp 30) 25 rfl w0.heap.size 32 i0 (.agg #[.string ⟨#[]⟩, .int .i64 0, .bool false, .string ⟨#[]⟩]) 4 48 Tryd.underlying25 hi hz0 hz1 hz2 rfl (by decide) (.slice a2 (k + 1) c2) (k + 1) ((l.take k).flatMap encEntry ++ [.string x0, .int .i64 x1, .bool x2, .string x3]) rfl o2 (a) 0 0 [] rfl ⟨rfl, .inl rfl⟩ (by simp) (by unfold maxLen; omega) (by omega) (by first | omega | (simp; omega)) ?_; intro v3 w3 o3 g3 at3; have B3 : Below w0.heap.size w0 w3 := B2.grown g3 (by first | omega | (simp; omega)) (fun q hq => (o2.lt q hq).1); have b3 : KeptOut (fun _ => False) w0 w3 := .of_below B3))
          all_goals
            go_wp2
            go_ret
            exact ⟨_, rfl, by rw [HP.out, HE.out, List.length_append, List.length_append, List.flatMap_append, List.flatMap_append, hkt, hdk]; exact own_mono B00.size o3, B00.trans (B3.mono B00.size)⟩
        · have hck2 : ¬ ca = k := fun h => hck h.symm
          have HS2 := Lib.hid (show SrcS w0 4 (Option.map (fun x => x.add (k * 4)) (a)) (l.length - k) ((l.drop k).flatMap encEntry) from by
            have h := src_el encEntry_len (by decide) (by have h := els_drop k (HX.out.below B00); first | exact h | simpa [addr_add] using h : ElS 4 encEntry w0 (Option.map (fun x => x.add (k * 4)) (a)) (l.drop k))
            rw [List.length_drop] at h; exact h)
          go_region_held3 (fun w' => w'.cell? ⟨w.heap.size, 0, none⟩ = some (.string x0) ∧ w'.cell? ⟨w.heap.size, 1, none⟩ = some (.int .i64 x1) ∧ w'.cell? ⟨w.heap.size, 2, none⟩ = some (.bool x2) ∧ w'.cell? ⟨w.heap.size, 3, none⟩ = some (.string x3))
            ((refine KS _ ?_; (repeat (first | exact KeptOut.refl _ _ | exact b1 | exact b2 | exact b3 | refine KeptOut.drew ?_ | refine KeptOut.alloc ?_ _))))
            (first
              | (refine step_append_src _ rfl (.tmp 20) (.tmp 23) 25 rfl w0.heap.size 32 i0 (.agg #[.string ⟨#[]⟩, .int .i64 0, .bool false, .string ⟨#[]⟩]) 4 48 Tryd.underlying25 hi hz0 hz1 hz2 rfl (by decide) (.slice (some ⟨_, 0, none⟩) 0 0) 0 [] rfl (own_lit0 w0 32 4 _ rfl (Nat.le_refl _)) a k ca ((l.take k).flatMap encEntry) rfl (HS1.out.below (below_alloc w0 _)) (by intro u hu; exact one_ents hu) (by unfold maxLen; omega) (by omega) (by simp; try omega) ?_; intro v1 w1 o1 g1 at1; rw [Nat.zero_add, List.nil_append] at o1; obtain ⟨a1, c1, rfl⟩ := own_shape o1; have B1 : Below w0.heap.size w0 w1 := below_app (below_alloc w0 _) (by simp; try omega) g1 (by omega); have b1 : KeptOut (fun _ => False) w0 w1 := .of_below B1; have z1 := B1.size)
              | (refine step_append_src _ rfl (.tmp 20) (.tmp 23) 25 rfl w0.heap.size 32 i0 (.agg #[.string ⟨#[]⟩, .int .i64 0, .bool false, .string ⟨#[]⟩]) 4 48 Tryd.underlying25 hi hz0 hz1 hz2 rfl (by decide) (.slice (some ⟨_, 0, none⟩) 0 0) 0 [] rfl ((own_lit0 w0 32 4 _ rfl (Nat.le_refl _)).drew) a k ca ((l.take k).flatMap encEntry) rfl (HS1.out.below ((below_alloc w0 _).drew)) (by intro u hu; exact one_ents hu) (by unfold maxLen; omega) (by omega) (by simp; try omega) ?_; intro v1 w1 o1 g1 at1; rw [Nat.zero_add, List.nil_append] at o1; obtain ⟨a1, c1, rfl⟩ := own_shape o1; have B1 : Below w0.heap.size w0 w1 := below_app ((below_alloc w0 _).drew) (by simp; try omega) g1 (by omega); have b1 : KeptOut (fun _ => False) w0 w1 := .of_below B1; have z1 := B1.size)
              | (refine step_append_src _ rfl (.tmp 20) (.tmp 23) 25 rfl w0.heap.size 32 i0 (.agg #[.string ⟨#[]⟩, .int .i64 0, .bool false, .string ⟨#[]⟩]) 4 48 Tryd.underlying25 hi hz0 hz1 hz2 rfl (by decide) (.slice (some ⟨_, 0, none⟩) 0 0) 0 [] rfl (((own_lit0 w0 32 4 _ rfl (Nat.le_refl _)).alloc _).drew) a k ca ((l.take k).flatMap encEntry) rfl (HS1.out.below (((below_alloc w0 _).alloc (by simp) _).drew)) (by intro u hu; exact one_ents hu) (by unfold maxLen; omega) (by omega) (by simp; try omega) ?_; intro v1 w1 o1 g1 at1; rw [Nat.zero_add, List.nil_append] at o1; obtain ⟨a1, c1, rfl⟩ := own_shape o1; have B1 : Below w0.heap.size w0 w1 := below_app (((below_alloc w0 _).alloc (by simp) _).drew) (by simp; try omega) g1 (by omega); have b1 : KeptOut (fun _ => False) w0 w1 := .of_below B1; have z1 := B1.size; have SE : SrcS w1 4 (some ⟨w0.heap.size + 1, 0, none⟩) 1 [.string x0, .int .i64 x1, .bool x2, .string x3] := ((src_lit' (w0.alloc (.cells #[] 32)) [.string x0, .int .i64 x1, .bool x2, .string x3] 32 1 4 (w0.heap.size + 1) (by simp) rfl).kept (KeptOut.drew (KeptOut.refl (fun _ => False) _)) (fun _ _ h => h)).kept (kept_of_grown g1) (fun q hq e => by simp at hq; have := own_blk e; omega))
              | (refine step_append_src _ rfl (.tmp 20) (.tmp 23) 25 rfl w0.heap.size 32 i0 (.agg #[.string ⟨#[]⟩, .int .i64 0, .bool false, .string ⟨#[]⟩]) 4 48 Tryd.underlying25 hi hz0 hz1 hz2 rfl (by decide) (.slice (some ⟨_, 0, none⟩) 0 0) 0 [] rfl ((own_lit0 (w0.alloc _) 32 4 (w0.heap.size + 1) (by simp) (by simp)).drew) a k ca ((l.take k).flatMap encEntry) rfl (HS1.out.below (((below_alloc w0 _).alloc (by simp) _).drew)) (by intro u hu; exact one_ents hu) (by unfold maxLen; omega) (by omega) (by simp; try omega) ?_; intro v1 w1 o1 g1 at1; rw [Nat.zero_add, List.nil_append] at o1; obtain ⟨a1, c1, rfl⟩ := own_shape o1; have B1 : Below w0.heap.size w0 w1 := below_app (((below_alloc w0 _).alloc (by simp) _).drew) (by simp; try omega) g1 (by omega); have b1 : KeptOut (fun _ => False) w0 w1 := .of_below B1; have z1 := B1.size; have SE : SrcS w1 4 (some ⟨w0.heap.size, 0, none⟩) 1 [.string x0, .int .i64 x1, .bool x2, .string x3] := (((src_lit' w0 [.string x0, .int .i64 x1, .bool x2, .string x3] 32 1 4 w0.heap.size rfl rfl).below (below_alloc _ (.cells #[] 32))).kept (KeptOut.drew (KeptOut.refl (fun _ => False) _)) (fun _ _ h => h)).kept (kept_of_grown g1) (fun q hq e => by simp at hq; have := own_blk e; omega))
              | (refine step_append_src _ rfl (.tmp 24) (.tmp 26) 25 rfl w0.heap.size 32 i0 (.agg #[.string ⟨#[]⟩, .int .i64 0, .bool false, .string ⟨#[]⟩]) 4 48 Tryd.underlying25 hi hz0 hz1 hz2 rfl (by decide) (.slice a1 k c1) k ((l.take k).flatMap encEntry) rfl (o1) (some ⟨_, 0, none⟩) 1 1 [.string x0, .int .i64 x1, .bool x2, .string x3] rfl (SE) (by simp [Value.oneCell']) (by unfold maxLen; omega) (by omega) (by first | omega | (simp; omega)) ?_; intro v2 w2 o2 g2 at2; obtain ⟨a2, c2, rfl⟩ := own_shape o2; have B2 : Below w0.heap.size w0 w2 := (B1).grown g2 (by first | omega | (simp; omega)) (fun q hq => (o1.lt q hq).1); have b2 : KeptOut (fun _ => False) w0 w2 := .of_below B2; have z2 := B2.size)
              | (refine step_append_src _ rfl (.tmp 24) (.tmp 26) 25 rfl w0.heap.size 32 i0 (.agg #[.string ⟨#[]⟩, .int .i64 0, .bool false, .string ⟨#[]⟩]) 4 48 Tryd.underlying25 hi hz0 hz1 hz2 rfl (by decide) (.slice a1 k c1) k ((l.take k).flatMap encEntry) rfl (o1.alloc _) (some ⟨_, 0, none⟩) 1 1 [.string x0, .int .i64 x1, .bool x2, .string x3] rfl (src_lit' w1 [.string x0, .int .i64 x1, .bool x2, .string x3] 32 1 4 _ rfl rfl) (by simp [Value.oneCell']) (by unfold maxLen; omega) (by omega) (by first | omega | (simp; omega)) ?_; intro v2 w2 o2 g2 at2; obtain ⟨a2, c2, rfl⟩ := own_shape o2; have B2 : Below w0.heap.size w0 w2 := (B1.alloc z1 _).grown g2 (by first | omega | (simp; omega)) (fun q hq => (o1.lt q hq).1); have b2 : KeptOut (fun _ => False) w0 w2 := .of_below B2; have z2 := B2.size)
              | (refine step_append_src _ rfl (.tmp 27) (.tmp 30) 25 rfl w0.heap.size 32 i0 (.agg #[.string ⟨#[]⟩, .int .i64 0, .bool false, .string ⟨#[]⟩]) 4 48 Tryd.underlying25 hi hz0 hz1 hz2 rfl (by decide) (.slice a2 (k + 1) c2) (k + 1) ((l.take k).flatMap encEntry ++ [.string x0, .int .i64 x1, .bool x2, .string x3]) rfl o2 (Option.map (fun x => x.add (k * 4)) (a)) (l.length - k) ((ca - k)) ((l.drop k).flatMap encEntry) rfl (HS2.out.below B2) (by intro u hu; exact one_ents hu) (by unfold maxLen; omega) (by omega) (by first | omega | (simp; omega)) ?_; intro v3 w3 o3 g3 at3; have B3 : Below w0.heap.size w0 w3 := B2.grown g3 (by first | omega | (simp; omega)) (fun q hq => (o2.lt q hq).1); have b3 : KeptOut (fun _ => False) w0 w3 := .of_below B3))
          all_goals
            go_wp2
            go_ret
            exact ⟨_, rfl, by rw [HP.out, HE.out, List.length_append, List.length_append, List.flatMap_append, List.flatMap_append, hkt, List.length_drop]; exact own_mono B00.size o3, B00.trans (B3.mono B00.size)⟩
end Go.Proofs.YtfekpbkcidhbfaaDoor

/- Drawn lists of entries. -/
namespace Go.Proofs.YtfekpbkcidhbfaaDoor
open Go Go.RowKit

set_option maxRecDepth 100000 in
set_option maxHeartbeats 800000 in
theorem pad_any (n : Nat) (w : World) (hn : n ≤ 1000) :
    Calls Tryd.prog 56 #[.int .i64 n] w fun e w' => (∃ s : ByteArray, e = .returned (.string s) ∧ s.size ≤ 1010) ∧ Below w.heap.size w w' := by
  have hd := decB_size n
  obtain ⟨d, hdd⟩ : ∃ d, d = decB n := ⟨_, rfl⟩
  rw [← hdd] at hd
  have HD := Lib.hid hdd
  clear hdd
  go_enter Tryd.func56, Tryd.ntmps56
  go_wp2_with fail
  refine (dec_any n _ (by omega)).mono ?_
  rintro e w1 ⟨rfl, b1⟩
  rw [← HD.out]
  go_wp2
  go_loopw [3] (fun v wr => ∃ s : ByteArray, v = .string s ∧ s.size ≤ 1010 ∧ Below w.heap.size w wr) (fun v _ => 8 - (match v with | .string s => s.size | _ => 0))
  case atStart => exact ⟨d, rfl, by omega, b1⟩
  case round =>
    obtain ⟨s, rfl, hs, hb⟩ := hrel
    by_cases h8 : s.size < 8
    · have h8i : (s.size : Int) < 8 := by omega
      have hz : ((⟨#[48]⟩ : ByteArray) ++ s).size = 1 + s.size := by rw [ByteArray.size_append]; rfl
      go_wp2
      go_roundw
      case rel => exact ⟨_, rfl, by rw [hz]; omega, hb⟩
      case measure => show 8 - ((⟨#[48]⟩ : ByteArray) ++ s).size < 8 - s.size; rw [hz]; omega
    · have h8i : (8 : Int) ≤ (s.size : Int) := by omega
      go_wp2
      go_ret
      exact ⟨⟨s, rfl, hs⟩, hb⟩

/-- no text of it is too long -/
def AnyE (L : List EntryD) : Prop := ∀ x ∈ L, x.1.size ≤ 3000 ∧ x.2.2.2.size ≤ 3000
theorem AnyE.ok {L : List EntryD} (h : AnyE L) : ∀ x ∈ L, OkEntry x := fun x hx => by have := h x hx; unfold OkEntry maxLen; omega
theorem AnyE.put {L : List EntryD} {e : EntryD} (h : AnyE L) (h1 : e.1.size ≤ 3000) (h2 : e.2.2.2.size ≤ 3000) : AnyE (putE L e) := fun x hx => (putE_mem hx).elim (fun q => by rw [q]; exact ⟨h1, h2⟩) (h x)
theorem own_cap {w : World} {base : Nat} {e : TypeId} {size : Nat} {a : Option Addr} {n c : Nat} {xs : List Value} (h : w.ownsRow base e size (.slice a n c) n xs) : n ≤ c := by
  rcases h.2 with ⟨hv, h0⟩ | ⟨g, cap, cur, hv, hb, hg, h1, h2, _⟩
  · omega
  · simp only [Value.slice.injEq] at hv
    omega
def DrawEPost (w : World) (r : Nat) (a : Option Addr) (c : Nat) (l : List UInt8) (p n m : Nat) (e : Ending) (w' : World) : Prop :=
  ∃ (b : Option Addr) (cb : Nat) (L : List EntryD) (p' : Nat), e = .returned (.slice b L.length cb) ∧ ElS 4 encEntry w' b L ∧ L.length ≤ cb ∧ (∀ k, b.map Addr.block = some k → w.heap.size ≤ k) ∧ AnyE L ∧ L.length ≤ m ∧ Rd w' r a c l p' ∧ p' ≤ p + n ∧ KeptOut (fun b => b = r) w w'

set_option maxRecDepth 100000 in
set_option maxHeartbeats 1600000 in
theorem l12Entries_any (w : World) (r : Nat) (a : Option Addr) (c : Nat) (l : List UInt8) (p : Nat) (hp : p ≤ 100000000) (h : Rd w r a c l p) :
    Calls Tryd.prog 36 #[.pointer (some ⟨r, 0, none⟩)] w (DrawEPost w r a c l p 40 240) := by
  have hr : r < w.heap.size := h.lt
  have HAR := Lib.hid (rd_har h)
  have HR := Lib.hid h
  clear h
  go_enter Tryd.func36, Tryd.ntmps36
  go_wp2_with fail
  refine (pick_any 10 _ r a c l p (by omega) (by omega) (by omega) (HR.out.below (below_alloc w _))).mono ?_
  rintro e w1 ⟨q, rfl, q0, q1, h1, k1⟩
  have q1' := q1 (by omega)
  obtain ⟨qn, rfl⟩ := Int.eq_ofNat_of_zero_le q0
  have K1 := Lib.hid ((KeptOut.of_below (S := fun b => b = r) (below_alloc w (.cells #[] 32))).trans k1)
  have O1 := Lib.hid (own_kept (own_lit0 (base := w.heap.size) w 32 4 w.heap.size rfl (Nat.le_refl _)) k1 (fun k hk e => by have := own_blk hk; omega))
  have H1 := Lib.hid h1
  clear h1 k1 q1 HR
  go_wp2_with fail
  go_loopw [3, 4] (fun v3 v4 wr => ∃ (q p' : Nat) (L : List EntryD), q ≤ 9 ∧ v4 = .int .i64 q ∧ p' + 4 * q ≤ p + 37 ∧ L.length + q ≤ 9 ∧ AnyE L ∧ wr.ownsRow w.heap.size 32 4 v3 L.length (L.flatMap encEntry) ∧ Rd wr r a c l p' ∧ KeptOut (fun b => b = r) w wr) (fun _ v4 _ => (intOf v4).toNat)
  case atStart => exact ⟨qn, p + 1, [], by omega, rfl, by omega, by simp; omega, fun x hx => by simp at hx, O1.out, H1.out, K1.out⟩
  case round =>
    clear O1 H1 K1
    obtain ⟨q, p', L, hq, rfl, hpp, hL, hE, hown, hrd, hk0⟩ := hrel
    obtain ⟨va, vc, rfl⟩ := own_shape hown
    have HO := Lib.hid hown
    have HRD := Lib.hid hrd
    have HK := Lib.hid hk0
    have HE := Lib.hid hE
    have hz0 := hk0.size
    clear hown hrd hk0 hE
    by_cases h0 : q = 0
    · subst h0
      go_wp2_with fail
      refine (pick_any 30 _ r a c l p' (by omega) (by omega) (by omega) HRD.out).mono ?_
      rintro e w2 ⟨q3, rfl, q30, q31, h2, k2⟩
      have H2 := Lib.hid h2
      have K2 := Lib.hid (HK.out.trans k2)
      have O2 := Lib.hid (own_kept HO.out k2 (fun k hk e => by have := (HO.out.lt k hk).1; omega))
      have z2 := k2.size
      clear h2 k2 q31 HRD HK HO
      by_cases hq3 : q3 = 0
      · subst hq3
        go_wp2_with fail
        go_loopw [3, 6] (fun v3 v6 wr => ∃ (i : Nat) (M : List EntryD), i ≤ 240 ∧ v6 = .int .i64 i ∧ i ≤ M.length ∧ M.length ≤ 9 + i ∧ AnyE M ∧ wr.ownsRow w.heap.size 32 4 v3 M.length (M.flatMap encEntry) ∧ Rd wr r a c l (p' + 1) ∧ KeptOut (fun b => b = r) w wr) (fun _ v6 _ => 240 - (intOf v6).toNat)
        case atStart => exact ⟨0, L, by omega, rfl, by omega, by omega, HE.out, O2.out, H2.out, K2.out⟩
        case round =>
          clear O2 H2 K2 HE
          obtain ⟨i, M, hi, rfl, hM0, hM, hE, hown, hrd, hk0⟩ := hrel
          obtain ⟨va, vc, rfl⟩ := own_shape hown
          have HO := Lib.hid hown
          have HRD := Lib.hid hrd
          have HK := Lib.hid hk0
          have HE := Lib.hid hE
          have hz0 := hk0.size
          have hcv := own_cap hown
          clear hown hrd hk0 hE
          by_cases hlt : i < 240
          · have hli : (i : Int) < 240 := by omega
            go_wp2_with fail
            refine (pad_any i _ (by omega)).mono ?_
            rintro e w3 ⟨⟨s, rfl, hs⟩, b3⟩
            have z3 := b3.size
            have hxs : ((⟨#[120, 46]⟩ : ByteArray) ++ s).size ≤ 3000 := by rw [ByteArray.size_append]; show 2 + s.size ≤ 3000; omega
            obtain ⟨xs, hxs2⟩ : ∃ xs, xs = (⟨#[120, 46]⟩ : ByteArray) ++ s := ⟨_, rfl⟩
            have O3 := Lib.hid (own_below (own_below HO.out b3) (below_alloc w3 (.cells #[.string ((⟨#[120, 46]⟩ : ByteArray) ++ s), .int .i64 1, .bool false, .string ⟨#[]⟩] 32)))
            go_wp2_with fail
            refine (specPut_any _ _ M ((⟨#[120, 46]⟩ : ByteArray) ++ s) 1 false ⟨#[]⟩ _ (by omega) hcv (own_el encEntry_len (by unfold maxLen; omega) O3.out)).mono ?_
            rintro e w4 ⟨v4, rfl, o4, b4⟩
            have z4 := b4.size
            simp only [World.size_alloc] at z4
            have B4 : Below wr.heap.size wr w4 := (b3.alloc z3 _).trans (b4.mono (by simp; omega))
            have O4 := Lib.hid (own_mono (show w.heap.size ≤ (w3.alloc (.cells #[.string ((⟨#[120, 46]⟩ : ByteArray) ++ s), .int .i64 1, .bool false, .string ⟨#[]⟩] 32)).heap.size by simp; omega) o4)
            have hpl := putE_len M ((⟨#[120, 46]⟩ : ByteArray) ++ s, 1, false, ⟨#[]⟩)
            clear o4 b4
            go_wp2
            go_roundw
            case rel => exact ⟨i + 1, _, by omega, by go_num, by rw [hpl]; omega, by rw [hpl]; omega, HE.out.put hxs (by simp [ByteArray.size]), O4.out, HRD.out.below B4, HK.out.trans (.of_below B4)⟩
            case measure => simp [intOf]; omega
          · have hcap2 : (240 : Int) ≤ (vc : Int) := by omega
            have hge : (240 : Int) ≤ (i : Int) := by omega
            have ht : (M.take 240).length = 240 := by rw [List.length_take]; omega
            go_wp2
            go_ret
            exact ⟨va, vc, M.take 240, p' + 1, by rw [ht]; rfl, els_take 240 (own_el encEntry_len (by unfold maxLen; omega) HO.out), by rw [ht]; omega, fun k hk => (HO.out.lt k (blk_map hk)).1, fun x hx => HE.out x (List.mem_of_mem_take hx), by rw [ht]; omega, HRD.out, by omega, HK.out⟩
      · have hq3' : (q3 == 0) = false := by simp [hq3]
        clear hq3
        go_wp2
        go_ret
        exact ⟨va, vc, L, p' + 1, rfl, own_el encEntry_len (by unfold maxLen; omega) O2.out, own_cap O2.out, fun k hk => (O2.out.lt k (blk_map hk)).1, HE.out, by omega, H2.out, by omega, K2.out⟩
    · have hqi : (0 : Int) < (q : Int) := by omega
      have hcv := own_cap HO.out
      go_wp2_with fail
      refine (l12Entry_any _ r a c l p' (by omega) HRD.out).mono ?_
      rintro e w2 ⟨x0, x1, x2, x3, rfl, s0, n0, n1, s3, h2, k2⟩
      have z2 := k2.size
      have O2 := Lib.hid (own_below (own_kept HO.out k2 (fun k hk e => by have := (HO.out.lt k hk).1; omega)) (below_alloc w2 (.cells #[.string x0, .int .i64 x1, .bool x2, .string x3] 32)))
      have H2 := Lib.hid (h2.below (below_alloc w2 (.cells #[.string x0, .int .i64 x1, .bool x2, .string x3] 32)))
      have K2 := Lib.hid ((HK.out.trans k2).trans (KeptOut.of_below (S := fun b => b = r) (below_alloc w2 (.cells #[.string x0, .int .i64 x1, .bool x2, .string x3] 32))))
      have bx := Box.alloc w2 #[.string x0, .int .i64 x1, .bool x2, .string x3] 32
      clear h2 k2 HRD HK HO
      go_wp2_with fail
      refine (specHas_any _ _ L x0 x1 x2 x3 _ (own_el encEntry_len (by unfold maxLen; omega) O2.out)).mono ?_
      rintro e w3 ⟨rfl, b3⟩
      have z3 := b3.size
      simp only [World.size_alloc] at z3
      have bx3 := bx.below b3
      have O3 := Lib.hid (own_below O2.out b3)
      have H3 := Lib.hid (H2.out.below b3)
      have K3 := Lib.hid (K2.out.trans (.of_below b3))
      obtain ⟨⟨y0, f0⟩, ⟨y1, f1⟩, ⟨y2, f2⟩, y3, f3⟩ := show _ ∧ _ ∧ _ ∧ _ from ⟨bx3 0 _ rfl, bx3 1 _ rfl, bx3 2 _ rfl, bx3 3 _ rfl⟩
      clear bx bx3 O2 H2 K2
      cases hh : hasE L (x0, x1, x2, x3) with
      | true =>
        go_wp2
        go_roundw
        case rel => exact ⟨q - 1, p' + 4, L, by omega, by go_num, by omega, by omega, HE.out, O3.out, H3.out, K3.out⟩
        case measure => simp [intOf]; omega
      | false =>
        go_wp2_with fail
        refine (specPut_any _ _ L x0 x1 x2 x3 _ (by omega) hcv (own_el encEntry_len (by unfold maxLen; omega) O3.out)).mono ?_
        rintro e w4 ⟨v4, rfl, o4, b4⟩
        have z4 := b4.size
        have O4 := Lib.hid (own_mono (show w.heap.size ≤ w3.heap.size by omega) o4)
        have H4 := Lib.hid (H3.out.below b4)
        have K4 := Lib.hid (K3.out.trans (.of_below b4))
        have hpl := putE_len L (x0, x1, x2, x3)
        clear o4 b4 y0 y1 y2 y3 f0 f1 f2 f3
        go_wp2
        go_roundw
        case rel => exact ⟨q - 1, p' + 4, _, by omega, by go_num, by omega, by rw [hpl]; omega, HE.out.put (show x0.size ≤ 3000 by omega) (show x3.size ≤ 3000 by omega), O4.out, H4.out, K4.out⟩
        case measure => simp [intOf]; omega
end Go.Proofs.YtfekpbkcidhbfaaDoor

/- Drawn lists of entries, some spoilt. -/
namespace Go.Proofs.YtfekpbkcidhbfaaDoor
open Go Go.RowKit

theorem own_partsE {w : World} {base : Nat} {e : TypeId} {size : Nat} {a : Option Addr} {n c : Nat} {xs : List Value} (h : w.ownsRow base e size (.slice a n c) n xs) (hn : 0 < n) : ∃ g, a = some ⟨g, 0, none⟩ ∧ n ≤ c ∧ base ≤ g ∧ g < w.heap.size := by
  rcases h.2 with ⟨_, h0⟩ | ⟨g, cap, cur, hv, hb, hg, h1, h2, _⟩
  · omega
  · simp only [Value.slice.injEq] at hv
    obtain ⟨rfl, _, rfl⟩ := hv
    exact ⟨g, rfl, h1, hb, (Array.getElem?_eq_some_iff.1 hg).1⟩
theorem flat_set : ∀ (L : List EntryD) (k f : Nat) (h : k < L.length) (_ : f < 4) (v : Value) (e' : EntryD), (encEntry L[k]).set f v = encEntry e' → (L.flatMap encEntry).set (k * 4 + f) v = (L.set k e').flatMap encEntry
  | x :: L, 0, f, _, hf, v, e', he => by
    rw [List.flatMap_cons, List.set_append_left _ _ (by rw [encEntry_len]; omega), List.set_cons_zero, List.flatMap_cons, Nat.zero_mul, Nat.zero_add, ← he]
    rfl
  | x :: L, k + 1, f, h, hf, v, e', he => by
    have ih := flat_set L k f (by simpa using h) hf v e' (by simpa using he)
    rw [List.flatMap_cons, List.set_append_right _ _ (by rw [encEntry_len]; omega), List.set_cons_succ, List.flatMap_cons, encEntry_len, ← ih]
    congr 2
    omega
theorem AnyE.set {L : List EntryD} {k : Nat} {e : EntryD} (h : AnyE L) (h1 : e.1.size ≤ 3000) (h2 : e.2.2.2.size ≤ 3000) : AnyE (L.set k e) := fun x hx => (List.mem_or_eq_of_mem_set hx).elim (h x) (fun q => by rw [q]; exact ⟨h1, h2⟩)
theorem drawE_of {w w' : World} {r c p p' n m cb : Nat} {a b : Option Addr} {l : List UInt8} {M : List EntryD} (hm : M.length = m) (O : w'.ownsRow w.heap.size 32 4 (.slice b m cb) m (M.flatMap encEntry)) (hE : AnyE M) (hn : M.length ≤ 241) (hrd : Rd w' r a c l p') (hp : p' ≤ p + n)
    (hk : KeptOut (fun b => b = r) w w') : DrawEPost w r a c l p n 241 (.returned (.slice b m cb)) w' := by
  subst hm
  exact ⟨b, cb, M, p', rfl, own_el encEntry_len (by unfold maxLen; omega) O, own_cap O, fun k hk => (O.lt k (blk_map hk)).1, hE, hn, hrd, hp, hk⟩
theorem two_int (x y : Int) (n : Nat) (h : n < 2) : ∃ z : Int, ([Value.int .i64 x, Value.int .i64 y] : List Value)[n]? = some (.int .i64 z) := by
  rcases (show n = 0 ∨ n = 1 by omega) with rfl | rfl
  · exact ⟨_, rfl⟩
  · exact ⟨_, rfl⟩
theorem own_cellsE {w : World} {base g c : Nat} {e : TypeId} {L : List EntryD} (h : w.ownsRow base e 4 (.slice (some ⟨g, 0, none⟩) L.length c) L.length (L.flatMap encEntry)) : ∀ j, (hj : j < L.length) → ∀ i v, (encEntry L[j])[i]? = some v → w.cell? ⟨g, 0 + j * 4 + i, none⟩ = some v := fun j hj i v hv => by
  have := h.cells (g := g) rfl (j * 4 + i) v (flat_get encEntry_len L j hj i v hv)
  rw [addr_add] at this
  rw [show 0 + j * 4 + i = 0 + (j * 4 + i) by omega]
  exact this
def litS : List ByteArray := [⟨#[]⟩, ⟨#[97, 32, 98]⟩, ⟨#[97, 58, 98]⟩]
theorem litS_size : ∀ s ∈ litS, s.size ≤ 24 := by
  intro s hs
  simp only [litS, List.mem_cons, List.not_mem_nil, or_false] at hs
  rcases hs with rfl | rfl | rfl <;> simp [ByteArray.size]

set_option maxRecDepth 100000 in
set_option maxHeartbeats 2000000 in
theorem spoilE_any (w : World) (r : Nat) (a : Option Addr) (c : Nat) (l : List UInt8) (p : Nat) (hp : p ≤ 100000000) (h : Rd w r a c l p) (b : Option Addr) (cb : Nat) (L : List EntryD) (hL : ElS 4 encEntry w b L) (hE : AnyE L) (hn : L.length ≤ 240) :
    Calls Tryd.prog 38 #[.pointer (some ⟨r, 0, none⟩), .slice b L.length cb] w (DrawEPost w r a c l p 10 241) := by
  have hr : r < w.heap.size := h.lt
  have HAR := Lib.hid (rd_har h)
  have HR := Lib.hid h
  have HSRC := Lib.hid (src_el encEntry_len (by decide) hL)
  have HE := Lib.hid hE
  clear h hL hE
  obtain ⟨i0, hi, hz0, hz1, hz2⟩ := info_parts infoEntry
  by_cases hl0 : L.length = 0
  · have hl0b : ((L.length : Int) == 0) = true := by simp [hl0]
    go_enter Tryd.func38, Tryd.ntmps38
    go_wp2_with (at_builtin; refine wpList_append_src _ rfl (.tmp 7) (.tmp 8) 25 rfl w.heap.size 32 i0 (.agg #[.string ⟨#[]⟩, .int .i64 0, .bool false, .string ⟨#[]⟩]) 4 48 Tryd.underlying25 hi hz0 hz1 hz2 rfl (by decide) (.slice (some ⟨w.heap.size, 0, none⟩) 0 0) 0 [] rfl (own_lit0 w 32 4 _ rfl (Nat.le_refl _)) b L.length cb (L.flatMap encEntry) rfl (HSRC.out.below (below_alloc w _)) (fun u hu => one_ents hu) (by unfold maxLen; omega) (by omega) (by simp) ?_; intro v1 w1 o1 g1 at1; rw [Nat.zero_add, List.nil_append] at o1; obtain ⟨a1, c1, rfl⟩ := own_shape o1; have B1 : Below w.heap.size w w1 := below_app (below_alloc w _) (by simp) g1 (Nat.le_refl _); have O1 := Lib.hid o1; have H1 := Lib.hid (HR.out.below B1); have K1 := Lib.hid (KeptOut.of_below (S := fun b => b = r) B1); have z1 := B1.size; have hcap := own_cap o1; clear o1 g1 at1 B1)
    refine (of_any _ r a c l p (by omega) (H1.out.below (below_alloc w1 _)) w1.heap.size 0 3 litS (by decide) (by decide) (by omega) (lit_cells w1 litS _)).mono ?_
    rintro e w2 ⟨s, hs, rfl, h2, k2⟩
    have s2 := k2.size
    simp only [World.size_alloc] at s2
    have K2 := Lib.hid (((K1.out.trans (KeptOut.of_below (S := fun b => b = r) (below_alloc w1 _))).trans k2))
    have H2 := Lib.hid h2
    clear h2 k2
    go_wp2
    go_ret
    exact drawE_of (M := [(s, 1, false, ⟨#[]⟩)]) rfl (World.ownsRow_lit w2 #[.string s, .int .i64 1, .bool false, .string ⟨#[]⟩] 1 (by omega) (by unfold maxLen; omega) rfl) (fun x hx => by rw [List.mem_singleton.1 hx]; exact ⟨by have := litS_size s hs; show s.size ≤ 3000; omega, show (⟨#[]⟩ : ByteArray).size ≤ 3000 by decide⟩) (by simp) (H2.out.below (below_alloc w2 _)) (by omega) (K2.out.trans (.of_below (below_alloc w2 _)))
  · have hl0b : ((L.length : Int) == 0) = false := by rw [beq_eq_false_iff_ne]; omega
    go_enter Tryd.func38, Tryd.ntmps38
    go_wp2_with (at_builtin; refine wpList_append_src _ rfl (.tmp 7) (.tmp 8) 25 rfl w.heap.size 32 i0 (.agg #[.string ⟨#[]⟩, .int .i64 0, .bool false, .string ⟨#[]⟩]) 4 48 Tryd.underlying25 hi hz0 hz1 hz2 rfl (by decide) (.slice (some ⟨w.heap.size, 0, none⟩) 0 0) 0 [] rfl (own_lit0 w 32 4 _ rfl (Nat.le_refl _)) b L.length cb (L.flatMap encEntry) rfl (HSRC.out.below (below_alloc w _)) (fun u hu => one_ents hu) (by unfold maxLen; omega) (by omega) (by simp) ?_; intro v1 w1 o1 g1 at1; rw [Nat.zero_add, List.nil_append] at o1; obtain ⟨a1, c1, rfl⟩ := own_shape o1; have B1 : Below w.heap.size w w1 := below_app (below_alloc w _) (by simp) g1 (Nat.le_refl _); have O1 := Lib.hid o1; have H1 := Lib.hid (HR.out.below B1); have K1 := Lib.hid (KeptOut.of_below (S := fun b => b = r) B1); have z1 := B1.size; have hcap := own_cap o1; clear o1 g1 at1 B1)
    refine (pick_any _ _ r a c l p (by omega) (by omega) (by omega) H1.out).mono ?_
    rintro e w2 ⟨kq, rfl, kq0, kq1, h2, k2⟩
    have kq1' := kq1 (by omega)
    obtain ⟨k, rfl⟩ := Int.eq_ofNat_of_zero_le kq0
    have hkL : k < L.length := by omega
    have H2 := Lib.hid h2
    have K2 := Lib.hid (K1.out.trans k2)
    have O2 := Lib.hid (own_kept O1.out k2 (fun q hq e => by have := (O1.out.lt q hq).1; omega))
    have s2 := k2.size
    clear h2 k2 kq1 H1 K1 O1
    go_wp2_with fail
    refine (pick_any 5 _ r a c l (p + 1) (by omega) (by omega) (by omega) H2.out).mono ?_
    rintro e w3 ⟨q5, rfl, q50, q51, h3, k3⟩
    have q51' := q51 (by omega)
    obtain ⟨n5, rfl⟩ := Int.eq_ofNat_of_zero_le q50
    have H3 := Lib.hid h3
    have K3 := Lib.hid (K2.out.trans k3)
    have O3 := Lib.hid (own_kept O2.out k3 (fun q hq e => by have := (O2.out.lt q hq).1; omega))
    have s3 := k3.size
    clear h3 k3 q51 H2 K2 O2
    obtain ⟨g, rfl, hgc, hg0, hg1⟩ := own_partsE O3.out (by omega)
    have hkI : (k : Int) < (L.length : Int) := by omega
    have hkx := HE.out L[k] (List.getElem_mem _)
    rcases (show n5 = 0 ∨ n5 = 1 ∨ n5 = 2 ∨ n5 = 3 ∨ n5 = 4 by omega) with rfl | rfl | rfl | rfl | rfl
    · go_wp2_with fail
      refine (pick_any 2 _ r a c l (p + 1 + 1) (by omega) (by omega) (by omega) (H3.out.below (below_alloc w3 _))).mono ?_
      rintro e w4 ⟨q2, rfl, q20, q21, h4, k4⟩
      have q21' := q21 (by omega)
      obtain ⟨n2, rfl⟩ := Int.eq_ofNat_of_zero_le q20
      have s4 := k4.size
      simp only [World.size_alloc] at s4
      have hn2I : (n2 : Int) < 2 := q21'
      obtain ⟨z, hz⟩ := two_int 0 100000000 n2 (by omega)
      have cz : w4.cell? ⟨w3.heap.size, n2, none⟩ = some (.int .i64 z) := ((Box.alloc w3 #[.int .i64 0, .int .i64 100000000] 3).kept k4 (by omega) n2 _ hz).1
      have H4 := Lib.hid h4
      have K4 := Lib.hid ((K3.out.trans (KeptOut.of_below (S := fun b => b = r) (below_alloc w3 _))).trans k4)
      have O4 := Lib.hid (own_kept (own_below O3.out (below_alloc w3 _)) k4 (fun q hq e => by have := (O3.out.lt q hq).1; omega))
      obtain ⟨⟨vo, co⟩, fo⟩ := own_cells O4.out (Below.refl _ _) (k * 4 + 1) (by omega)
      clear h4 k4 q21 H3 K3 O3 hz
      go_wp2
      go_ret
      have KS := (KeptOut.refl (fun b => b = g) w4).setCell (p := ⟨g, k * 4 + 1, none⟩) rfl (.int .i64 z)
      exact drawE_of (M := L.set k (L[k].1, z, L[k].2.2.1, L[k].2.2.2)) (by simp) (by rw [← flat_set L k 1 hkL (by omega) (.int .i64 z) _ rfl]; exact (O4.out.stored _ _).1) (HE.out.set hkx.1 hkx.2) (by simp; omega) (H4.out.kept2 KS (by omega) (fun hn x hx => by have := HAR.out hn x hx; omega)) (by omega) (K4.out.step KS (fun b hb => .inl (by omega)))
    · go_wp2_with fail
      refine (many_any ⟨#[107]⟩ 25 _ (by decide) (by decide)).mono ?_
      rintro e w4' ⟨⟨t, ht, rfl⟩, rfl⟩
      go_wp2_with fail
      refine (of_any _ r a c l (p + 1 + 1) (by omega) (H3.out.below (below_alloc w3 _)) w3.heap.size 0 3 [⟨#[]⟩, ⟨#[97, 32, 98]⟩, t] (by simp) (by simp) (by omega) (lit_cells w3 [⟨#[]⟩, ⟨#[97, 32, 98]⟩, t] _)).mono ?_
      rintro e w4 ⟨y, hy, rfl, h4, k4⟩
      have s4 := k4.size
      simp only [World.size_alloc] at s4
      have hys : y.size ≤ 3000 := by
        simp only [List.mem_cons, List.not_mem_nil, or_false] at hy
        rcases hy with rfl | rfl | rfl <;> first | (rw [ht]; decide) | decide
      have H4 := Lib.hid h4
      have K4 := Lib.hid ((K3.out.trans (KeptOut.of_below (S := fun b => b = r) (below_alloc w3 _))).trans k4)
      have O4 := Lib.hid (own_kept (own_below O3.out (below_alloc w3 _)) k4 (fun q hq e => by have := (O3.out.lt q hq).1; omega))
      obtain ⟨⟨vo, co⟩, fo⟩ := own_cells O4.out (Below.refl _ _) (k * 4 + 0) (by omega)
      (try simp only [Nat.add_zero] at co fo)
      clear h4 k4 H3 K3 O3 hy
      go_wp2
      go_ret
      have KS := (KeptOut.refl (fun b => b = g) w4).setCell (p := ⟨g, k * 4 + 0, none⟩) rfl (.string y)
      exact drawE_of (M := L.set k (y, L[k].2.1, L[k].2.2.1, L[k].2.2.2)) (by simp) (by rw [← flat_set L k 0 hkL (by omega) (.string y) _ rfl]; exact (O4.out.stored _ _).1) (HE.out.set hys hkx.2) (by simp; omega) (H4.out.kept2 KS (by omega) (fun hn x hx => by have := HAR.out hn x hx; omega)) (by omega) (K4.out.step KS (fun b hb => .inl (by omega)))
    · go_wp2_with fail
      refine (many_any ⟨#[118]⟩ 81 _ (by decide) (by decide)).mono ?_
      rintro e w4' ⟨⟨t, ht, rfl⟩, rfl⟩
      go_wp2_with fail
      refine (of_any _ r a c l (p + 1 + 1) (by omega) (H3.out.below (below_alloc w3 _)) w3.heap.size 0 2 [⟨#[10]⟩, t] (by simp) (by simp) (by omega) (lit_cells w3 [⟨#[10]⟩, t] _)).mono ?_
      rintro e w4 ⟨y, hy, rfl, h4, k4⟩
      have s4 := k4.size
      simp only [World.size_alloc] at s4
      have hys : y.size ≤ 3000 := by
        simp only [List.mem_cons, List.not_mem_nil, or_false] at hy
        rcases hy with rfl | rfl <;> first | (rw [ht]; decide) | decide
      have H4 := Lib.hid h4
      have K4 := Lib.hid ((K3.out.trans (KeptOut.of_below (S := fun b => b = r) (below_alloc w3 _))).trans k4)
      have O4 := Lib.hid (own_kept (own_below O3.out (below_alloc w3 _)) k4 (fun q hq e => by have := (O3.out.lt q hq).1; omega))
      obtain ⟨⟨vo, co⟩, fo⟩ := own_cells O4.out (Below.refl _ _) (k * 4 + 3) (by omega)
      (try simp only [Nat.add_zero] at co fo)
      clear h4 k4 H3 K3 O3 hy
      go_wp2
      go_ret
      have KS := (KeptOut.refl (fun b => b = g) w4).setCell (p := ⟨g, k * 4 + 3, none⟩) rfl (.string y)
      exact drawE_of (M := L.set k (L[k].1, L[k].2.1, L[k].2.2.1, y)) (by simp) (by rw [← flat_set L k 3 hkL (by omega) (.string y) _ rfl]; exact (O4.out.stored _ _).1) (HE.out.set hkx.1 hys) (by simp; omega) (H4.out.kept2 KS (by omega) (fun hn x hx => by have := HAR.out hn x hx; omega)) (by omega) (K4.out.step KS (fun b hb => .inl (by omega)))
    · obtain ⟨⟨vo, co⟩, fo⟩ := own_cells O3.out (Below.refl _ _) (k * 4 + 2) (by omega)
      obtain ⟨⟨vo3, co3⟩, fo3⟩ := own_cells O3.out (Below.refl _ _) (k * 4 + 3) (by omega)
      go_wp2
      go_ret
      have KS := ((KeptOut.refl (fun b => b = g) w3).setCell (p := ⟨g, k * 4 + 2, none⟩) rfl (.bool true)).setCell (p := ⟨g, k * 4 + 3, none⟩) rfl (.string ⟨#[118]⟩)
      have hk2 : k < (L.set k (L[k].1, L[k].2.1, true, L[k].2.2.2)).length := by simpa using hkL
      exact drawE_of (M := (L.set k (L[k].1, L[k].2.1, true, L[k].2.2.2)).set k (L[k].1, L[k].2.1, true, ⟨#[118]⟩)) (by simp) (by rw [← flat_set _ k 3 hk2 (by omega) (.string ⟨#[118]⟩) _ (by simp; rfl), ← flat_set L k 2 hkL (by omega) (.bool true) _ rfl]; exact ((O3.out.stored _ _).1.stored _ _).1) ((HE.out.set (e := (L[k].1, L[k].2.1, true, L[k].2.2.2)) hkx.1 hkx.2).set (e := (L[k].1, L[k].2.1, true, ⟨#[118]⟩)) hkx.1 (show (⟨#[118]⟩ : ByteArray).size ≤ 3000 by decide)) (by simp; omega) (H3.out.kept2 KS (by omega) (fun hn x hx => by have := HAR.out hn x hx; omega)) (by omega) (K3.out.step KS (fun b hb => .inl (by omega)))
    · obtain ⟨ck0, ck1, ck2, ck3⟩ := cellsEntry (Below.refl _ w3) (own_cellsE O3.out) k hkL
      simp only [Nat.zero_add] at ck0 ck1 ck2 ck3
      go_wp2_with (at_builtin; refine wpList_append_own _ rfl _ _ 25 rfl w.heap.size 32 i0 (.agg #[.string ⟨#[]⟩, .int .i64 0, .bool false, .string ⟨#[]⟩]) 4 48 Tryd.underlying25 hi hz0 hz1 hz2 rfl (by decide) _ _ _ rfl (O3.out.alloc _) ⟨w3.heap.size, 0, none⟩ 1 1 [.string L[k].1, .int .i64 L[k].2.1, .bool L[k].2.2.1, .string L[k].2.2.2] rfl rfl (cellsNew _ _ _) (by simp [Value.oneCell']) (by unfold maxLen; omega) (by omega) (by simp; omega) ?_; intro v5 w5 o5 g5 _; obtain ⟨a5, c5, rfl⟩ := own_shape o5)
      go_ret
      have B5 : Below w.heap.size w3 w5 := ((Below.refl w.heap.size w3).alloc (by omega) _).grown g5 (by simp; omega) (fun q hq => (O3.out.lt q hq).1)
      have KS : KeptOut (fun b => w.heap.size ≤ b) w3 w5 := ⟨B5.os, B5.tape, B5.output, by have := (kept_of_grown g5).size; simp at this; omega, fun q hq hn => B5.block q (by omega)⟩
      exact drawE_of (M := L ++ [L[k]]) (by simp) (by rw [flat_snoc]; exact o5) (fun x hx => (List.mem_append.1 hx).elim (HE.out x) (fun h => by rw [List.mem_singleton.1 h]; exact hkx)) (by simp; omega) (H3.out.kept2 KS (by omega) (fun hn x hx => by have := HAR.out hn x hx; omega)) (by omega) (K3.out.step KS (fun b hb => .inl hb))

set_option maxRecDepth 100000 in
set_option maxHeartbeats 1600000 in
theorem anyE_any (w : World) (r : Nat) (a : Option Addr) (c : Nat) (l : List UInt8) (p : Nat) (hp : p ≤ 10000000) (h : Rd w r a c l p) :
    Calls Tryd.prog 23 #[.pointer (some ⟨r, 0, none⟩)] w (DrawEPost w r a c l p 60 241) := by
  have hr : r < w.heap.size := h.lt
  have HAR := Lib.hid (rd_har h)
  have HR := Lib.hid h
  clear h
  go_enter Tryd.func23, Tryd.ntmps23
  go_wp2_with fail
  refine (l12Entries_any _ r a c l p (by omega) HR.out).mono ?_
  rintro e w1 ⟨b, cb, L, p1, rfl, e1, hcb, hb, hE, hn, h1, hp1, k1⟩
  have z1 := k1.size
  have E1 := Lib.hid e1
  have HB := Lib.hid hb
  have HE := Lib.hid hE
  have H1 := Lib.hid h1
  have K1 := Lib.hid k1
  clear e1 hb hE h1 k1
  go_wp2_with fail
  refine (pick_any 12 _ r a c l p1 (by omega) (by omega) (by omega) H1.out).mono ?_
  rintro e w2 ⟨q, rfl, q0, q1, h2, k2⟩
  have z2 := k2.size
  have H2 := Lib.hid h2
  have E2 := Lib.hid (E1.out.kept k2 (fun k hk e => by have := HB.out k hk; omega))
  have K2 := Lib.hid (K1.out.trans k2)
  clear h2 k2 q1 E1 K1 H1
  by_cases hq : q = 0
  · subst hq
    go_wp2_with fail
    refine (spoilE_any _ r a c l (p1 + 1) (by omega) H2.out b cb L E2.out HE.out (by omega)).mono ?_
    rintro e w3 ⟨b3, cb3, L3, p3, rfl, e3, hcb3, hb3, hE3, hn3, h3, hp3, k3⟩
    have E3 := Lib.hid e3
    have HB3 := Lib.hid hb3
    have HE3 := Lib.hid hE3
    have H3 := Lib.hid h3
    have K3 := Lib.hid k3
    clear e3 hb3 hE3 h3 k3
    go_wp2
    go_ret
    exact ⟨b3, cb3, L3, p3, rfl, E3.out, hcb3, fun k hk => by have := HB3.out k hk; omega, HE3.out, hn3, H3.out, by omega, K2.out.trans K3.out⟩
  · have hq' : (q == 0) = false := by simp [hq]
    clear hq
    go_wp2
    go_ret
    exact ⟨b, cb, L, p1 + 1, rfl, E2.out, hcb, HB.out, HE.out, by omega, H2.out, by omega, K2.out⟩
end Go.Proofs.YtfekpbkcidhbfaaDoor
