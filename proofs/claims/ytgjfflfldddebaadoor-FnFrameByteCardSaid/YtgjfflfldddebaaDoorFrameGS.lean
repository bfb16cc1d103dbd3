import Derived.Test.YtgjfflfldddebaaDoorCutS
import Derived.Deep.QuietTactic
import Derived.BigQuiet
/- FrameGet of the model. -/
namespace Go.Proofs.YtgjfflfldddebaaDoor
open Go Go.RowKit

def wordsB (b : ByteArray) : List ByteArray := cutsB 32 ((cutsB 58 (b.extract 16 b.size)).headD ⟨#[]⟩)
theorem head_map {l : List (List UInt8)} : (l.map mkB).headD ⟨#[]⟩ = mkB (l.headD []) := by
  cases l with
  | nil => simp [mkB]
  | cons a l => simp
theorem drop_list (b : ByteArray) (k : Nat) : (b.extract k b.size).data.toList = b.data.toList.drop k := by
  rw [Lib.extract_data, List.take_of_length_le (by rw [List.length_drop]; simp)]
theorem wordsB_eq (b : ByteArray) : wordsB b = (wordsL b.data.toList).map mkB := by
  unfold wordsB wordsL cutsB
  rw [head_map, mkB_list, drop_list]
theorem cutsB_ne (c : UInt8) (s : ByteArray) : cutsB c s ≠ [] := by
  unfold cutsB
  intro h
  exact cutL_ne c _ (List.map_eq_nil_iff.1 h)
theorem cutsB_mem (c : UInt8) (s : ByteArray) : ∀ x ∈ cutsB c s, x.size ≤ s.size := by
  intro x hx
  obtain ⟨l, hl, rfl⟩ := List.mem_map.1 hx
  have := cutL_mem c _ l hl
  rw [mkB_size]
  simpa using this
theorem hd_get {l : List ByteArray} {d : ByteArray} (h : 0 < l.length) : l[0] = l.headD d := by
  cases l with
  | nil => simp at h
  | cons a l => rfl
theorem outS_str {w' : World} {l : List ByteArray} {v : Value} {b : Nat} (hl : l.length ≤ maxLen) (hs : ∀ s ∈ l, s.size ≤ maxLen) (h : w'.ownsRow b 9 1 v l.length (l.map .string)) : ∃ a c, v = .slice a l.length c ∧ StrS w' a l := by
  obtain ⟨a, c, rfl⟩ := own_shpS h
  exact ⟨a, c, rfl, own_str hl hs h⟩

def bodyB (b : ByteArray) : ByteArray := mkB (bodyL b.data.toList)
theorem bodyB_size (b : ByteArray) : (bodyB b).size ≤ b.size := by
  unfold bodyB bodyL
  rw [mkB_size, List.length_drop, List.length_drop]
  have : b.data.toList.length = b.size := by simp
  omega
theorem colon_at {S : List UInt8} {i : Nat} (hi : i < S.length) (h : S[i] = 58) : colon (S.drop i) = 0 := by
  rw [List.drop_eq_getElem_cons hi]; simp [colon, h]
theorem colon_step {S : List UInt8} {i : Nat} (hi : i < S.length) (h : S[i] ≠ 58) : colon (S.drop i) = colon (S.drop (i + 1)) + 1 := by
  rw [List.drop_eq_getElem_cons hi]; simp [colon, h]

def lists (l : List ByteArray) : List (List UInt8) := l.map fun b => b.data.toList
noncomputable def getB (t n : Nat) (l : List ByteArray) : ByteArray × Nat := (mkB (frameGet t n (lists l)).1, (frameGet t n (lists l)).2)
theorem getB_no {t n : Nat} {l : List ByteArray} (h : readL t n (lists l) = false) : getB t n l = (⟨#[]⟩, 0) := by
  unfold getB; rw [read_no h]; rfl
theorem getB_yes {t n : Nat} {l : List ByteArray} (h : readL t n (lists l) = true) : getB t n l = (mkB (bodiesL (lists l) (partsL ((lists l).headD []))), partsL ((lists l).headD [])) := by
  unfold getB; rw [read_yes h]
def catB (l : List ByteArray) (k : Nat) : ByteArray := mkB (bodiesL (lists l) k)
theorem catB_zero (l : List ByteArray) : catB l 0 = ⟨#[]⟩ := rfl
theorem catB_succ (l : List ByteArray) (k : Nat) (h : k < l.length) : catB l (k + 1) = catB l k ++ bodyB l[k] := by
  have hk : k < (lists l).length := by simpa [lists] using h
  apply bytes_ext
  unfold catB bodyB
  rw [mkB_list, ByteArray.data_append, Array.toList_append, mkB_list, mkB_list]
  unfold bodiesL
  rw [List.take_succ_eq_append_getElem hk, List.flatMap_append]
  simp [lists]
theorem catB_size (l : List ByteArray) : ∀ k, k ≤ l.length → (catB l k).size ≤ sumSize (l.take k)
  | 0, _ => by rw [catB_zero]; exact Nat.zero_le _
  | k + 1, h => by
    rw [catB_succ l k (by omega), ByteArray.size_append, sumSize_take l k (by omega)]
    have := catB_size l k (by omega)
    have := bodyB_size l[k]
    omega
theorem lists_head {l : List ByteArray} (h : 0 < l.length) : (lists l).headD [] = l[0].data.toList := by
  cases l with
  | nil => simp at h
  | cons a l => rfl
theorem lists_len (l : List ByteArray) : (lists l).length = l.length := by simp [lists]
theorem lists_putB (t n : Nat) (x : ByteArray) : lists (putB t n x) = putL t n x.data.toList := by
  unfold lists putB
  rw [List.map_map]
  conv => rhs; rw [← List.map_id (putL t n x.data.toList)]
  apply List.map_congr_left
  intro a _
  simp
theorem lists_inj {l m : List ByteArray} (h : lists l = lists m) : l = m := by
  unfold lists at h
  exact List.map_inj_right (fun a b e => bytes_ext e) |>.1 h
theorem lists_take (l : List ByteArray) (k : Nat) : (lists l).take k = lists (l.take k) := by simp [lists]
theorem putL_cat (t n : Nat) (l : List ByteArray) (k : Nat) : putL t n (bodiesL (lists l) k) = lists (putB t n (catB l k)) := by
  rw [lists_putB, catB, mkB_list]
theorem cat_len (l : List ByteArray) (k : Nat) : (bodiesL (lists l) k).length = (catB l k).size := by rw [catB, mkB_size]
/-- what the model looks at, of a list that is not empty -/
theorem read_eq {t n : Nat} {l : List ByteArray} {q : Nat} (h : 0 < l.length) (hq : partsL l[0].data.toList = q) :
    readL t n (lists l) = (decide (1 ≤ q) && decide (q ≤ l.length) && decide ((catB l q).size ≤ 2000) && decide (putB t n (catB l q) = l.take q)) := by
  unfold readL
  rw [lists_head h, hq, lists_len, cat_len, putL_cat, lists_take]
  have hne : lists l ≠ [] := by intro e; rw [← lists_len, e] at h; simp at h
  rw [decide_eq_true hne, Bool.true_and]
  congr 1
  exact decide_eq_decide.2 ⟨fun e => lists_inj e, fun e => congrArg lists e⟩
theorem getB_len (t n : Nat) {l : List ByteArray} {q : Nat} (h : 0 < l.length) (hq : partsL l[0].data.toList = q) (h1 : 1 ≤ q) (h2 : q ≤ l.length) (h3 : (catB l q).size ≤ 2000) (h4 : putB t n (catB l q) = l.take q) : getB t n l = (catB l q, q) := by
  rw [getB_yes (by rw [read_eq h hq, decide_eq_true h1, decide_eq_true h2, decide_eq_true h3, decide_eq_true h4]; rfl), lists_head h, hq]
  rfl
theorem ret_si {a b : ByteArray} {c d : Int} (h : a = b) (k : c = d) : Ending.returned (.tuple #[.string a, .int .i64 c]) = .returned (.tuple #[.string b, .int .i64 d]) := by rw [h, k]

def GetOut (t n : Nat) (l : List ByteArray) (w : World) (e : Ending) (w' : World) : Prop := e = .returned (.tuple #[.string (getB t n l).1, .int .i64 (getB t n l).2]) ∧ Below w.heap.size w w'
theorem getOut_no {t n : Nat} {l : List ByteArray} {w w' : World} (h : readL t n (lists l) = false) (b : Below w.heap.size w w') : GetOut t n l w (.returned (.tuple #[.string ⟨#[]⟩, .int .i64 0])) w' := by
  unfold GetOut; rw [getB_no h]; exact ⟨rfl, b⟩

/-- what FrameGet answers -/
noncomputable def getI (t n : Int) (l : List ByteArray) : ByteArray × Nat := if inB t 0 99999999 && inB n 0 99999999 then getB t.toNat n.toNat l else (⟨#[]⟩, 0)
def GetOutI (t n : Int) (l : List ByteArray) (w : World) (e : Ending) (w' : World) : Prop := e = .returned (.tuple #[.string (getI t n l).1, .int .i64 (getI t n l).2]) ∧ Below w.heap.size w w'

end Go.Proofs.YtgjfflfldddebaaDoor
