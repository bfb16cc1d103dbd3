import Derived.Test.YtbioljpjpflboaaGreatDoorModelAll3
import Derived.Test.YtbioljpjpflboaaGreatDoorWriteAll
/- How all stands, as a text: plain words. -/
namespace Go.Proofs.YtbioljpjpflboaaGreatDoor
open Go Go.RowKit

def spLn (s : SpaceD) (u : Int) : ByteArray := s.1 ++ ⟨#[32, 105, 110, 32]⟩ ++ swB s ++ ⟨#[32, 117, 115, 101, 115, 32]⟩ ++ decI u ++ ⟨#[10]⟩
def thLn (t : ThingD) : ByteArray := ⟨#[32, 32]⟩ ++ t.nm ++ ⟨#[32]⟩ ++ twB t ++ ⟨#[10]⟩
def thOne (o : Option ThingD) (sp : ByteArray) : ByteArray := match o with | none => ⟨#[]⟩ | some t => if t.sp = sp then thLn t else ⟨#[]⟩
def thsTo (T : List ThingD) (sp : ByteArray) : Nat → ByteArray
  | 0 => ⟨#[]⟩
  | k + 1 => thsTo T sp k ++ thOne T[k]? sp
def spOne (o : Option SpaceD) (u : Option UseD) : ByteArray := match o, u with | some s, some u => spLn s u.2 | _, _ => ⟨#[]⟩
def nmOne (o : Option SpaceD) : ByteArray := match o with | some s => s.1 | none => ⟨#[]⟩
def headM (rev : Int) : ByteArray := ⟨#[99, 111, 117, 110, 116, 32]⟩ ++ decI rev ++ ⟨#[10]⟩
def bdTo (rev : Int) (S : List SpaceD) (U : List UseD) (T : List ThingD) : Nat → ByteArray
  | 0 => headM rev
  | k + 1 => bdTo rev S U T k ++ spOne S[k]? U[k]? ++ thsTo T (nmOne S[k]?) T.length
def boardB (m : ModelD) : ByteArray := if modelB m = true then bdTo m.rev m.sps m.uses m.ths m.sps.length else ⟨#[]⟩
theorem boardB_no {m : ModelD} (h : modelB m = false) : boardB m = ⟨#[]⟩ := by unfold boardB; rw [h]; rfl
theorem boardB_yes {m : ModelD} (h : modelB m = true) : boardB m = bdTo m.rev m.sps m.uses m.ths m.sps.length := by unfold boardB; rw [if_pos h]
theorem thsTo_yes {T : List ThingD} {sp : ByteArray} {k : Nat} (h : k < T.length) (e : T[k].sp = sp) : thsTo T sp (k + 1) = thsTo T sp k ++ thLn T[k] := by
  rw [thsTo, List.getElem?_eq_getElem h]
  show _ ++ (if T[k].sp = sp then thLn T[k] else ⟨#[]⟩) = _
  rw [if_pos e]
theorem app_nilB (a : ByteArray) : a ++ (⟨#[]⟩ : ByteArray) = a := by
  have h : (a ++ (⟨#[]⟩ : ByteArray)).data.toList = a.data.toList := by simp [ByteArray.data_append]
  cases a
  generalize hx : (_ ++ _ : ByteArray) = x at h
  cases x
  simp at h
  simp [h]
theorem thsTo_no {T : List ThingD} {sp : ByteArray} {k : Nat} (h : k < T.length) (e : ¬ T[k].sp = sp) : thsTo T sp (k + 1) = thsTo T sp k := by
  rw [thsTo, List.getElem?_eq_getElem h]
  show _ ++ (if T[k].sp = sp then thLn T[k] else ⟨#[]⟩) = _
  rw [if_neg e, app_nilB]
theorem bdTo_next (rev : Int) {S : List SpaceD} {U : List UseD} (T : List ThingD) {k : Nat} (h : k < S.length) (hu : k < U.length) : bdTo rev S U T (k + 1) = bdTo rev S U T k ++ spLn S[k] U[k].2 ++ thsTo T S[k].1 T.length := by
  rw [bdTo, List.getElem?_eq_getElem h, List.getElem?_eq_getElem hu]
  rfl
theorem swB_le (x : SpaceD) : (swB x).size ≤ 100 := by
  unfold swB
  split
  · rename_i h
    have h1 := spOk_over h
    obtain ⟨⟨a1, a2⟩, b1, b2⟩ := spOk_nums h
    have h2 := wordB_size x.2.1
    have h3 := decI_size (n := x.2.2.1) (by omega) (by omega)
    have h4 := decI_size (n := x.2.2.2.2) (by omega) (by omega)
    have h5 := flagB_size x.2.2.2.1
    unfold swL
    simp only [ByteArray.size_append]
    show _ + 1 + _ + 1 + _ + 1 + _ ≤ 100
    omega
  · exact Nat.zero_le _
theorem twB_le (t : ThingD) : (twB t).size ≤ 110 := by
  unfold twB
  split
  · rename_i h
    obtain ⟨⟨a1, a2⟩, ⟨b1, b2⟩, c, d, e⟩ := thing_nums h
    have h3 := decI_size (n := t.uid) (by omega) (by omega)
    have h4 := decI_size (n := t.rev) (by omega) (by omega)
    have h5 := flagB_size t.gone
    have h6 := joW_size (l := t.marks) fun s hs => (d s hs).2
    unfold twL
    simp only [ByteArray.size_append]
    show _ + 1 + _ + 1 + _ + 1 + _ + 1 + _ ≤ 110
    omega
  · exact Nat.zero_le _
theorem modelB_facts {m : ModelD} (h : modelB m = true) : (0 ≤ m.rev ∧ m.rev ≤ 99999) ∧ m.sps.length ≤ 7 ∧ (∀ k (h : k < m.sps.length), m.sps[k].1.size ≤ 6) ∧ m.uses.length = m.sps.length ∧ (∀ k (h : k < m.uses.length), 0 ≤ m.uses[k].2 ∧ m.uses[k].2 ≤ 99999) ∧ m.ths.length ≤ 10 ∧ (∀ k (h : k < m.ths.length), thingB m.ths[k] = true) := by
  unfold modelB at h
  simp only [Bool.and_eq_true] at h
  obtain ⟨h1, h2, h3, h4, h5, h6, h7, h8⟩ := h
  have hr := of_decide_eq_true h1
  rw [spsOk_def, Bool.and_eq_true, Bool.and_eq_true, Bool.and_eq_true] at h4
  have hl := of_decide_eq_true h4.1.2
  unfold usesB at h5
  rw [Bool.and_eq_true, decide_eq_true_eq] at h5
  unfold thingsB at h6
  rw [Bool.and_eq_true, decide_eq_true_eq] at h6
  refine ⟨⟨hr.1, hr.2⟩, by omega, fun k hk => ?_, h5.1, fun k hk => ?_, h6.1, fun k hk => ?_⟩
  · have := upto_at h4.1.1.1 hk
    unfold ascP at this
    rw [Bool.and_eq_true, getD_sp hk] at this
    have := this.1
    unfold spOk at this
    simp only [Bool.and_eq_true] at this
    exact (nameB_sizes this.1.1.1.1.1).2
  · have := upto_at h5.2 hk
    unfold useP at this
    rw [Bool.and_eq_true, List.getD_eq_getElem?_getD, List.getElem?_eq_getElem hk] at this
    have := of_decide_eq_true this.2
    exact ⟨this.1, this.2⟩
  · have := List.all_eq_true.1 h6.2 k (List.mem_range.2 hk)
    unfold thAt at this
    simp only [List.getD_eq_getElem?_getD, List.getElem?_eq_getElem hk, Option.getD_some, Bool.and_eq_true] at this
    exact this.1
theorem thsTo_size {T : List ThingD} (h : ∀ k (h : k < T.length), T[k].nm.size ≤ 6) (sp : ByteArray) : ∀ k, k ≤ T.length → (thsTo T sp k).size ≤ 120 * k
  | 0, _ => by unfold thsTo; exact Nat.le_refl _
  | k + 1, hk => by
    have ih := thsTo_size h sp k (by omega)
    by_cases e : T[k].sp = sp
    · rw [thsTo_yes (by omega) e, ByteArray.size_append]
      have h1 := h k (by omega)
      have h2 := twB_le T[k]
      have h3 : (thLn T[k]).size ≤ 120 := by
        unfold thLn
        simp only [ByteArray.size_append]
        show 2 + _ + 1 + _ + 1 ≤ 120
        omega
      omega
    · rw [thsTo_no (by omega) e]; omega
theorem spLn_size {s : SpaceD} (h : s.1.size ≤ 6) {u : Int} (h0 : 0 ≤ u) (h1 : u ≤ 99999) : (spLn s u).size ≤ 140 := by
  have h2 := swB_le s
  have h3 := decI_size (n := u) (by omega) (by omega)
  unfold spLn
  simp only [ByteArray.size_append]
  show _ + 4 + _ + 6 + _ + 1 ≤ 140
  omega
theorem thing_nm {t : ThingD} (h : thingB t = true) : t.nm.size ≤ 6 := by
  unfold thingB at h
  simp only [Bool.and_eq_true] at h
  exact (nameB_sizes h.2.1).2
theorem bdTo_size {m : ModelD} (h : modelB m = true) : ∀ k, k ≤ m.sps.length → (bdTo m.rev m.sps m.uses m.ths k).size ≤ 30 + 1400 * k
  | 0, _ => by
    obtain ⟨⟨h1, h2⟩, _⟩ := modelB_facts h
    have h3 := decI_size (n := m.rev) (by omega) (by omega)
    unfold bdTo headM
    simp only [ByteArray.size_append]
    show 6 + _ + 1 ≤ 30 + 1400 * 0
    omega
  | k + 1, hk => by
    have ih := bdTo_size h k (by omega)
    obtain ⟨_, h1, h2, h3, h4, h5, h6⟩ := modelB_facts h
    have e := bdTo_next m.rev (S := m.sps) (U := m.uses) m.ths (k := k) (by omega) (by omega)
    have s1 := spLn_size (h2 k (by omega)) (h4 k (by omega)).1 (h4 k (by omega)).2
    have s2 := thsTo_size (T := m.ths) (fun k h => thing_nm (h6 k h)) (m.sps[k]).1 m.ths.length (Nat.le_refl _)
    rw [e]
    simp only [ByteArray.size_append]
    omega
end Go.Proofs.YtbioljpjpflboaaGreatDoor
