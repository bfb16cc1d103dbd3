import Derived.Test.YtakcmjnfkcoilaaDoorWord
import Derived.Test.YtakcmjnfkcoilaaDoorStrTo
import Derived.Test.YtakcmjnfkcoilaaDoorStrMark
/- WireGet of the program: the words, one after the other. -/
namespace Go.Proofs.YtakcmjnfkcoilaaDoor
open Go Go.RowKit

theorem wordR_size (s : ByteArray) (h : wordOk s = true) : (wordR s).size < s.size := by
  have h1 : (wordR s).size = (cutB s).size - (wordN s + 1) := by
    show (List.toArray _).size = _
    simp
  have h2 := cutB_size s
  unfold wordOk at h
  simp only [Bool.and_eq_true, decide_eq_true_eq] at h
  omega
theorem wordW_size (s : ByteArray) : (wordW s).size ≤ s.size := by
  have h2 := cutB_size s
  show (List.toArray _).size ≤ _
  simp
  omega

/-- the words of a text, if it is of words -/
def wires (s : ByteArray) : Option (List ByteArray) :=
  if s.size = 0 then some [] else if _h : wordOk s = true then (wires (wordR s)).map (wordW s :: ·) else none
termination_by s.size
decreasing_by exact wordR_size s ‹_›

theorem wires_nil {s : ByteArray} (h : s.size = 0) : wires s = some [] := by rw [wires, if_pos h]
theorem wires_no {s : ByteArray} (h0 : s.size ≠ 0) (h : wordOk s = false) : wires s = none := by rw [wires, if_neg h0, dif_neg (by simp [h])]
theorem wires_yes {s : ByteArray} (h0 : s.size ≠ 0) (h : wordOk s = true) : wires s = (wires (wordR s)).map (wordW s :: ·) := by rw [wires, if_neg h0, dif_pos h]

def wireOf (o : Option (List ByteArray)) : List ByteArray × Bool := match o with | some l => (l, true) | none => ([], false)
/-- what WireGet answers -/
def wireGet (s : ByteArray) : List ByteArray × Bool := if s.size ≤ 2000 then wireOf (wires s) else ([], false)

def WirePost (w : World) (l : List ByteArray) (b : Bool) (e : Ending) (w' : World) : Prop :=
  ∃ v, e = .returned (.tuple #[v, .bool b]) ∧ w'.ownsRow w.heap.size 9 1 v l.length (l.map .string) ∧ Below w.heap.size w w'

def strLen (v : Value) : Nat := match v with | .string r => r.size | _ => 0

theorem empty_beq (s : ByteArray) (h : s.size = 0) : s.toList = [] := by
  rw [ByteArray.toList_eq]; exact List.eq_nil_of_length_eq_zero (by simpa using h)
theorem empty_bne (s : ByteArray) (h : s.size ≠ 0) : ¬ s.toList = [] := by
  rw [ByteArray.toList_eq]; intro e; apply h; have := congrArg List.length e; simpa using this

set_option maxRecDepth 100000 in
set_option maxHeartbeats 1000000 in
theorem implWire_any (s : ByteArray) (w : World) (hs : s.size ≤ maxLen) :
    Calls Tryd.prog 15 #[.string s] w (WirePost w (wireGet s).1 (wireGet s).2) := by
  obtain ⟨i0, hi, hz0, hz1, hz2⟩ := info_parts infoStr
  have hs' := hs
  unfold maxLen at hs'
  by_cases hb : (2000 : Int) < (s.size : Int)
  · rw [show wireGet s = ([], false) by unfold wireGet; rw [if_neg (by omega)]]
    go_enter Tryd.func15, Tryd.ntmps15
    go_wp2
    go_ret2
    exact ⟨.slice none 0 0, rfl, World.ownsRow_nil _ _ _ _, Below.refl _ _⟩
  · have hb' : (s.size : Int) ≤ 2000 := by omega
    have HW := Lib.hid (show wireGet s = wireOf (wires s) by unfold wireGet; rw [if_pos (by omega)])
    clear hb
    go_enter Tryd.func15, Tryd.ntmps15
    go_wp2
    go_loopw [0, 4] (fun t v wr => ∃ (r : ByteArray) (acc : List ByteArray), t = .string r ∧ wires s = (wires r).map (acc ++ ·) ∧ acc.length + r.size ≤ s.size ∧ wr.ownsRow w.heap.size 9 1 v acc.length (acc.map .string) ∧ Below w.heap.size w wr) (fun t _ _ => strLen t)
    case atStart => exact ⟨s, [], rfl, by simp, by simp, World.ownsRow_nil _ _ _ _, Below.refl _ _⟩
    case round =>
      obtain ⟨r, acc, rfl, hw, hsz, hown, hbel⟩ := hrel
      have HO := Lib.hid hown
      have HV := Lib.hid hw
      clear hown hw
      by_cases h0 : r.size = 0
      · have HF := Lib.hid (show wireGet s = (acc, true) by rw [HW.out, HV.out, wires_nil h0]; simp [wireOf])
        have e1 := empty_beq r h0
        have e2 : r.toList.isEmpty = true := by rw [e1]; rfl
        clear h0
        go_wp2
        go_ret2
        rw [HF.out]
        exact ⟨_, rfl, HO.out, hbel⟩
      · have e1 := empty_bne r h0
        have e2 : r.toList.isEmpty = false := by simpa using e1
        by_cases hk : wordOk r = true
        · have HP := Lib.hid (wordO_yes hk)
          have HY := Lib.hid (show wires s = (wires (wordR r)).map ((acc ++ [wordW r]) ++ ·) by rw [HV.out, wires_yes h0 hk]; simp [Function.comp_def])
          have hlt := wordR_size r hk
          clear h0 hk
          go_wp2_with (first | (go_at_call 37; refine (word_any _ _ (by unfold maxLen; omega)).mono ?_; rintro e w1 ⟨rfl, q, rfl⟩; rw [HP.out]) | (at_builtin; refine wpList_append_own _ rfl (.tmp 21) (.tmp 23) 25 rfl w.heap.size 9 i0 (.string ⟨#[]⟩) 1 16 Tryd.underlying25 hi hz0 hz1 hz2 rfl (by decide) _ _ _ rfl ((own_below HO.out (below_drewN (Below.refl _ _) q)).alloc _) ⟨wr.heap.size, 0, none⟩ 1 1 [.string (wordW r)] rfl rfl (cell_one_new _ _ _) (by simp [Value.oneCell']) (by unfold maxLen; omega) (by omega) (by have := hbel.size; simp; omega) ?_; intro v2 w2 hown2 hgrow2 _))
          have hb2 : Below w.heap.size w w2 := ((below_drewN hbel q).alloc hbel.size _).grown hgrow2 (by have := hbel.size; simp; omega) (fun k hk => (HO.out.lt k hk).1)
          have ho2 : w2.ownsRow w.heap.size 9 1 v2 (acc ++ [wordW r]).length ((acc ++ [wordW r]).map .string) := by simpa using hown2
          clear hown2 hgrow2
          go_roundw
          case rel => exact ⟨wordR r, acc ++ [wordW r], rfl, HY.out, by simp; omega, ho2, hb2⟩
          case measure => simp only [strLen]; exact hlt
        · have hk' : wordOk r = false := by simpa using hk
          have HP := Lib.hid (wordO_no hk')
          have HF := Lib.hid (show wireGet s = ([], false) by rw [HW.out, HV.out, wires_no h0 hk']; rfl)
          clear h0 hk hk'
          go_wp2_with (go_at_call 37; refine (word_any _ _ (by unfold maxLen; omega)).mono ?_; rintro e w1 ⟨rfl, q, rfl⟩; rw [HP.out])
          go_ret2
          rw [HF.out]
          exact ⟨.slice none 0 0, rfl, World.ownsRow_nil _ _ _ _, below_drewN hbel q⟩
end Go.Proofs.YtakcmjnfkcoilaaDoor
