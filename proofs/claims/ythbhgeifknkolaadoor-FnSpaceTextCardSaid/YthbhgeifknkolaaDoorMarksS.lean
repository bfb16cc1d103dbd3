import Derived.Test.YthbhgeifknkolaaDoorMarksOk
/- Marks and bodies, as the model has them. -/
namespace Go.Proofs.YthbhgeifknkolaaDoor
open Go Go.RowKit
attribute [local go_sem] run_geqS

theorem specName_is {s : ByteArray} (hs : s.size ≤ maxLen) {b : Bool} (h : nameB s.data.toList = b) (w : World) :
    Calls Tryd.prog 37 #[.string s] w fun e w' => e = .returned (.bool b) ∧ w' = w :=
  (spec_name s w hs).mono fun _ _ ⟨h1, k⟩ => ⟨by rw [h1, h], k.symm⟩

def lowC (lo : Int) (c : UInt8) : Bool := decide (lo ≤ (c.toNat : Int) ∧ (c.toNat : Int) ≤ 126)
def bytesIn (lo : Int) (s : ByteArray) : Bool := s.data.toList.all (lowC lo)
theorem all_nextT {p : UInt8 → Bool} (s : ByteArray) (k : Nat) (h : k < s.size) (h0 : (s.data.toList.take k).all p = true) (h1 : p s[k] = true) :
    (s.data.toList.take (k + 1)).all p = true := by
  rw [List.take_succ_eq_append_getElem (by simpa using h), List.all_append, h0]
  have e : s.data.toList[k]'(by simpa using h) = s[k] := rfl
  simp [e, h1]
theorem all_notT {p : UInt8 → Bool} (s : ByteArray) (k : Nat) (h : k < s.size) (h1 : p s[k] = false) : s.data.toList.all p = false := by
  have hm : s[k] ∈ s.data.toList := by
    have : s.data.toList[k]'(by simpa using h) = s[k] := rfl
    rw [← this]; exact List.getElem_mem _
  rw [List.all_eq_false]
  exact ⟨_, hm, by simp [h1]⟩
theorem all_endT {p : UInt8 → Bool} (s : ByteArray) (k : Nat) (h : ¬ k < s.size) (h0 : (s.data.toList.take k).all p = true) : s.data.toList.all p = true := by
  rwa [List.take_of_length_le (by simp; omega)] at h0
/-- what can be the body of a thing -/
def bodyB1 (s : ByteArray) : Bool := decide (s.size ≤ 40) && bytesIn 32 s

set_option maxHeartbeats 400000 in
theorem count_any (n lo : Int) (w : World) :
    Calls Tryd.prog 35 #[.int .i64 n, .int .i64 lo] w fun e w' => e = .returned (.bool (inB n lo 99999)) ∧ w = w' := by
  by_cases h : lo ≤ n
  · have HN := Lib.hid (show inB n lo 99999 = decide (n ≤ 99999) by unfold inB; simp [h])
    go_enter Tryd.func35, Tryd.ntmps35
    go_wp2
    go_ret
    exact ⟨ret_bool (by rw [HN.out]), rfl⟩
  · have hi : n < lo := by omega
    have HN := Lib.hid (show inB n lo 99999 = false by unfold inB; simp [h])
    clear h
    go_enter Tryd.func35, Tryd.ntmps35
    go_wp2
    go_ret
    exact ⟨ret_bool (by rw [HN.out]), rfl⟩
end Go.Proofs.YthbhgeifknkolaaDoor
