import Derived.Test.YtdimenahnohjlaaGreatSpaceInS
import Derived.Test.YtdimenahnohjlaaGreatUse
import Derived.Deep.QuietTactic
import Derived.BigQuiet
/- What spaces use: the model. -/
namespace Go.Proofs.YtdimenahnohjlaaGreat
open Go Go.RowKit

def isU (name : ByteArray) (x : UseD) : Bool := decide (x.1 = name)
/-- how much a space uses, by uses -/
def useN (u : List UseD) (name : ByteArray) : Int := match u.find? (isU name) with | some x => x.2 | none => 0
theorem useN_at {u : List UseD} {name : ByteArray} {k : Nat} (hk : k < u.length) (h : u[k].1 = name) (ht : ∀ j, j < k → ∀ (hl : j < u.length), u[j].1 ≠ name) : useN u name = u[k].2 := by
  unfold useN
  have : u.find? (isU name) = some u[k] := by
    rw [List.find?_eq_some_iff_getElem]
    exact ⟨by simpa [isU] using h, k, hk, rfl, fun j hj => by simpa [isU] using ht j hj _⟩
  rw [this]
theorem useN_none {u : List UseD} {name : ByteArray} (h : ∀ j (hj : j < u.length), u[j].1 ≠ name) : useN u name = 0 := by
  unfold useN
  have : u.find? (isU name) = none := by
    rw [List.find?_eq_none]
    intro x hx
    obtain ⟨j, hj, rfl⟩ := List.mem_iff_getElem.1 hx
    simpa [isU] using h j hj
  rw [this]

/-- one use is ok at its place -/
def useP (l : List SpaceD) (u : List UseD) (i : Nat) : Bool := decide ((u.getD i default).1 = nmS l i) && inB (u.getD i default).2 0 99999
/-- uses are ok with spaces -/
def usesB (l : List SpaceD) (u : List UseD) : Bool := decide (u.length = l.length) && upto (useP l u) u.length
theorem getD_us {u : List UseD} {k : Nat} (h : k < u.length) : u.getD k default = u[k] := by rw [List.getD_eq_getElem?_getD, List.getElem?_eq_getElem h]; rfl

set_option maxRecDepth 100000 in
set_option maxHeartbeats 2000000 in
theorem l8Uses_any (a b : Option Addr) (ca cb : Nat) (l : List SpaceD) (u : List UseD) (w : World) (hl : ElS 5 encSpace w a l) (hu : ElS 2 encUse w b u) :
    Calls Tryz.prog 45 #[.slice a l.length ca, .slice b u.length cb] w fun e w' => e = .returned (.bool (usesB l u)) ∧ Below w.heap.size w w' := by
  have hl1 := hl.1
  have hu1 := hu.1
  unfold maxLen at hl1 hu1
  have HX := Lib.hid hl
  have HY := Lib.hid hu
  clear hl hu
  by_cases hn : u.length = l.length
  · have hni : ((u.length : Int) != (l.length : Int)) = false := by rw [hn]; simp
    have HD := Lib.hid (show usesB l u = upto (useP l u) u.length by unfold usesB; rw [decide_eq_true hn]; rfl)
    have HNL := Lib.hid hn
    clear hn
    go_enter Tryz.func45, Tryz.ntmps45
    go_wp2
    go_loopw [5] (fun i wr => ∃ k : Nat, k ≤ u.length ∧ i = .int .i64 k ∧ upto (useP l u) k = true ∧ Below w.heap.size w wr) (fun i _ => u.length - (intOf i).toNat)
    case atStart => exact ⟨0, Nat.zero_le _, rfl, rfl, Below.refl _ _⟩
    case round =>
      obtain ⟨k, hk, rfl, hto, hbel⟩ := hrel
      have HT := Lib.hid hto
      have HB := Lib.hid hbel
      clear hto hbel
      by_cases hlt : k < u.length
      · have hll : k < l.length := by have := HNL.out; omega
        obtain ⟨b1, o1, rfl, hc1⟩ := HX.out.2.resolve_left (fun e => by rw [e] at hll; simp at hll)
        obtain ⟨b2, o2, rfl, hc2⟩ := HY.out.2.resolve_left (fun e => by rw [e] at hlt; simp at hlt)
        have cl := (cellsSpace HB.out hc1 k hll).1
        obtain ⟨cu0, cu1⟩ := cellsUse HB.out hc2 k hlt
        have hk0 : (0 : Int) ≤ (k : Int) := by omega
        have hk1 : (k : Int) < (l.length : Int) := by omega
        have hk2 : (k : Int) < (u.length : Int) := by omega
        clear hc1 hc2
        have HP := Lib.hid (show useP l u k = (decide (u[k].1 = l[k].1) && inB u[k].2 0 99999) by unfold useP; rw [getD_us hlt, nmS_at hll])
        by_cases e : u[k].1 = l[k].1
        · have q1 : (!u[k].1.toList == l[k].1.toList) = false := by rw [e]; simp
          have HP2 := Lib.hid (show useP l u k = inB u[k].2 0 99999 by rw [HP.out, decide_eq_true e]; rfl)
          clear e
          obtain ⟨q, hq⟩ : ∃ q, inB u[k].2 0 99999 = q := ⟨_, rfl⟩
          have HQ := Lib.hid hq
          clear hq
          cases q with
          | true =>
            have HS := Lib.hid (show upto (useP l u) (k + 1) = true by rw [upto_succ, HT.out, HP2.out, HQ.out]; rfl)
            go_wp2_with fail
            go_quiet ((go_at_call 43; exact Calls.quiet_of_same (in_is HQ.out _)))
            go_wp2_with fail
            go_roundw
            case rel => exact ⟨k + 1, by omega, by go_num, HS.out, below_drewN HB.out _⟩
            case measure => simp [intOf]; omega
          | false =>
            have HF := Lib.hid (show usesB l u = false by rw [HD.out, upto_no hlt (by rw [HP2.out, HQ.out])])
            go_wp2_with fail
            go_quiet ((go_at_call 43; exact Calls.quiet_of_same (in_is HQ.out _)))
            go_wp2_with fail
            go_ret
            exact ⟨ret_bool HF.out.symm, below_drewN HB.out _⟩
        · have q1 : (!u[k].1.toList == l[k].1.toList) = true := by rw [toList_no e]; rfl
          have HF := Lib.hid (show usesB l u = false by rw [HD.out, upto_no hlt (by rw [HP.out, decide_eq_false e]; rfl)])
          clear e
          go_wp2_with fail
          go_quiet ((go_at_call 43; fail))
          go_wp2_with fail
          go_ret
          exact ⟨ret_bool HF.out.symm, below_drewN HB.out _⟩
      · have hkl : k = u.length := by omega
        subst hkl
        have HN := Lib.hid (show usesB l u = true by rw [HD.out, HT.out])
        go_wp2
        go_ret
        exact ⟨ret_bool HN.out.symm, HB.out⟩
  · have hni : ((u.length : Int) != (l.length : Int)) = true := by rw [bne_iff_ne]; omega
    have HD := Lib.hid (show usesB l u = false by unfold usesB; rw [decide_eq_false hn]; rfl)
    clear hn
    go_enter Tryz.func45, Tryz.ntmps45
    go_wp2
    go_ret
    exact ⟨ret_bool HD.out.symm, Below.refl _ _⟩
end Go.Proofs.YtdimenahnohjlaaGreat
