import Derived.Test.YtbioljpjpflboaaGreatDoorAround
import Derived.Test.YtbioljpjpflboaaGreatDoorSpaceS
/- A node by its name; what is around a node, as a function. -/
namespace Go.Proofs.YtbioljpjpflboaaGreatDoor
open Go Go.RowKit

/-- pointers to nodes, one beside the other -/
def PtS (w : World) (a : Option Addr) (nbl : List Nat) : Prop := nbl.length ≤ 1048576 ∧ (nbl = [] ∨ ∃ b o, a = some ⟨b, o, none⟩ ∧ ∀ j (h : j < nbl.length), w.cell? ⟨b, o + j, none⟩ = some (.pointer (some ⟨nbl[j], 0, none⟩)))
theorem PtS.below {w w' : World} {a : Option Addr} {nbl : List Nat} (h : PtS w a nbl) (hb : Below w.heap.size w w') : PtS w' a nbl := by
  refine ⟨h.1, h.2.imp id ?_⟩
  rintro ⟨b, o, e, hc⟩
  refine ⟨b, o, e, fun j hj => ?_⟩
  have h0 := hc j hj
  rw [hb.cell (by have := World.block_lt_of_cell? w _ h0; simpa using this)]
  exact h0
/-- the names of nodes -/
def NmS (w : World) (nbl : List Nat) (l : List SpaceD) : Prop := ∀ j (h : j < nbl.length) (hl : j < l.length), w.cell? ⟨nbl[j], 0, none⟩ = some (.string l[j].1)
theorem NmS.below {w w' : World} {nbl : List Nat} {l : List SpaceD} (h : NmS w nbl l) (hb : Below w.heap.size w w') : NmS w' nbl l := fun j hj hl => by
  have h0 := h j hj hl
  rw [hb.cell (by have := World.block_lt_of_cell? w _ h0; simpa using this)]
  exact h0
def adrO (nbl : List Nat) (c : Option Nat) : Option Addr := c.map fun i => ⟨nbl.getD i 0, 0, none⟩

set_option maxRecDepth 100000 in
set_option maxHeartbeats 1000000 in
theorem find_any (a : Option Addr) (c : Nat) (nbl : List Nat) (l : List SpaceD) (hln : nbl.length = l.length) (name : ByteArray) (w : World) (hp : PtS w a nbl) (hn : NmS w nbl l) :
    Calls Tryz.prog 116 #[.agg #[.slice a nbl.length c], .string name] w fun e w' => e = .returned (.pointer (adrO nbl (idxS l name))) ∧ Below w.heap.size w w' := by
  have HP := Lib.hid hp
  have HN := Lib.hid hn
  have hlen := hp.1
  clear hp hn
  go_enter Tryz.func116, Tryz.ntmps116
  go_wp2
  go_loopw [10] (fun i wr => ∃ k : Nat, k ≤ nbl.length ∧ i = .int .i64 k ∧ (∀ j (hj : j < k) (hl : j < l.length), l[j].1 ≠ name) ∧ Below w.heap.size w wr) (fun i _ => nbl.length - (intOf i).toNat)
  case atStart => exact ⟨0, Nat.zero_le _, rfl, fun j hj => absurd hj (Nat.not_lt_zero _), (by repeat (first | exact Below.refl _ _ | (refine Below.alloc ?_ (by first | (simp; done) | (simp; omega)) _) | (refine Below.setCell ?_ (by first | (simp; done) | (simp; omega)) _) | (refine Below.drew ?_)))⟩
  case round =>
    obtain ⟨k, hk, rfl, hto, hbel⟩ := hrel
    have HT := Lib.hid hto
    have HB := Lib.hid hbel
    clear hto hbel
    by_cases hlt : k < nbl.length
    · obtain ⟨b, o, rfl, hcell⟩ := HP.out.2.resolve_left (fun e => by rw [e] at hlt; simp at hlt)
      have hkl : k < l.length := by omega
      have h1 := hcell k hlt
      have c1 := (HB.out.cell (by have := World.block_lt_of_cell? w _ h1; simpa using this)).trans h1
      have h2 := HN.out k hlt hkl
      have c2 := (HB.out.cell (by have := World.block_lt_of_cell? w _ h2; simpa using this)).trans h2
      have hk0 : (0 : Int) ≤ (k : Int) := by omega
      have hk1 : (k : Int) < (nbl.length : Int) := by omega
      have HA := Lib.hid (show nbl.getD k 0 = nbl[k] by rw [List.getD_eq_getElem?_getD, List.getElem?_eq_getElem hlt]; rfl)
      clear hcell h1 h2
      obtain ⟨bk, hbk⟩ : ∃ bk, nbl[k] = bk := ⟨_, rfl⟩
      rw [hbk] at c1 c2 HA
      clear hbk
      by_cases e : l[k].1 = name
      · have q1 : (l[k].1.toList == name.toList) = true := by rw [e]; simp
        have HF := Lib.hid (show adrO nbl (idxS l name) = some ⟨bk, 0, none⟩ by rw [idxS_some hkl e (fun j hj => HT.out j hj _)]; show some (⟨nbl.getD k 0, 0, none⟩ : Addr) = _; rw [HA.out])
        clear e
        go_wp2
        go_ret
        exact ⟨by rw [HF.out]; rfl, HB.out⟩
      · have q1 : (l[k].1.toList == name.toList) = false := by
          rw [beq_eq_false_iff_ne]
          exact fun e2 => e (toList_inj e2)
        have HS := Lib.hid (show ∀ j (hj : j < k + 1) (hl : j < l.length), l[j].1 ≠ name from fun j hj hl' => by
          by_cases hjk : j < k
          · exact HT.out j hjk hl'
          · obtain rfl : j = k := by omega
            exact e)
        clear e
        go_wp2
        go_roundw
        case rel => exact ⟨k + 1, by omega, by go_num, HS.out, HB.out⟩
        case measure => simp [intOf]; omega
    · have HF := Lib.hid (show adrO nbl (idxS l name) = none by rw [idxS_none (fun j hj => HT.out j (by omega) hj)]; rfl)
      go_wp2
      go_ret
      exact ⟨by rw [HF.out]; rfl, HB.out⟩

def MkAround (w : World) (p : Option Addr) (e : Ending) (w' : World) : Prop := e = .returned (.func (.func 149) #[] #[.pointer (some ⟨w.heap.size, 0, none⟩)]) ∧ w' = w.alloc (.cells #[.pointer p] 146)
set_option maxRecDepth 100000 in
theorem around_any (p : Option Addr) (w : World) : Calls Tryz.prog 135 #[.pointer p] w (MkAround w p) := by
  go_enter Tryz.func135, Tryz.ntmps135
  go_wp2
  go_ret
  exact ⟨rfl, rfl⟩
end Go.Proofs.YtbioljpjpflboaaGreatDoor
