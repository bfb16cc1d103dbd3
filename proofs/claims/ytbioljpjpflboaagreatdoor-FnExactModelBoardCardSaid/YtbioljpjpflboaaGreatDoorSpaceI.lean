import Derived.Test.YtbioljpjpflboaaGreatDoorLink
import Derived.Test.YtbioljpjpflboaaGreatDoorIsIn
/- SpacesOk, SpaceIn of the program. -/
namespace Go.Proofs.YtbioljpjpflboaaGreatDoor
open Go Go.RowKit

set_option maxRecDepth 100000 in
set_option maxHeartbeats 800000 in
theorem implSpaces_any (a : Option Addr) (ca : Nat) (l : List SpaceD) (w : World) (hl : ElS 5 encSpace w a l) (hok : ∀ x ∈ l, OkSpace x) :
    Calls Tryz.prog 97 #[.slice a l.length ca] w fun e w' => e = .returned (.bool (spsOk l)) ∧ Below w.heap.size w w' := by
  have HX := Lib.hid hl
  go_enter Tryz.func97, Tryz.ntmps97
  go_wp2_with fail
  refine (spaceLink_any a ca l _ hl hok).mono ?_
  rintro e w1 (⟨h, rfl, b1⟩ | ⟨h, a1, c1, nbl, rfl, ht, b1⟩)
  · have H := Lib.hid h
    clear h
    go_wp2
    go_ret
    exact ⟨ret_bool H.out.symm, b1.alloc b1.size _⟩
  · have H := Lib.hid h
    clear h
    go_wp2
    go_ret
    exact ⟨ret_bool H.out.symm, b1.alloc b1.size _⟩
theorem TreeS.below {w w' : World} {base : Nat} {a : Option Addr} {nbl : List Nat} {l : List SpaceD} (h : TreeS w base a nbl l) (hb : Below w.heap.size w w') : TreeS w' base a nbl l :=
  ⟨h.len, h.pts.below hb, fun i hi => (h.nod i hi).below hb, h.blk⟩
theorem TreeS.nms {w : World} {base : Nat} {a : Option Addr} {nbl : List Nat} {l : List SpaceD} (h : TreeS w base a nbl l) : NmS w nbl l := fun j hj hl => by
  exact (h.nod j hj 0 (.string l[j].1) (by rw [nodV_at hl]; rfl)).1
/-- the names on the way outward, by the places of the program's -/
theorem ups_names {l : List SpaceD} {m : Nat} (h : m = l.length) (hk : spsOk l = true) (name : ByteArray) : (trail (nxF l m) (finO m (idxS l name)) l.length).map (nmF l m) = upS l name := by
  have e1 : (trail (nxF l m) (finO m (idxS l name)) l.length).map (nmF l m) = ((trail (nxF l m) (finO m (idxS l name)) l.length).map Fin.val).map (nmS l) := by rw [List.map_map]; rfl
  rw [e1, trailF h, finO_val (fun j hj => by rw [h]; exact idxS_lt hj)]
  unfold upS
  have he := sps_end hk name
  have h7 := (sps_len hk).2.1
  rw [(trail_end he (show l.length ≤ 8 by omega)).1]
theorem end_fin {l : List SpaceD} {m : Nat} (h : m = l.length) (hk : spsOk l = true) (name : ByteArray) : after (nxF l m) (finO m (idxS l name)) l.length = none := by
  have e := afterF h (finO m (idxS l name)) l.length
  rw [finO_val (fun j hj => by rw [h]; exact idxS_lt hj), sps_end hk name] at e
  exact Option.map_eq_none_iff.1 e
theorem isIn_names {l : List SpaceD} {m : Nat} (h : m = l.length) (hk : spsOk l = true) (name over : ByteArray) : (trail (nxF l m) (finO m (idxS l name)) l.length).any (isN (nmF l m) over) = inSp l name over := by
  unfold inSp
  rw [← ups_names h hk name, List.any_map]
  rfl
theorem adrN_none (nbl : List Nat) : adrN nbl none = none := rfl

/-- in no tree there is nothing -/
theorem find_no (name : ByteArray) (w : World) : Calls Tryz.prog 116 #[.agg #[.slice none 0 0], .string name] w fun e w' => e = .returned (.pointer none) ∧ Below w.heap.size w w' :=
  find_any none 0 [] [] rfl name w ⟨by simp, .inl rfl⟩ (fun j hj => absurd hj (Nat.not_lt_zero _))
theorem isIn_no (over : ByteArray) (w : World) : Calls Tryz.prog 117 #[.pointer none, .string over] w fun e w' => e = .returned (.bool false) ∧ Below w.heap.size w w' :=
  isIn_any [] (fun i => i.elim0) (fun i => i.elim0) none 0 rfl over w ⟨fun i => i.elim0, fun i => i.elim0⟩
set_option maxRecDepth 100000 in
set_option maxHeartbeats 800000 in
theorem implSpaceIn_any (a : Option Addr) (ca : Nat) (l : List SpaceD) (name over : ByteArray) (w : World) (hl : ElS 5 encSpace w a l) (hok : ∀ x ∈ l, OkSpace x) :
    Calls Tryz.prog 100 #[.slice a l.length ca, .string name, .string over] w fun e w' => e = .returned (.bool (spsOk l && inSp l name over)) ∧ Below w.heap.size w w' := by
  go_enter Tryz.func100, Tryz.ntmps100
  go_wp2_with fail
  refine (spaceLink_any a ca l _ hl hok).mono ?_
  rintro e w1 (⟨h, rfl, b1⟩ | ⟨h, a1, c1, nbl, rfl, ht, b1⟩)
  · have H := Lib.hid h
    clear h
    go_wp2_with (first
      | (go_at_call 116; refine (find_no name _).mono ?_; rintro e w2 ⟨rfl, b2⟩)
      | (go_at_call 117; refine (isIn_no over _).mono ?_; rintro e w3 ⟨rfl, b3⟩))
    go_ret
    have B1 := b1.alloc b1.size (.cells #[.slice none 0 0] 142)
    have B2 := B1.trans (b2.mono B1.size)
    exact ⟨ret_bool (by rw [H.out]; rfl), B2.trans (b3.mono B2.size)⟩
  · have H := Lib.hid h
    have HT := Lib.hid ht
    have hln := ht.len
    have HA := Lib.hid (show adrO nbl (idxS l name) = adrN nbl (finO nbl.length (idxS l name)) from (adrN_fin (fun j hj => by rw [hln]; exact idxS_lt hj)).symm)
    have HI := Lib.hid (show (trail (nxF l nbl.length) (finO nbl.length (idxS l name)) l.length).any (isN (nmF l nbl.length) over) = (spsOk l && inSp l name over) by rw [h, isIn_names hln h]; rfl)
    clear h ht
    go_wp2_with (first
      | (go_at_call 116; (try rw [← hln]); refine (find_any a1 c1 nbl l hln name _ (HT.out.pts.below (below_alloc _ _)) (HT.out.nms.below (below_alloc _ _))).mono ?_; rintro e w2 ⟨rfl, b2⟩; rw [HA.out])
      | (go_at_call 117; refine (isIn_any nbl (nmF l nbl.length) (nxF l nbl.length) _ l.length (end_fin hln H.out name) over _ (nodesS_of hln ((HT.out.below (below_alloc _ _)).below b2).nod)).mono ?_; rintro e w3 ⟨rfl, b3⟩))
    go_ret
    have B1 := b1.alloc b1.size (.cells #[.slice a1 nbl.length c1] 142)
    have B2 := B1.trans (b2.mono B1.size)
    exact ⟨ret_bool HI.out, B2.trans (b3.mono B2.size)⟩
end Go.Proofs.YtbioljpjpflboaaGreatDoor
