import Derived.Test.YthbhgeifknkolaaDoorSpRdW
import Derived.Deep.Cut
/- SpaceRead of the model. -/
namespace Go.Proofs.YthbhgeifknkolaaDoor
open Go Go.RowKit

def spV (x : SpaceD) : Value := .agg #[.string x.1, .string x.2.1, .int .i64 x.2.2.1, .bool x.2.2.2.1, .int .i64 x.2.2.2.2]
def RdPost (w : World) (r : SpaceD × Bool) (e : Ending) (w' : World) : Prop := e = .returned (.tuple #[spV r.1, .bool r.2]) ∧ Below w.heap.size w w'
set_option maxRecDepth 100000 in
set_option maxHeartbeats 4000000 in
theorem specSpRd_any (key text : ByteArray) (w : World) (hk : key.size ≤ 1048576) (ht : text.size ≤ 1048576) :
    Calls Tryd.prog 6 #[.string key, .string text] w (RdPost w (rdS key text)) := by
  obtain ⟨w1, hA⟩ : ∃ wA, w.alloc (.cells #[.string ⟨#[]⟩, .string ⟨#[]⟩, .int .i64 0, .bool false, .int .i64 0] 26) = wA := ⟨_, rfl⟩
  have BX := Lib.hid (show Box w1 w.heap.size [.string ⟨#[]⟩, .string ⟨#[]⟩, .int .i64 0, .bool false, .int .i64 0] by rw [← hA]; exact Box.alloc w _ _)
  have B1 := Lib.hid (show Below w.heap.size w w1 by rw [← hA]; exact below_alloc _ _)
  have z1 : w1.heap.size = w.heap.size + 1 := by rw [← hA, World.size_alloc]
  have HF := Lib.hid (show ∀ W, Below w1.heap.size w1 W → Below w.heap.size w W from fun W hb => B1.out.trans (hb.mono (by omega)))
  have KS := Lib.hid (show ∀ W, Below w1.heap.size w1 W → (W.cell? ⟨w.heap.size, 0, none⟩ = some (.string ⟨#[]⟩) ∧ W.frozen? ⟨w.heap.size, 0, none⟩ = false) ∧ (W.cell? ⟨w.heap.size, 1, none⟩ = some (.string ⟨#[]⟩) ∧ W.frozen? ⟨w.heap.size, 1, none⟩ = false) ∧ (W.cell? ⟨w.heap.size, 2, none⟩ = some (.int .i64 0) ∧ W.frozen? ⟨w.heap.size, 2, none⟩ = false) ∧ (W.cell? ⟨w.heap.size, 3, none⟩ = some (.bool false) ∧ W.frozen? ⟨w.heap.size, 3, none⟩ = false) ∧ (W.cell? ⟨w.heap.size, 4, none⟩ = some (.int .i64 0) ∧ W.frozen? ⟨w.heap.size, 4, none⟩ = false) from fun W hb => by
    have h := BX.out.below hb
    exact ⟨h 0 _ rfl, h 1 _ rfl, h 2 _ rfl, h 3 _ rfl, h 4 _ rfl⟩)
  have HA := Lib.hid hA
  clear hA
  obtain ⟨L, hL⟩ : ∃ L, cutsB 32 text = L := ⟨_, rfl⟩
  have HL := Lib.hid hL
  have hlen := cutsB_len 32 text
  rw [hL] at hlen
  have HR : ∀ r : SpaceD × Bool, rdS key text = r → rdS key text = r := fun r h => h
  clear hL HR
  by_cases h4 : L.length = 4
  rotate_left
  · have HN := Lib.hid (show rdS key text = (zeroSp, false) from rdS_len (by rw [HL.out]; exact h4))
    have h4' : ((L.length : Int) == 4) = false := by rw [beq_eq_false_iff_ne]; omega
    have h4n : ((L.length : Int) != 4) = true := by simp; omega
    rw [HN.out]
    clear h4
    go_enter Tryd.func6, Tryd.ntmps6
    go_wp2_with fail
    rw [HA.out]
    refine (l3Cut_any text 32 (by omega) _).mono ?_
    rintro e w2 ⟨u, rfl, o, b⟩
    rw [HL.out] at o
    obtain ⟨va, vc, rfl⟩ := own_shpS o
    obtain ⟨⟨y0, f0⟩, ⟨y1, f1⟩, ⟨y2, f2⟩, ⟨y3, f3⟩, y4, f4⟩ := KS.out _ b
    go_wp2
    exact bodyPost_ret (v := .tuple #[spV zeroSp, .bool false]) (by simp [results, Tryd.results6, go_sem, spV, zeroSp, y0, y1, y2, y3, y4]) rfl ⟨rfl, (((((HF.out _ b).setCell (Nat.le_refl _) _).setCell (Nat.le_refl _) _).setCell (Nat.le_refl _) _).setCell (Nat.le_refl _) _).setCell (Nat.le_refl _) _⟩
  obtain ⟨c0, c1, c2, c3, rfl⟩ := len4 h4
  have hsz : ∀ x ∈ [c0, c1, c2, c3], x.size ≤ 1048576 := fun x hx => by
    have h1 : x ∈ cutsB 32 text := by rw [HL.out]; exact hx
    unfold cutsB at h1
    obtain ⟨l, hl, rfl⟩ := List.mem_map.1 h1
    rw [mkB_size]
    have := cutL_mem 32 _ l hl
    simp at this
    omega
  have s0 := hsz c0 (by simp)
  have s1 := hsz c1 (by simp)
  have s3 := hsz c3 (by simp)
  clear hsz h4 hlen
  cases hp : preB key with
  | false =>
    have HN := Lib.hid (show rdS key text = (zeroSp, false) from rdS_pre hp)
    have HP := Lib.hid hp
    rw [HN.out]
    clear hp
    go_enter Tryd.func6, Tryd.ntmps6
    go_wp2_with fail
    rw [HA.out]
    refine (l3Cut_any text 32 (by omega) _).mono ?_
    rintro e w2 ⟨u, rfl, o, b⟩
    rw [HL.out] at o
    obtain ⟨va, vc, rfl⟩ := own_shpS o
    clear o
    go_wp2_with fail
    refine (l4St_any key (by omega) _).mono ?_
    rintro e w3 ⟨rfl, b3⟩
    rw [HP.out]
    have B3 := b.trans (b3.mono b.size)
    obtain ⟨⟨y0, f0⟩, ⟨y1, f1⟩, ⟨y2, f2⟩, ⟨y3, f3⟩, y4, f4⟩ := KS.out _ B3
    go_wp2
    exact bodyPost_ret (v := .tuple #[spV zeroSp, .bool false]) (by simp [results, Tryd.results6, go_sem, spV, zeroSp, y0, y1, y2, y3, y4]) rfl ⟨rfl, (((((HF.out _ B3).setCell (Nat.le_refl _) _).setCell (Nat.le_refl _) _).setCell (Nat.le_refl _) _).setCell (Nat.le_refl _) _).setCell (Nat.le_refl _) _⟩
  | true =>
  have hk2 : 2 ≤ key.size := by
    unfold preB at hp
    rw [Bool.and_eq_true] at hp
    exact of_decide_eq_true hp.1
  have hk2' : (2 : Int) ≤ (key.size : Int) := by omega
  have HP := Lib.hid hp
  clear hp
  obtain ⟨nmK, hnm⟩ : ∃ x, key.extract 2 key.size = x := ⟨_, rfl⟩
  have HNM := Lib.hid hnm
  have HN1 := Lib.hid (fun W => specNum_any c1 W (by unfold maxLen; omega))
  have HN3 := Lib.hid (fun W => specNum_any c3 W (by unfold maxLen; omega))
  obtain ⟨n1, hn1⟩ : ∃ n, numI c1.data.toList = n := ⟨_, rfl⟩
  obtain ⟨n3, hn3⟩ : ∃ n, numI c3.data.toList = n := ⟨_, rfl⟩
  obtain ⟨g2, hg2⟩ : ∃ g, goB c2 = g := ⟨_, rfl⟩
  have hgq : (c2.toList == [103, 111, 105, 110, 103]) = g2 := by
    rw [← hg2]
    unfold goB
    by_cases e : c2 = ⟨#[103, 111, 105, 110, 103]⟩
    · rw [eqW [103, 111, 105, 110, 103] e, decide_eq_true e]
    · rw [neqW [103, 111, 105, 110, 103] e, decide_eq_false e]
  rw [hn1] at HN1
  rw [hn3] at HN3
  have H1 := Lib.hid hn1
  have H3 := Lib.hid hn3
  have HG2 := Lib.hid hg2
  clear hnm hn1 hn3 hg2
  go_enter Tryd.func6, Tryd.ntmps6
  go_wp2_with fail
  rw [HA.out]
  refine (l3Cut_any text 32 (by omega) _).mono ?_
  rintro e w2 ⟨u, rfl, o, b⟩
  rw [HL.out] at o
  rcases o.2 with ⟨hv, h0⟩ | ⟨g, cap, cur, hv, hr⟩
  · exact absurd h0 (by simp)
  subst hv
  have e0 : w2.cell? ⟨g, 0, none⟩ = some (.string c0) := o.cellAt 0 (by simp)
  have e1 : w2.cell? ⟨g, 1, none⟩ = some (.string c1) := o.cellAt 1 (by simp)
  have e2 : w2.cell? ⟨g, 2, none⟩ = some (.string c2) := o.cellAt 2 (by simp)
  have e3 : w2.cell? ⟨g, 3, none⟩ = some (.string c3) := o.cellAt 3 (by simp)
  have hg := (o.lt g rfl).2
  have KW := Lib.hid (show ∀ W, Below w2.heap.size w2 W → Below w2.heap.size w2 W ∧ W.cell? ⟨g, 0, none⟩ = some (.string c0) ∧ W.cell? ⟨g, 1, none⟩ = some (.string c1) ∧ W.cell? ⟨g, 2, none⟩ = some (.string c2) ∧ W.cell? ⟨g, 3, none⟩ = some (.string c3) from fun W hb => by
    refine ⟨hb, (hb.cell hg).trans e0, (hb.cell hg).trans e1, (hb.cell hg).trans e2, (hb.cell hg).trans e3⟩)
  have HB := Lib.hid b
  clear o hr e0 e1 e2 e3 b
  go_wp2_with fail
  refine (l4St_any key (by omega) _).mono ?_
  rintro e w3 ⟨rfl, b3⟩
  rw [HP.out]
  have hkx : (key.extract 2 key.size).size ≤ maxLen := by rw [ByteArray.size_extract]; unfold maxLen; omega
  go_upto_region 4 with fail
  refine wp_region_held_drew (S := fun W => Below w2.heap.size w2 W ∧ W.cell? ⟨g, 0, none⟩ = some (.string c0) ∧ W.cell? ⟨g, 1, none⟩ = some (.string c1) ∧ W.cell? ⟨g, 2, none⟩ = some (.string c2) ∧ W.cell? ⟨g, 3, none⟩ = some (.string c3)) (by kernel_rfl) (KW.out _ b3.drew) (fun hHeld => ?_)
  refine wpAnyH_take (i := 0) (oi := { dst := some 19, op := Op.move (Operand.tmp 0), type := 9, pos := "l8_space.go:193", after := _, guard := none }) (v := ?_) rfl (by kernel_rfl) (by kernel_rfl) (by kernel_rfl) (fun _ _ _ h => h) (Or.inl ⟨by rfl, ?_⟩) (by assumption) ?_
  rotate_left
  · (intro w hSw; (try dsimp only at hSw); go_simp; (try with_reducible rfl))
  simp only [Act.put, List.setIfInBounds_toArray, List.set_cons_zero, List.set_cons_succ]
  refine wpAnyH_take (i := 1) (oi := { dst := some 20, op := Op.slice 9 (Operand.tmp 19) (some (Operand.const (Value.int IntKind.i64 2))) none none, type := 9, pos := "l8_space.go:193", after := _, guard := none }) (v := ?_) rfl (by kernel_rfl) (by kernel_rfl) (by kernel_rfl) (fun _ _ _ h => h) (Or.inl ⟨by rfl, ?_⟩) (by assumption) ?_
  rotate_left
  · (intro w hSw; (try dsimp only at hSw); go_simp; (try with_reducible rfl))
  simp only [Act.put, List.setIfInBounds_toArray, List.set_cons_zero, List.set_cons_succ]
  refine wpAnyH_take (i := 2) (oi := { dst := some 21, op := Op.move (Operand.tmp 6), type := 36, pos := "l8_space.go:193", after := _, guard := none }) (v := ?_) rfl (by kernel_rfl) (by kernel_rfl) (by kernel_rfl) (fun _ _ _ h => h) (Or.inl ⟨by rfl, ?_⟩) (by assumption) ?_
  rotate_left
  · (intro w hSw; (try dsimp only at hSw); go_simp; (try with_reducible rfl))
  simp only [Act.put, List.setIfInBounds_toArray, List.set_cons_zero, List.set_cons_succ]
  refine wpAnyH_take (i := 3) (oi := { dst := some 22, op := Op.indexAddr 36 (Operand.tmp 21) (Operand.const (Value.int IntKind.i64 0)), type := 0, pos := "l8_space.go:193", after := _, guard := none }) (v := ?_) rfl (by kernel_rfl) (by kernel_rfl) (by kernel_rfl) (fun _ _ _ h => h) (Or.inl ⟨by rfl, ?_⟩) (by assumption) ?_
  rotate_left
  · (intro w hSw; (try dsimp only at hSw); go_simp; (try with_reducible rfl))
  simp only [Act.put, List.setIfInBounds_toArray, List.set_cons_zero, List.set_cons_succ]
  refine wpAnyH_take (i := 4) (oi := { dst := some 23, op := Op.load 9 (Operand.tmp 22), type := 9, pos := "l8_space.go:193", after := _, guard := none }) (v := ?_) rfl (by kernel_rfl) (by kernel_rfl) (by kernel_rfl) (fun _ _ _ h => h) (Or.inl ⟨by rfl, ?_⟩) (by assumption) ?_
  rotate_left
  · (intro w hSw; (try dsimp only at hSw); go_simp; (try with_reducible rfl))
  simp only [Act.put, List.setIfInBounds_toArray, List.set_cons_zero, List.set_cons_succ]
  refine wpAnyH_take (i := 5) (oi := { dst := some 24, op := Op.move (Operand.tmp 6), type := 36, pos := "l8_space.go:193", after := _, guard := none }) (v := ?_) rfl (by kernel_rfl) (by kernel_rfl) (by kernel_rfl) (fun _ _ _ h => h) (Or.inl ⟨by rfl, ?_⟩) (by assumption) ?_
  rotate_left
  · (intro w hSw; (try dsimp only at hSw); go_simp; (try with_reducible rfl))
  simp only [Act.put, List.setIfInBounds_toArray, List.set_cons_zero, List.set_cons_succ]
  refine wpAnyH_take (i := 6) (oi := { dst := some 25, op := Op.indexAddr 36 (Operand.tmp 24) (Operand.const (Value.int IntKind.i64 1)), type := 0, pos := "l8_space.go:193", after := _, guard := none }) (v := ?_) rfl (by kernel_rfl) (by kernel_rfl) (by kernel_rfl) (fun _ _ _ h => h) (Or.inl ⟨by rfl, ?_⟩) (by assumption) ?_
  rotate_left
  · (intro w hSw; (try dsimp only at hSw); go_simp; (try with_reducible rfl))
  simp only [Act.put, List.setIfInBounds_toArray, List.set_cons_zero, List.set_cons_succ]
  refine wpAnyH_take (i := 7) (oi := { dst := some 26, op := Op.load 9 (Operand.tmp 25), type := 9, pos := "l8_space.go:193", after := _, guard := none }) (v := ?_) rfl (by kernel_rfl) (by kernel_rfl) (by kernel_rfl) (fun _ _ _ h => h) (Or.inl ⟨by rfl, ?_⟩) (by assumption) ?_
  rotate_left
  · (intro w hSw; (try dsimp only at hSw); go_simp; (try with_reducible rfl))
  simp only [Act.put, List.setIfInBounds_toArray, List.set_cons_zero, List.set_cons_succ]
  refine wpAnyH_take (i := 9) (oi := { dst := some 28, op := Op.move (Operand.tmp 6), type := 36, pos := "l8_space.go:193", after := _, guard := none }) (v := ?_) rfl (by kernel_rfl) (by kernel_rfl) (by kernel_rfl) (fun _ _ _ h => h) (Or.inl ⟨by rfl, ?_⟩) (by assumption) ?_
  rotate_left
  · (intro w hSw; (try dsimp only at hSw); go_simp; (try with_reducible rfl))
  simp only [Act.put, List.setIfInBounds_toArray, List.set_cons_zero, List.set_cons_succ]
  refine wpAnyH_take (i := 10) (oi := { dst := some 29, op := Op.indexAddr 36 (Operand.tmp 28) (Operand.const (Value.int IntKind.i64 2)), type := 0, pos := "l8_space.go:193", after := _, guard := none }) (v := ?_) rfl (by kernel_rfl) (by kernel_rfl) (by kernel_rfl) (fun _ _ _ h => h) (Or.inl ⟨by rfl, ?_⟩) (by assumption) ?_
  rotate_left
  · (intro w hSw; (try dsimp only at hSw); go_simp; (try with_reducible rfl))
  simp only [Act.put, List.setIfInBounds_toArray, List.set_cons_zero, List.set_cons_succ]
  refine wpAnyH_take (i := 11) (oi := { dst := some 30, op := Op.load 9 (Operand.tmp 29), type := 9, pos := "l8_space.go:193", after := _, guard := none }) (v := ?_) rfl (by kernel_rfl) (by kernel_rfl) (by kernel_rfl) (fun _ _ _ h => h) (Or.inl ⟨by rfl, ?_⟩) (by assumption) ?_
  rotate_left
  · (intro w hSw; (try dsimp only at hSw); go_simp; (try with_reducible rfl))
  simp only [Act.put, List.setIfInBounds_toArray, List.set_cons_zero, List.set_cons_succ]
  refine wpAnyH_take (i := 12) (oi := { dst := some 31, op := Op.binOp BinOp.eql 9 (Operand.tmp 30) (Operand.const (Value.string { data := #[103, 111, 105, 110, 103] })) 9, type := 4, pos := "l8_space.go:193", after := _, guard := none }) (v := ?_) rfl (by kernel_rfl) (by kernel_rfl) (by kernel_rfl) (fun _ _ _ h => h) (Or.inl ⟨by rfl, ?_⟩) (by assumption) ?_
  rotate_left
  · (intro w hSw; (try dsimp only at hSw); go_simp; (try with_reducible rfl))
  simp only [Act.put, List.setIfInBounds_toArray, List.set_cons_zero, List.set_cons_succ]
  refine wpAnyH_take (i := 13) (oi := { dst := some 32, op := Op.move (Operand.tmp 6), type := 36, pos := "l8_space.go:193", after := _, guard := none }) (v := ?_) rfl (by kernel_rfl) (by kernel_rfl) (by kernel_rfl) (fun _ _ _ h => h) (Or.inl ⟨by rfl, ?_⟩) (by assumption) ?_
  rotate_left
  · (intro w hSw; (try dsimp only at hSw); go_simp; (try with_reducible rfl))
  simp only [Act.put, List.setIfInBounds_toArray, List.set_cons_zero, List.set_cons_succ]
  refine wpAnyH_take (i := 14) (oi := { dst := some 33, op := Op.indexAddr 36 (Operand.tmp 32) (Operand.const (Value.int IntKind.i64 3)), type := 0, pos := "l8_space.go:193", after := _, guard := none }) (v := ?_) rfl (by kernel_rfl) (by kernel_rfl) (by kernel_rfl) (fun _ _ _ h => h) (Or.inl ⟨by rfl, ?_⟩) (by assumption) ?_
  rotate_left
  · (intro w hSw; (try dsimp only at hSw); go_simp; (try with_reducible rfl))
  simp only [Act.put, List.setIfInBounds_toArray, List.set_cons_zero, List.set_cons_succ]
  refine wpAnyH_take (i := 15) (oi := { dst := some 34, op := Op.load 9 (Operand.tmp 33), type := 9, pos := "l8_space.go:193", after := _, guard := none }) (v := ?_) rfl (by kernel_rfl) (by kernel_rfl) (by kernel_rfl) (fun _ _ _ h => h) (Or.inl ⟨by rfl, ?_⟩) (by assumption) ?_
  rotate_left
  · (intro w hSw; (try dsimp only at hSw); go_simp; (try with_reducible rfl))
  simp only [Act.put, List.setIfInBounds_toArray, List.set_cons_zero, List.set_cons_succ]
  refine wpAnyH_ready (rs := [8, 18]) (by kernel_rfl) (by simp) ?_
  refine AllReadyH.cons (o := { dst := some 27, op := Op.call { callee := Callee.value (Operand.func 20), args := #[Operand.tmp 26], argTypes := #[9] }, type := 3, pos := "l8_space.go:193", after := _, guard := none }) rfl (fun K hK => ?_) ?_
  · skip
    go_simp
    refine (HN1.out _).mono ?_
    rintro e w4 ⟨rfl, rfl⟩
    (try dsimp only)
    refine hK.out _ _ ?_ (fun hHeld => ?_)
    · exact hHeld
    clear hK K
    (try simp only [Act.put, List.setIfInBounds_toArray, List.set_cons_zero, List.set_cons_succ])
    refine wpAnyH_ready (rs := [16, 18]) (by kernel_rfl) (by simp) ?_
    refine AllReadyH.cons (o := { dst := some 35, op := Op.call { callee := Callee.value (Operand.func 20), args := #[Operand.tmp 34], argTypes := #[9] }, type := 3, pos := "l8_space.go:193", after := _, guard := none }) rfl (fun K hK => ?_) ?_
    · skip
      go_simp
      refine (HN3.out _).mono ?_
      rintro e w4 ⟨rfl, rfl⟩
      (try dsimp only)
      refine hK.out _ _ ?_ (fun hHeld => ?_)
      · exact hHeld
      clear hK K
      (try simp only [Act.put, List.setIfInBounds_toArray, List.set_cons_zero, List.set_cons_succ])
      refine wpAnyH_take (i := 17) (oi := { dst := some 36, op := Op.build 26 #[(0, Operand.tmp 20), (1, Operand.tmp 23), (2, Operand.tmp 27), (3, Operand.tmp 31), (4, Operand.tmp 35)], type := 26, pos := "l8_space.go:193", after := _, guard := none }) (v := ?_) rfl (by kernel_rfl) (by kernel_rfl) (by kernel_rfl) (fun _ _ _ h => h) (Or.inl ⟨by rfl, ?_⟩) (by assumption) ?_
      rotate_left
      · (intro w hSw; (try dsimp only at hSw); go_simp; (try with_reducible rfl))
      simp only [Act.put, List.setIfInBounds_toArray, List.set_cons_zero, List.set_cons_succ]
      refine wpAnyH_ready (rs := [18]) (by kernel_rfl) (by simp) ?_
      refine AllReadyH.cons (o := { dst := some 7, op := Op.alloc 26, type := 0, pos := "l8_space.go:193", after := _, guard := none }) rfl (fun K hK => ?_) AllReadyH.nil
      go_simp
      have hH0 := hHeld.1
      refine hK.out _ _ ?_ (fun hHeld => ?_)
      · exact KW.out _ (hH0.alloc hH0.size _)
      clear hK K
      (try simp only [Act.put, List.setIfInBounds_toArray, List.set_cons_zero, List.set_cons_succ])
      refine wpAnyH_ready (rs := [19]) (by kernel_rfl) (by simp) ?_
      refine AllReadyH.cons (o := { dst := none, op := Op.store 26 (Operand.tmp 7) (Operand.tmp 36), type := 0, pos := "l8_space.go:193", after := _, guard := none }) rfl (fun K hK => ?_) AllReadyH.nil
      go_simp
      refine hK.out _ _ ?_ (fun hHeld => ?_)
      · exact KW.out _ (hH0.alloc hH0.size _)
      clear hK K
      (try simp only [Act.put, List.setIfInBounds_toArray, List.set_cons_zero, List.set_cons_succ])
      refine wpAnyH_done (by kernel_rfl) ?_ _
      clear hH0
      obtain ⟨w5, hW5⟩ : ∃ W5, (w3.alloc (.cells #[.string (key.extract 2 key.size), .string c0, .int .i64 n1, .bool g2, .int .i64 n3] 26)).drew = W5 := ⟨_, rfl⟩
      have BS := Lib.hid (show Box w5 w3.heap.size [.string (key.extract 2 key.size), .string c0, .int .i64 n1, .bool g2, .int .i64 n3] by rw [← hW5]; exact (Box.alloc w3 _ _).below ((Below.refl _ _).drew))
      rw [hW5] at hHeld ⊢
      have hb5 := hHeld.1
      have hz3 := b3.size
      have hzz := HB.out.size
      have hz5 : w3.heap.size < w5.heap.size := by rw [← hW5]; simp
      have HB5 := Lib.hid (HB.out.trans (hb5.mono HB.out.size))
      obtain ⟨-, e0, e1, e2, e3⟩ := KW.out w5 hb5
      obtain ⟨⟨y0, f0⟩, ⟨y1, f1⟩, ⟨y2, f2⟩, ⟨y3, f3⟩, y4, f4⟩ := KS.out w5 HB5.out
      obtain ⟨⟨x0, p0⟩, ⟨x1, p1⟩, ⟨x2, p2⟩, ⟨x3, p3⟩, x4, p4⟩ := show _ ∧ _ ∧ _ ∧ _ ∧ _ from ⟨BS.out 0 _ rfl, BS.out 1 _ rfl, BS.out 2 _ rfl, BS.out 3 _ rfl, BS.out 4 _ rfl⟩
      clear hHeld hW5 hb5 BS
      by_cases q0 : c0 = ⟨#[45]⟩
      · have k0 := eqW [45] q0
        have HO := Lib.hid (show wordR c0 = ⟨#[]⟩ by simp [wordR, q0])
        clear q0
        by_cases q1 : c1 = ⟨#[45, 49]⟩
        · have k1 := eqW [45, 49] q1
          have hlm : limP c1 = -1 := by rw [q1]; exact limP_yes
          have HLM := Lib.hid hlm
          clear hlm
          obtain ⟨Y, hY⟩ : ∃ Y, swB (key.extract 2 key.size, ⟨#[]⟩, (-1), g2, n3) = Y := ⟨_, rfl⟩
          have HY := Lib.hid hY
          clear hY
          go_wp2_with fail
          obtain ⟨w6, hW6⟩ : ∃ W, ((w5.setCell ⟨w3.heap.size, 1, none⟩ (.string ⟨#[]⟩)).setCell ⟨w3.heap.size, 2, none⟩ (.int .i64 (-1))) = W := ⟨_, rfl⟩
          have B6 := Lib.hid (show Below w1.heap.size w1 w6 by rw [← hW6]; exact ((HB5.out.setCell (p := ⟨w3.heap.size, 1, none⟩) (show w1.heap.size ≤ w3.heap.size by omega) _).setCell (p := ⟨w3.heap.size, 2, none⟩) (show w1.heap.size ≤ w3.heap.size by omega) _))
          have BS6 := Lib.hid (show Box w6 w3.heap.size [.string (key.extract 2 key.size), .string ⟨#[]⟩, .int .i64 (-1), .bool g2, .int .i64 n3] from by
            rw [← hW6]
            intro i v hv
            match i, hv with
            | 0, hv => cases hv; simp [go_sem, x0, p0]
            | 1, hv => cases hv; simp [go_sem, x1, p1]
            | 2, hv => cases hv; simp [go_sem, x2, p2]
            | 3, hv => cases hv; simp [go_sem, x3, p3]
            | 4, hv => cases hv; simp [go_sem, x4, p4]
            | n + 5, hv => simp at hv)
          rw [hW6]
          clear hW6 x0 x1 x2 x3 x4 p0 p1 p2 p3 p4 y0 y1 y2 y3 y4 f0 f1 f2 f3 f4 e0 e1 e2 e3
          refine (specSpW_any (key.extract 2 key.size) ⟨#[]⟩ (-1) g2 n3 _ hkx (by first | (unfold maxLen; omega) | (unfold maxLen; decide) | (unfold maxLen; simp))).mono ?_
          rintro e w7 ⟨rfl, b7⟩
          rw [HY.out]
          have HB7 := Lib.hid (B6.out.trans (b7.mono B6.out.size))
          have BS7 := BS6.out.below b7
          obtain ⟨⟨y0, f0⟩, ⟨y1, f1⟩, ⟨y2, f2⟩, ⟨y3, f3⟩, y4, f4⟩ := KS.out w7 HB7.out
          obtain ⟨⟨x0, p0⟩, ⟨x1, p1⟩, ⟨x2, p2⟩, ⟨x3, p3⟩, x4, p4⟩ := show _ ∧ _ ∧ _ ∧ _ ∧ _ from ⟨BS7 0 _ rfl, BS7 1 _ rfl, BS7 2 _ rfl, BS7 3 _ rfl, BS7 4 _ rfl⟩
          have q6 : text.toList.isEmpty = false := neW (text_ne HL.out)
          clear b7 BS7
          by_cases e : Y = text
          · have HN := Lib.hid (rd_fin_yes HL.out HP.out HO.out HLM.out HG2.out H3.out (HY.out.trans e))
            have q5 : (Y.toList == text.toList) = true := by rw [e]; simp
            clear e
            go_wp2
            exact bodyPost_ret (v := .tuple #[spV (key.extract 2 key.size, ⟨#[]⟩, (-1), g2, n3), .bool true]) (by simp [results, Tryd.results6, go_sem, spV, y0, y1, y2, y3, y4]) rfl ⟨by rw [HN.out], (((((HF.out _ HB7.out).setCell (Nat.le_refl _) _).setCell (Nat.le_refl _) _).setCell (Nat.le_refl _) _).setCell (Nat.le_refl _) _).setCell (Nat.le_refl _) _⟩
          have HN := Lib.hid (rd_fin_no (key := key) HL.out HO.out HLM.out HG2.out H3.out (fun h => e (HY.out.symm.trans h)))
          have q5 : (Y.toList == text.toList) = false := by
            rw [beq_eq_false_iff_ne]
            exact fun e2 => e (tlW_inj e2)
          clear e
          go_wp2
          exact bodyPost_ret (v := .tuple #[spV zeroSp, .bool false]) (by simp [results, Tryd.results6, go_sem, spV, zeroSp, y0, y1, y2, y3, y4]) rfl ⟨by rw [HN.out], (((((HF.out _ HB7.out).setCell (Nat.le_refl _) _).setCell (Nat.le_refl _) _).setCell (Nat.le_refl _) _).setCell (Nat.le_refl _) _).setCell (Nat.le_refl _) _⟩
        have k1 := neqW [45, 49] q1
        by_cases q2 : n1 < 0
        · have HN := Lib.hid (rd_lim_no (key := key) HL.out q1 H1.out q2)
          have hne : w3.heap.size ≠ w.heap.size := by omega
          have hne2 : w.heap.size ≠ w3.heap.size := by omega
          go_wp2
          exact bodyPost_ret (v := .tuple #[spV zeroSp, .bool false]) (by simp [results, Tryd.results6, go_sem, spV, zeroSp, y0, y1, y2, y3, y4]) rfl ⟨by rw [HN.out], (((((HF.out _ (HB5.out.setCell (p := ⟨w3.heap.size, 1, none⟩) (show w1.heap.size ≤ w3.heap.size by omega) _)).setCell (Nat.le_refl _) _).setCell (Nat.le_refl _) _).setCell (Nat.le_refl _) _).setCell (Nat.le_refl _) _).setCell (Nat.le_refl _) _⟩
        have q3 : 0 ≤ n1 := by omega
        have hlm : limP c1 = n1 := limP_num q1 H1.out q3
        have HLM := Lib.hid hlm
        clear hlm
        obtain ⟨Y, hY⟩ : ∃ Y, swB (key.extract 2 key.size, ⟨#[]⟩, n1, g2, n3) = Y := ⟨_, rfl⟩
        have HY := Lib.hid hY
        clear hY
        go_wp2_with fail
        obtain ⟨w6, hW6⟩ : ∃ W, (w5.setCell ⟨w3.heap.size, 1, none⟩ (.string ⟨#[]⟩)) = W := ⟨_, rfl⟩
        have B6 := Lib.hid (show Below w1.heap.size w1 w6 by rw [← hW6]; exact (HB5.out.setCell (p := ⟨w3.heap.size, 1, none⟩) (show w1.heap.size ≤ w3.heap.size by omega) _))
        have BS6 := Lib.hid (show Box w6 w3.heap.size [.string (key.extract 2 key.size), .string ⟨#[]⟩, .int .i64 n1, .bool g2, .int .i64 n3] from by
          rw [← hW6]
          intro i v hv
          match i, hv with
          | 0, hv => cases hv; simp [go_sem, x0, p0]
          | 1, hv => cases hv; simp [go_sem, x1, p1]
          | 2, hv => cases hv; simp [go_sem, x2, p2]
          | 3, hv => cases hv; simp [go_sem, x3, p3]
          | 4, hv => cases hv; simp [go_sem, x4, p4]
          | n + 5, hv => simp at hv)
        rw [hW6]
        clear hW6 x0 x1 x2 x3 x4 p0 p1 p2 p3 p4 y0 y1 y2 y3 y4 f0 f1 f2 f3 f4 e0 e1 e2 e3
        refine (specSpW_any (key.extract 2 key.size) ⟨#[]⟩ n1 g2 n3 _ hkx (by first | (unfold maxLen; omega) | (unfold maxLen; decide) | (unfold maxLen; simp))).mono ?_
        rintro e w7 ⟨rfl, b7⟩
        rw [HY.out]
        have HB7 := Lib.hid (B6.out.trans (b7.mono B6.out.size))
        have BS7 := BS6.out.below b7
        obtain ⟨⟨y0, f0⟩, ⟨y1, f1⟩, ⟨y2, f2⟩, ⟨y3, f3⟩, y4, f4⟩ := KS.out w7 HB7.out
        obtain ⟨⟨x0, p0⟩, ⟨x1, p1⟩, ⟨x2, p2⟩, ⟨x3, p3⟩, x4, p4⟩ := show _ ∧ _ ∧ _ ∧ _ ∧ _ from ⟨BS7 0 _ rfl, BS7 1 _ rfl, BS7 2 _ rfl, BS7 3 _ rfl, BS7 4 _ rfl⟩
        have q6 : text.toList.isEmpty = false := neW (text_ne HL.out)
        clear b7 BS7
        by_cases e : Y = text
        · have HN := Lib.hid (rd_fin_yes HL.out HP.out HO.out HLM.out HG2.out H3.out (HY.out.trans e))
          have q5 : (Y.toList == text.toList) = true := by rw [e]; simp
          clear e
          go_wp2
          exact bodyPost_ret (v := .tuple #[spV (key.extract 2 key.size, ⟨#[]⟩, n1, g2, n3), .bool true]) (by simp [results, Tryd.results6, go_sem, spV, y0, y1, y2, y3, y4]) rfl ⟨by rw [HN.out], (((((HF.out _ HB7.out).setCell (Nat.le_refl _) _).setCell (Nat.le_refl _) _).setCell (Nat.le_refl _) _).setCell (Nat.le_refl _) _).setCell (Nat.le_refl _) _⟩
        have HN := Lib.hid (rd_fin_no (key := key) HL.out HO.out HLM.out HG2.out H3.out (fun h => e (HY.out.symm.trans h)))
        have q5 : (Y.toList == text.toList) = false := by
          rw [beq_eq_false_iff_ne]
          exact fun e2 => e (tlW_inj e2)
        clear e
        go_wp2
        exact bodyPost_ret (v := .tuple #[spV zeroSp, .bool false]) (by simp [results, Tryd.results6, go_sem, spV, zeroSp, y0, y1, y2, y3, y4]) rfl ⟨by rw [HN.out], (((((HF.out _ HB7.out).setCell (Nat.le_refl _) _).setCell (Nat.le_refl _) _).setCell (Nat.le_refl _) _).setCell (Nat.le_refl _) _).setCell (Nat.le_refl _) _⟩
      have k0 := neqW [45] q0
      have HO := Lib.hid (show wordR c0 = c0 by simp [wordR, q0])
      clear q0
      by_cases q1 : c1 = ⟨#[45, 49]⟩
      · have k1 := eqW [45, 49] q1
        have hlm : limP c1 = -1 := by rw [q1]; exact limP_yes
        have HLM := Lib.hid hlm
        clear hlm
        obtain ⟨Y, hY⟩ : ∃ Y, swB (key.extract 2 key.size, c0, (-1), g2, n3) = Y := ⟨_, rfl⟩
        have HY := Lib.hid hY
        clear hY
        go_wp2_with fail
        obtain ⟨w6, hW6⟩ : ∃ W, (w5.setCell ⟨w3.heap.size, 2, none⟩ (.int .i64 (-1))) = W := ⟨_, rfl⟩
        have B6 := Lib.hid (show Below w1.heap.size w1 w6 by rw [← hW6]; exact (HB5.out.setCell (p := ⟨w3.heap.size, 2, none⟩) (show w1.heap.size ≤ w3.heap.size by omega) _))
        have BS6 := Lib.hid (show Box w6 w3.heap.size [.string (key.extract 2 key.size), .string c0, .int .i64 (-1), .bool g2, .int .i64 n3] from by
          rw [← hW6]
          intro i v hv
          match i, hv with
          | 0, hv => cases hv; simp [go_sem, x0, p0]
          | 1, hv => cases hv; simp [go_sem, x1, p1]
          | 2, hv => cases hv; simp [go_sem, x2, p2]
          | 3, hv => cases hv; simp [go_sem, x3, p3]
          | 4, hv => cases hv; simp [go_sem, x4, p4]
          | n + 5, hv => simp at hv)
        rw [hW6]
        clear hW6 x0 x1 x2 x3 x4 p0 p1 p2 p3 p4 y0 y1 y2 y3 y4 f0 f1 f2 f3 f4 e0 e1 e2 e3
        refine (specSpW_any (key.extract 2 key.size) c0 (-1) g2 n3 _ hkx (by first | (unfold maxLen; omega) | (unfold maxLen; decide) | (unfold maxLen; simp))).mono ?_
        rintro e w7 ⟨rfl, b7⟩
        rw [HY.out]
        have HB7 := Lib.hid (B6.out.trans (b7.mono B6.out.size))
        have BS7 := BS6.out.below b7
        obtain ⟨⟨y0, f0⟩, ⟨y1, f1⟩, ⟨y2, f2⟩, ⟨y3, f3⟩, y4, f4⟩ := KS.out w7 HB7.out
        obtain ⟨⟨x0, p0⟩, ⟨x1, p1⟩, ⟨x2, p2⟩, ⟨x3, p3⟩, x4, p4⟩ := show _ ∧ _ ∧ _ ∧ _ ∧ _ from ⟨BS7 0 _ rfl, BS7 1 _ rfl, BS7 2 _ rfl, BS7 3 _ rfl, BS7 4 _ rfl⟩
        have q6 : text.toList.isEmpty = false := neW (text_ne HL.out)
        clear b7 BS7
        by_cases e : Y = text
        · have HN := Lib.hid (rd_fin_yes HL.out HP.out HO.out HLM.out HG2.out H3.out (HY.out.trans e))
          have q5 : (Y.toList == text.toList) = true := by rw [e]; simp
          clear e
          go_wp2
          exact bodyPost_ret (v := .tuple #[spV (key.extract 2 key.size, c0, (-1), g2, n3), .bool true]) (by simp [results, Tryd.results6, go_sem, spV, y0, y1, y2, y3, y4]) rfl ⟨by rw [HN.out], (((((HF.out _ HB7.out).setCell (Nat.le_refl _) _).setCell (Nat.le_refl _) _).setCell (Nat.le_refl _) _).setCell (Nat.le_refl _) _).setCell (Nat.le_refl _) _⟩
        have HN := Lib.hid (rd_fin_no (key := key) HL.out HO.out HLM.out HG2.out H3.out (fun h => e (HY.out.symm.trans h)))
        have q5 : (Y.toList == text.toList) = false := by
          rw [beq_eq_false_iff_ne]
          exact fun e2 => e (tlW_inj e2)
        clear e
        go_wp2
        exact bodyPost_ret (v := .tuple #[spV zeroSp, .bool false]) (by simp [results, Tryd.results6, go_sem, spV, zeroSp, y0, y1, y2, y3, y4]) rfl ⟨by rw [HN.out], (((((HF.out _ HB7.out).setCell (Nat.le_refl _) _).setCell (Nat.le_refl _) _).setCell (Nat.le_refl _) _).setCell (Nat.le_refl _) _).setCell (Nat.le_refl _) _⟩
      have k1 := neqW [45, 49] q1
      by_cases q2 : n1 < 0
      · have HN := Lib.hid (rd_lim_no (key := key) HL.out q1 H1.out q2)
        have hne : w3.heap.size ≠ w.heap.size := by omega
        have hne2 : w.heap.size ≠ w3.heap.size := by omega
        go_wp2
        exact bodyPost_ret (v := .tuple #[spV zeroSp, .bool false]) (by simp [results, Tryd.results6, go_sem, spV, zeroSp, y0, y1, y2, y3, y4]) rfl ⟨by rw [HN.out], (((((HF.out _ HB5.out).setCell (Nat.le_refl _) _).setCell (Nat.le_refl _) _).setCell (Nat.le_refl _) _).setCell (Nat.le_refl _) _).setCell (Nat.le_refl _) _⟩
      have q3 : 0 ≤ n1 := by omega
      have hlm : limP c1 = n1 := limP_num q1 H1.out q3
      have HLM := Lib.hid hlm
      clear hlm
      obtain ⟨Y, hY⟩ : ∃ Y, swB (key.extract 2 key.size, c0, n1, g2, n3) = Y := ⟨_, rfl⟩
      have HY := Lib.hid hY
      clear hY
      go_wp2_with fail
      obtain ⟨w6, hW6⟩ : ∃ W, w5 = W := ⟨_, rfl⟩
      have B6 := Lib.hid (show Below w1.heap.size w1 w6 by rw [← hW6]; exact HB5.out)
      have BS6 := Lib.hid (show Box w6 w3.heap.size [.string (key.extract 2 key.size), .string c0, .int .i64 n1, .bool g2, .int .i64 n3] from by
        rw [← hW6]
        intro i v hv
        match i, hv with
        | 0, hv => cases hv; simp [go_sem, x0, p0]
        | 1, hv => cases hv; simp [go_sem, x1, p1]
        | 2, hv => cases hv; simp [go_sem, x2, p2]
        | 3, hv => cases hv; simp [go_sem, x3, p3]
        | 4, hv => cases hv; simp [go_sem, x4, p4]
        | n + 5, hv => simp at hv)
      try rw [hW6]
      subst hW6
      clear x0 x1 x2 x3 x4 p0 p1 p2 p3 p4 y0 y1 y2 y3 y4 f0 f1 f2 f3 f4 e0 e1 e2 e3
      refine (specSpW_any (key.extract 2 key.size) c0 n1 g2 n3 _ hkx (by first | (unfold maxLen; omega) | (unfold maxLen; decide) | (unfold maxLen; simp))).mono ?_
      rintro e w7 ⟨rfl, b7⟩
      rw [HY.out]
      have HB7 := Lib.hid (B6.out.trans (b7.mono B6.out.size))
      have BS7 := BS6.out.below b7
      obtain ⟨⟨y0, f0⟩, ⟨y1, f1⟩, ⟨y2, f2⟩, ⟨y3, f3⟩, y4, f4⟩ := KS.out w7 HB7.out
      obtain ⟨⟨x0, p0⟩, ⟨x1, p1⟩, ⟨x2, p2⟩, ⟨x3, p3⟩, x4, p4⟩ := show _ ∧ _ ∧ _ ∧ _ ∧ _ from ⟨BS7 0 _ rfl, BS7 1 _ rfl, BS7 2 _ rfl, BS7 3 _ rfl, BS7 4 _ rfl⟩
      have q6 : text.toList.isEmpty = false := neW (text_ne HL.out)
      clear b7 BS7
      by_cases e : Y = text
      · have HN := Lib.hid (rd_fin_yes HL.out HP.out HO.out HLM.out HG2.out H3.out (HY.out.trans e))
        have q5 : (Y.toList == text.toList) = true := by rw [e]; simp
        clear e
        go_wp2
        exact bodyPost_ret (v := .tuple #[spV (key.extract 2 key.size, c0, n1, g2, n3), .bool true]) (by simp [results, Tryd.results6, go_sem, spV, y0, y1, y2, y3, y4]) rfl ⟨by rw [HN.out], (((((HF.out _ HB7.out).setCell (Nat.le_refl _) _).setCell (Nat.le_refl _) _).setCell (Nat.le_refl _) _).setCell (Nat.le_refl _) _).setCell (Nat.le_refl _) _⟩
      have HN := Lib.hid (rd_fin_no (key := key) HL.out HO.out HLM.out HG2.out H3.out (fun h => e (HY.out.symm.trans h)))
      have q5 : (Y.toList == text.toList) = false := by
        rw [beq_eq_false_iff_ne]
        exact fun e2 => e (tlW_inj e2)
      clear e
      go_wp2
      exact bodyPost_ret (v := .tuple #[spV zeroSp, .bool false]) (by simp [results, Tryd.results6, go_sem, spV, zeroSp, y0, y1, y2, y3, y4]) rfl ⟨by rw [HN.out], (((((HF.out _ HB7.out).setCell (Nat.le_refl _) _).setCell (Nat.le_refl _) _).setCell (Nat.le_refl _) _).setCell (Nat.le_refl _) _).setCell (Nat.le_refl _) _⟩
    refine AllReadyH.cons (o := { dst := some 7, op := Op.alloc 26, type := 0, pos := "l8_space.go:193", after := _, guard := none }) rfl (fun K hK => ?_) AllReadyH.nil
    go_simp
    have hH0 := hHeld.1
    refine hK.out _ _ ?_ (fun hHeld => ?_)
    · exact KW.out _ (hH0.alloc hH0.size _)
    clear hK K
    (try simp only [Act.put, List.setIfInBounds_toArray, List.set_cons_zero, List.set_cons_succ])
    refine wpAnyH_ready (rs := [16]) (by kernel_rfl) (by simp) ?_
    refine AllReadyH.cons (o := { dst := some 35, op := Op.call { callee := Callee.value (Operand.func 20), args := #[Operand.tmp 34], argTypes := #[9] }, type := 3, pos := "l8_space.go:193", after := _, guard := none }) rfl (fun K hK => ?_) AllReadyH.nil
    go_simp
    refine (HN3.out _).mono ?_
    rintro e w4 ⟨rfl, rfl⟩
    (try dsimp only)
    refine hK.out _ _ ?_ (fun hHeld => ?_)
    · exact hHeld
    clear hK K
    (try simp only [Act.put, List.setIfInBounds_toArray, List.set_cons_zero, List.set_cons_succ])
    refine wpAnyH_take (i := 17) (oi := { dst := some 36, op := Op.build 26 #[(0, Operand.tmp 20), (1, Operand.tmp 23), (2, Operand.tmp 27), (3, Operand.tmp 31), (4, Operand.tmp 35)], type := 26, pos := "l8_space.go:193", after := _, guard := none }) (v := ?_) rfl (by kernel_rfl) (by kernel_rfl) (by kernel_rfl) (fun _ _ _ h => h) (Or.inl ⟨by rfl, ?_⟩) (by assumption) ?_
    rotate_left
    · (intro w hSw; (try dsimp only at hSw); go_simp; (try with_reducible rfl))
    simp only [Act.put, List.setIfInBounds_toArray, List.set_cons_zero, List.set_cons_succ]
    refine wpAnyH_ready (rs := [19]) (by kernel_rfl) (by simp) ?_
    refine AllReadyH.cons (o := { dst := none, op := Op.store 26 (Operand.tmp 7) (Operand.tmp 36), type := 0, pos := "l8_space.go:193", after := _, guard := none }) rfl (fun K hK => ?_) AllReadyH.nil
    go_simp
    refine hK.out _ _ ?_ (fun hHeld => ?_)
    · exact KW.out _ (hH0.alloc hH0.size _)
    clear hK K
    (try simp only [Act.put, List.setIfInBounds_toArray, List.set_cons_zero, List.set_cons_succ])
    refine wpAnyH_done (by kernel_rfl) ?_ _
    clear hH0
    obtain ⟨w5, hW5⟩ : ∃ W5, (w3.alloc (.cells #[.string (key.extract 2 key.size), .string c0, .int .i64 n1, .bool g2, .int .i64 n3] 26)).drew = W5 := ⟨_, rfl⟩
    have BS := Lib.hid (show Box w5 w3.heap.size [.string (key.extract 2 key.size), .string c0, .int .i64 n1, .bool g2, .int .i64 n3] by rw [← hW5]; exact (Box.alloc w3 _ _).below ((Below.refl _ _).drew))
    rw [hW5] at hHeld ⊢
    have hb5 := hHeld.1
    have hz3 := b3.size
    have hzz := HB.out.size
    have hz5 : w3.heap.size < w5.heap.size := by rw [← hW5]; simp
    have HB5 := Lib.hid (HB.out.trans (hb5.mono HB.out.size))
    obtain ⟨-, e0, e1, e2, e3⟩ := KW.out w5 hb5
    obtain ⟨⟨y0, f0⟩, ⟨y1, f1⟩, ⟨y2, f2⟩, ⟨y3, f3⟩, y4, f4⟩ := KS.out w5 HB5.out
    obtain ⟨⟨x0, p0⟩, ⟨x1, p1⟩, ⟨x2, p2⟩, ⟨x3, p3⟩, x4, p4⟩ := show _ ∧ _ ∧ _ ∧ _ ∧ _ from ⟨BS.out 0 _ rfl, BS.out 1 _ rfl, BS.out 2 _ rfl, BS.out 3 _ rfl, BS.out 4 _ rfl⟩
    clear hHeld hW5 hb5 BS
    by_cases q0 : c0 = ⟨#[45]⟩
    · have k0 := eqW [45] q0
      have HO := Lib.hid (show wordR c0 = ⟨#[]⟩ by simp [wordR, q0])
      clear q0
      by_cases q1 : c1 = ⟨#[45, 49]⟩
      · have k1 := eqW [45, 49] q1
        have hlm : limP c1 = -1 := by rw [q1]; exact limP_yes
        have HLM := Lib.hid hlm
        clear hlm
        obtain ⟨Y, hY⟩ : ∃ Y, swB (key.extract 2 key.size, ⟨#[]⟩, (-1), g2, n3) = Y := ⟨_, rfl⟩
        have HY := Lib.hid hY
        clear hY
        go_wp2_with fail
        obtain ⟨w6, hW6⟩ : ∃ W, ((w5.setCell ⟨w3.heap.size, 1, none⟩ (.string ⟨#[]⟩)).setCell ⟨w3.heap.size, 2, none⟩ (.int .i64 (-1))) = W := ⟨_, rfl⟩
        have B6 := Lib.hid (show Below w1.heap.size w1 w6 by rw [← hW6]; exact ((HB5.out.setCell (p := ⟨w3.heap.size, 1, none⟩) (show w1.heap.size ≤ w3.heap.size by omega) _).setCell (p := ⟨w3.heap.size, 2, none⟩) (show w1.heap.size ≤ w3.heap.size by omega) _))
        have BS6 := Lib.hid (show Box w6 w3.heap.size [.string (key.extract 2 key.size), .string ⟨#[]⟩, .int .i64 (-1), .bool g2, .int .i64 n3] from by
          rw [← hW6]
          intro i v hv
          match i, hv with
          | 0, hv => cases hv; simp [go_sem, x0, p0]
          | 1, hv => cases hv; simp [go_sem, x1, p1]
          | 2, hv => cases hv; simp [go_sem, x2, p2]
          | 3, hv => cases hv; simp [go_sem, x3, p3]
          | 4, hv => cases hv; simp [go_sem, x4, p4]
          | n + 5, hv => simp at hv)
        rw [hW6]
        clear hW6 x0 x1 x2 x3 x4 p0 p1 p2 p3 p4 y0 y1 y2 y3 y4 f0 f1 f2 f3 f4 e0 e1 e2 e3
        refine (specSpW_any (key.extract 2 key.size) ⟨#[]⟩ (-1) g2 n3 _ hkx (by first | (unfold maxLen; omega) | (unfold maxLen; decide) | (unfold maxLen; simp))).mono ?_
        rintro e w7 ⟨rfl, b7⟩
        rw [HY.out]
        have HB7 := Lib.hid (B6.out.trans (b7.mono B6.out.size))
        have BS7 := BS6.out.below b7
        obtain ⟨⟨y0, f0⟩, ⟨y1, f1⟩, ⟨y2, f2⟩, ⟨y3, f3⟩, y4, f4⟩ := KS.out w7 HB7.out
        obtain ⟨⟨x0, p0⟩, ⟨x1, p1⟩, ⟨x2, p2⟩, ⟨x3, p3⟩, x4, p4⟩ := show _ ∧ _ ∧ _ ∧ _ ∧ _ from ⟨BS7 0 _ rfl, BS7 1 _ rfl, BS7 2 _ rfl, BS7 3 _ rfl, BS7 4 _ rfl⟩
        have q6 : text.toList.isEmpty = false := neW (text_ne HL.out)
        clear b7 BS7
        by_cases e : Y = text
        · have HN := Lib.hid (rd_fin_yes HL.out HP.out HO.out HLM.out HG2.out H3.out (HY.out.trans e))
          have q5 : (Y.toList == text.toList) = true := by rw [e]; simp
          clear e
          go_wp2
          exact bodyPost_ret (v := .tuple #[spV (key.extract 2 key.size, ⟨#[]⟩, (-1), g2, n3), .bool true]) (by simp [results, Tryd.results6, go_sem, spV, y0, y1, y2, y3, y4]) rfl ⟨by rw [HN.out], (((((HF.out _ HB7.out).setCell (Nat.le_refl _) _).setCell (Nat.le_refl _) _).setCell (Nat.le_refl _) _).setCell (Nat.le_refl _) _).setCell (Nat.le_refl _) _⟩
        have HN := Lib.hid (rd_fin_no (key := key) HL.out HO.out HLM.out HG2.out H3.out (fun h => e (HY.out.symm.trans h)))
        have q5 : (Y.toList == text.toList) = false := by
          rw [beq_eq_false_iff_ne]
          exact fun e2 => e (tlW_inj e2)
        clear e
        go_wp2
        exact bodyPost_ret (v := .tuple #[spV zeroSp, .bool false]) (by simp [results, Tryd.results6, go_sem, spV, zeroSp, y0, y1, y2, y3, y4]) rfl ⟨by rw [HN.out], (((((HF.out _ HB7.out).setCell (Nat.le_refl _) _).setCell (Nat.le_refl _) _).setCell (Nat.le_refl _) _).setCell (Nat.le_refl _) _).setCell (Nat.le_refl _) _⟩
      have k1 := neqW [45, 49] q1
      by_cases q2 : n1 < 0
      · have HN := Lib.hid (rd_lim_no (key := key) HL.out q1 H1.out q2)
        have hne : w3.heap.size ≠ w.heap.size := by omega
        have hne2 : w.heap.size ≠ w3.heap.size := by omega
        go_wp2
        exact bodyPost_ret (v := .tuple #[spV zeroSp, .bool false]) (by simp [results, Tryd.results6, go_sem, spV, zeroSp, y0, y1, y2, y3, y4]) rfl ⟨by rw [HN.out], (((((HF.out _ (HB5.out.setCell (p := ⟨w3.heap.size, 1, none⟩) (show w1.heap.size ≤ w3.heap.size by omega) _)).setCell (Nat.le_refl _) _).setCell (Nat.le_refl _) _).setCell (Nat.le_refl _) _).setCell (Nat.le_refl _) _).setCell (Nat.le_refl _) _⟩
      have q3 : 0 ≤ n1 := by omega
      have hlm : limP c1 = n1 := limP_num q1 H1.out q3
      have HLM := Lib.hid hlm
      clear hlm
      obtain ⟨Y, hY⟩ : ∃ Y, swB (key.extract 2 key.size, ⟨#[]⟩, n1, g2, n3) = Y := ⟨_, rfl⟩
      have HY := Lib.hid hY
      clear hY
      go_wp2_with fail
      obtain ⟨w6, hW6⟩ : ∃ W, (w5.setCell ⟨w3.heap.size, 1, none⟩ (.string ⟨#[]⟩)) = W := ⟨_, rfl⟩
      have B6 := Lib.hid (show Below w1.heap.size w1 w6 by rw [← hW6]; exact (HB5.out.setCell (p := ⟨w3.heap.size, 1, none⟩) (show w1.heap.size ≤ w3.heap.size by omega) _))
      have BS6 := Lib.hid (show Box w6 w3.heap.size [.string (key.extract 2 key.size), .string ⟨#[]⟩, .int .i64 n1, .bool g2, .int .i64 n3] from by
        rw [← hW6]
        intro i v hv
        match i, hv with
        | 0, hv => cases hv; simp [go_sem, x0, p0]
        | 1, hv => cases hv; simp [go_sem, x1, p1]
        | 2, hv => cases hv; simp [go_sem, x2, p2]
        | 3, hv => cases hv; simp [go_sem, x3, p3]
        | 4, hv => cases hv; simp [go_sem, x4, p4]
        | n + 5, hv => simp at hv)
      rw [hW6]
      clear hW6 x0 x1 x2 x3 x4 p0 p1 p2 p3 p4 y0 y1 y2 y3 y4 f0 f1 f2 f3 f4 e0 e1 e2 e3
      refine (specSpW_any (key.extract 2 key.size) ⟨#[]⟩ n1 g2 n3 _ hkx (by first | (unfold maxLen; omega) | (unfold maxLen; decide) | (unfold maxLen; simp))).mono ?_
      rintro e w7 ⟨rfl, b7⟩
      rw [HY.out]
      have HB7 := Lib.hid (B6.out.trans (b7.mono B6.out.size))
      have BS7 := BS6.out.below b7
      obtain ⟨⟨y0, f0⟩, ⟨y1, f1⟩, ⟨y2, f2⟩, ⟨y3, f3⟩, y4, f4⟩ := KS.out w7 HB7.out
      obtain ⟨⟨x0, p0⟩, ⟨x1, p1⟩, ⟨x2, p2⟩, ⟨x3, p3⟩, x4, p4⟩ := show _ ∧ _ ∧ _ ∧ _ ∧ _ from ⟨BS7 0 _ rfl, BS7 1 _ rfl, BS7 2 _ rfl, BS7 3 _ rfl, BS7 4 _ rfl⟩
      have q6 : text.toList.isEmpty = false := neW (text_ne HL.out)
      clear b7 BS7
      by_cases e : Y = text
      · have HN := Lib.hid (rd_fin_yes HL.out HP.out HO.out HLM.out HG2.out H3.out (HY.out.trans e))
        have q5 : (Y.toList == text.toList) = true := by rw [e]; simp
        clear e
        go_wp2
        exact bodyPost_ret (v := .tuple #[spV (key.extract 2 key.size, ⟨#[]⟩, n1, g2, n3), .bool true]) (by simp [results, Tryd.results6, go_sem, spV, y0, y1, y2, y3, y4]) rfl ⟨by rw [HN.out], (((((HF.out _ HB7.out).setCell (Nat.le_refl _) _).setCell (Nat.le_refl _) _).setCell (Nat.le_refl _) _).setCell (Nat.le_refl _) _).setCell (Nat.le_refl _) _⟩
      have HN := Lib.hid (rd_fin_no (key := key) HL.out HO.out HLM.out HG2.out H3.out (fun h => e (HY.out.symm.trans h)))
      have q5 : (Y.toList == text.toList) = false := by
        rw [beq_eq_false_iff_ne]
        exact fun e2 => e (tlW_inj e2)
      clear e
      go_wp2
      exact bodyPost_ret (v := .tuple #[spV zeroSp, .bool false]) (by simp [results, Tryd.results6, go_sem, spV, zeroSp, y0, y1, y2, y3, y4]) rfl ⟨by rw [HN.out], (((((HF.out _ HB7.out).setCell (Nat.le_refl _) _).setCell (Nat.le_refl _) _).setCell (Nat.le_refl _) _).setCell (Nat.le_refl _) _).setCell (Nat.le_refl _) _⟩
    have k0 := neqW [45] q0
    have HO := Lib.hid (show wordR c0 = c0 by simp [wordR, q0])
    clear q0
    by_cases q1 : c1 = ⟨#[45, 49]⟩
    · have k1 := eqW [45, 49] q1
      have hlm : limP c1 = -1 := by rw [q1]; exact limP_yes
      have HLM := Lib.hid hlm
      clear hlm
      obtain ⟨Y, hY⟩ : ∃ Y, swB (key.extract 2 key.size, c0, (-1), g2, n3) = Y := ⟨_, rfl⟩
      have HY := Lib.hid hY
      clear hY
      go_wp2_with fail
      obtain ⟨w6, hW6⟩ : ∃ W, (w5.setCell ⟨w3.heap.size, 2, none⟩ (.int .i64 (-1))) = W := ⟨_, rfl⟩
      have B6 := Lib.hid (show Below w1.heap.size w1 w6 by rw [← hW6]; exact (HB5.out.setCell (p := ⟨w3.heap.size, 2, none⟩) (show w1.heap.size ≤ w3.heap.size by omega) _))
      have BS6 := Lib.hid (show Box w6 w3.heap.size [.string (key.extract 2 key.size), .string c0, .int .i64 (-1), .bool g2, .int .i64 n3] from by
        rw [← hW6]
        intro i v hv
        match i, hv with
        | 0, hv => cases hv; simp [go_sem, x0, p0]
        | 1, hv => cases hv; simp [go_sem, x1, p1]
        | 2, hv => cases hv; simp [go_sem, x2, p2]
        | 3, hv => cases hv; simp [go_sem, x3, p3]
        | 4, hv => cases hv; simp [go_sem, x4, p4]
        | n + 5, hv => simp at hv)
      rw [hW6]
      clear hW6 x0 x1 x2 x3 x4 p0 p1 p2 p3 p4 y0 y1 y2 y3 y4 f0 f1 f2 f3 f4 e0 e1 e2 e3
      refine (specSpW_any (key.extract 2 key.size) c0 (-1) g2 n3 _ hkx (by first | (unfold maxLen; omega) | (unfold maxLen; decide) | (unfold maxLen; simp))).mono ?_
      rintro e w7 ⟨rfl, b7⟩
      rw [HY.out]
      have HB7 := Lib.hid (B6.out.trans (b7.mono B6.out.size))
      have BS7 := BS6.out.below b7
      obtain ⟨⟨y0, f0⟩, ⟨y1, f1⟩, ⟨y2, f2⟩, ⟨y3, f3⟩, y4, f4⟩ := KS.out w7 HB7.out
      obtain ⟨⟨x0, p0⟩, ⟨x1, p1⟩, ⟨x2, p2⟩, ⟨x3, p3⟩, x4, p4⟩ := show _ ∧ _ ∧ _ ∧ _ ∧ _ from ⟨BS7 0 _ rfl, BS7 1 _ rfl, BS7 2 _ rfl, BS7 3 _ rfl, BS7 4 _ rfl⟩
      have q6 : text.toList.isEmpty = false := neW (text_ne HL.out)
      clear b7 BS7
      by_cases e : Y = text
      · have HN := Lib.hid (rd_fin_yes HL.out HP.out HO.out HLM.out HG2.out H3.out (HY.out.trans e))
        have q5 : (Y.toList == text.toList) = true := by rw [e]; simp
        clear e
        go_wp2
        exact bodyPost_ret (v := .tuple #[spV (key.extract 2 key.size, c0, (-1), g2, n3), .bool true]) (by simp [results, Tryd.results6, go_sem, spV, y0, y1, y2, y3, y4]) rfl ⟨by rw [HN.out], (((((HF.out _ HB7.out).setCell (Nat.le_refl _) _).setCell (Nat.le_refl _) _).setCell (Nat.le_refl _) _).setCell (Nat.le_refl _) _).setCell (Nat.le_refl _) _⟩
      have HN := Lib.hid (rd_fin_no (key := key) HL.out HO.out HLM.out HG2.out H3.out (fun h => e (HY.out.symm.trans h)))
      have q5 : (Y.toList == text.toList) = false := by
        rw [beq_eq_false_iff_ne]
        exact fun e2 => e (tlW_inj e2)
      clear e
      go_wp2
      exact bodyPost_ret (v := .tuple #[spV zeroSp, .bool false]) (by simp [results, Tryd.results6, go_sem, spV, zeroSp, y0, y1, y2, y3, y4]) rfl ⟨by rw [HN.out], (((((HF.out _ HB7.out).setCell (Nat.le_refl _) _).setCell (Nat.le_refl _) _).setCell (Nat.le_refl _) _).setCell (Nat.le_refl _) _).setCell (Nat.le_refl _) _⟩
    have k1 := neqW [45, 49] q1
    by_cases q2 : n1 < 0
    · have HN := Lib.hid (rd_lim_no (key := key) HL.out q1 H1.out q2)
      have hne : w3.heap.size ≠ w.heap.size := by omega
      have hne2 : w.heap.size ≠ w3.heap.size := by omega
      go_wp2
      exact bodyPost_ret (v := .tuple #[spV zeroSp, .bool false]) (by simp [results, Tryd.results6, go_sem, spV, zeroSp, y0, y1, y2, y3, y4]) rfl ⟨by rw [HN.out], (((((HF.out _ HB5.out).setCell (Nat.le_refl _) _).setCell (Nat.le_refl _) _).setCell (Nat.le_refl _) _).setCell (Nat.le_refl _) _).setCell (Nat.le_refl _) _⟩
    have q3 : 0 ≤ n1 := by omega
    have hlm : limP c1 = n1 := limP_num q1 H1.out q3
    have HLM := Lib.hid hlm
    clear hlm
    obtain ⟨Y, hY⟩ : ∃ Y, swB (key.extract 2 key.size, c0, n1, g2, n3) = Y := ⟨_, rfl⟩
    have HY := Lib.hid hY
    clear hY
    go_wp2_with fail
    obtain ⟨w6, hW6⟩ : ∃ W, w5 = W := ⟨_, rfl⟩
    have B6 := Lib.hid (show Below w1.heap.size w1 w6 by rw [← hW6]; exact HB5.out)
    have BS6 := Lib.hid (show Box w6 w3.heap.size [.string (key.extract 2 key.size), .string c0, .int .i64 n1, .bool g2, .int .i64 n3] from by
      rw [← hW6]
      intro i v hv
      match i, hv with
      | 0, hv => cases hv; simp [go_sem, x0, p0]
      | 1, hv => cases hv; simp [go_sem, x1, p1]
      | 2, hv => cases hv; simp [go_sem, x2, p2]
      | 3, hv => cases hv; simp [go_sem, x3, p3]
      | 4, hv => cases hv; simp [go_sem, x4, p4]
      | n + 5, hv => simp at hv)
    try rw [hW6]
    subst hW6
    clear x0 x1 x2 x3 x4 p0 p1 p2 p3 p4 y0 y1 y2 y3 y4 f0 f1 f2 f3 f4 e0 e1 e2 e3
    refine (specSpW_any (key.extract 2 key.size) c0 n1 g2 n3 _ hkx (by first | (unfold maxLen; omega) | (unfold maxLen; decide) | (unfold maxLen; simp))).mono ?_
    rintro e w7 ⟨rfl, b7⟩
    rw [HY.out]
    have HB7 := Lib.hid (B6.out.trans (b7.mono B6.out.size))
    have BS7 := BS6.out.below b7
    obtain ⟨⟨y0, f0⟩, ⟨y1, f1⟩, ⟨y2, f2⟩, ⟨y3, f3⟩, y4, f4⟩ := KS.out w7 HB7.out
    obtain ⟨⟨x0, p0⟩, ⟨x1, p1⟩, ⟨x2, p2⟩, ⟨x3, p3⟩, x4, p4⟩ := show _ ∧ _ ∧ _ ∧ _ ∧ _ from ⟨BS7 0 _ rfl, BS7 1 _ rfl, BS7 2 _ rfl, BS7 3 _ rfl, BS7 4 _ rfl⟩
    have q6 : text.toList.isEmpty = false := neW (text_ne HL.out)
    clear b7 BS7
    by_cases e : Y = text
    · have HN := Lib.hid (rd_fin_yes HL.out HP.out HO.out HLM.out HG2.out H3.out (HY.out.trans e))
      have q5 : (Y.toList == text.toList) = true := by rw [e]; simp
      clear e
      go_wp2
      exact bodyPost_ret (v := .tuple #[spV (key.extract 2 key.size, c0, n1, g2, n3), .bool true]) (by simp [results, Tryd.results6, go_sem, spV, y0, y1, y2, y3, y4]) rfl ⟨by rw [HN.out], (((((HF.out _ HB7.out).setCell (Nat.le_refl _) _).setCell (Nat.le_refl _) _).setCell (Nat.le_refl _) _).setCell (Nat.le_refl _) _).setCell (Nat.le_refl _) _⟩
    have HN := Lib.hid (rd_fin_no (key := key) HL.out HO.out HLM.out HG2.out H3.out (fun h => e (HY.out.symm.trans h)))
    have q5 : (Y.toList == text.toList) = false := by
      rw [beq_eq_false_iff_ne]
      exact fun e2 => e (tlW_inj e2)
    clear e
    go_wp2
    exact bodyPost_ret (v := .tuple #[spV zeroSp, .bool false]) (by simp [results, Tryd.results6, go_sem, spV, zeroSp, y0, y1, y2, y3, y4]) rfl ⟨by rw [HN.out], (((((HF.out _ HB7.out).setCell (Nat.le_refl _) _).setCell (Nat.le_refl _) _).setCell (Nat.le_refl _) _).setCell (Nat.le_refl _) _).setCell (Nat.le_refl _) _⟩
  refine AllReadyH.cons (o := { dst := some 7, op := Op.alloc 26, type := 0, pos := "l8_space.go:193", after := _, guard := none }) rfl (fun K hK => ?_) AllReadyH.nil
  go_simp
  have hH0 := hHeld.1
  refine hK.out _ _ ?_ (fun hHeld => ?_)
  · exact KW.out _ (hH0.alloc hH0.size _)
  clear hK K
  (try simp only [Act.put, List.setIfInBounds_toArray, List.set_cons_zero, List.set_cons_succ])
  refine wpAnyH_ready (rs := [8]) (by kernel_rfl) (by simp) ?_
  refine AllReadyH.cons (o := { dst := some 27, op := Op.call { callee := Callee.value (Operand.func 20), args := #[Operand.tmp 26], argTypes := #[9] }, type := 3, pos := "l8_space.go:193", after := _, guard := none }) rfl (fun K hK => ?_) AllReadyH.nil
  go_simp
  refine (HN1.out _).mono ?_
  rintro e w4 ⟨rfl, rfl⟩
  (try dsimp only)
  refine hK.out _ _ ?_ (fun hHeld => ?_)
  · exact hHeld
  clear hK K
  (try simp only [Act.put, List.setIfInBounds_toArray, List.set_cons_zero, List.set_cons_succ])
  refine wpAnyH_ready (rs := [16]) (by kernel_rfl) (by simp) ?_
  refine AllReadyH.cons (o := { dst := some 35, op := Op.call { callee := Callee.value (Operand.func 20), args := #[Operand.tmp 34], argTypes := #[9] }, type := 3, pos := "l8_space.go:193", after := _, guard := none }) rfl (fun K hK => ?_) AllReadyH.nil
  go_simp
  refine (HN3.out _).mono ?_
  rintro e w4 ⟨rfl, rfl⟩
  (try dsimp only)
  refine hK.out _ _ ?_ (fun hHeld => ?_)
  · exact hHeld
  clear hK K
  (try simp only [Act.put, List.setIfInBounds_toArray, List.set_cons_zero, List.set_cons_succ])
  refine wpAnyH_take (i := 17) (oi := { dst := some 36, op := Op.build 26 #[(0, Operand.tmp 20), (1, Operand.tmp 23), (2, Operand.tmp 27), (3, Operand.tmp 31), (4, Operand.tmp 35)], type := 26, pos := "l8_space.go:193", after := _, guard := none }) (v := ?_) rfl (by kernel_rfl) (by kernel_rfl) (by kernel_rfl) (fun _ _ _ h => h) (Or.inl ⟨by rfl, ?_⟩) (by assumption) ?_
  rotate_left
  · (intro w hSw; (try dsimp only at hSw); go_simp; (try with_reducible rfl))
  simp only [Act.put, List.setIfInBounds_toArray, List.set_cons_zero, List.set_cons_succ]
  refine wpAnyH_ready (rs := [19]) (by kernel_rfl) (by simp) ?_
  refine AllReadyH.cons (o := { dst := none, op := Op.store 26 (Operand.tmp 7) (Operand.tmp 36), type := 0, pos := "l8_space.go:193", after := _, guard := none }) rfl (fun K hK => ?_) AllReadyH.nil
  go_simp
  refine hK.out _ _ ?_ (fun hHeld => ?_)
  · exact KW.out _ (hH0.alloc hH0.size _)
  clear hK K
  (try simp only [Act.put, List.setIfInBounds_toArray, List.set_cons_zero, List.set_cons_succ])
  refine wpAnyH_done (by kernel_rfl) ?_ _
  clear hH0
  obtain ⟨w5, hW5⟩ : ∃ W5, (w3.alloc (.cells #[.string (key.extract 2 key.size), .string c0, .int .i64 n1, .bool g2, .int .i64 n3] 26)).drew = W5 := ⟨_, rfl⟩
  have BS := Lib.hid (show Box w5 w3.heap.size [.string (key.extract 2 key.size), .string c0, .int .i64 n1, .bool g2, .int .i64 n3] by rw [← hW5]; exact (Box.alloc w3 _ _).below ((Below.refl _ _).drew))
  rw [hW5] at hHeld ⊢
  have hb5 := hHeld.1
  have hz3 := b3.size
  have hzz := HB.out.size
  have hz5 : w3.heap.size < w5.heap.size := by rw [← hW5]; simp
  have HB5 := Lib.hid (HB.out.trans (hb5.mono HB.out.size))
  obtain ⟨-, e0, e1, e2, e3⟩ := KW.out w5 hb5
  obtain ⟨⟨y0, f0⟩, ⟨y1, f1⟩, ⟨y2, f2⟩, ⟨y3, f3⟩, y4, f4⟩ := KS.out w5 HB5.out
  obtain ⟨⟨x0, p0⟩, ⟨x1, p1⟩, ⟨x2, p2⟩, ⟨x3, p3⟩, x4, p4⟩ := show _ ∧ _ ∧ _ ∧ _ ∧ _ from ⟨BS.out 0 _ rfl, BS.out 1 _ rfl, BS.out 2 _ rfl, BS.out 3 _ rfl, BS.out 4 _ rfl⟩
  clear hHeld hW5 hb5 BS
  by_cases q0 : c0 = ⟨#[45]⟩
  · have k0 := eqW [45] q0
    have HO := Lib.hid (show wordR c0 = ⟨#[]⟩ by simp [wordR, q0])
    clear q0
    by_cases q1 : c1 = ⟨#[45, 49]⟩
    · have k1 := eqW [45, 49] q1
      have hlm : limP c1 = -1 := by rw [q1]; exact limP_yes
      have HLM := Lib.hid hlm
      clear hlm
      obtain ⟨Y, hY⟩ : ∃ Y, swB (key.extract 2 key.size, ⟨#[]⟩, (-1), g2, n3) = Y := ⟨_, rfl⟩
      have HY := Lib.hid hY
      clear hY
      go_wp2_with fail
      obtain ⟨w6, hW6⟩ : ∃ W, ((w5.setCell ⟨w3.heap.size, 1, none⟩ (.string ⟨#[]⟩)).setCell ⟨w3.heap.size, 2, none⟩ (.int .i64 (-1))) = W := ⟨_, rfl⟩
      have B6 := Lib.hid (show Below w1.heap.size w1 w6 by rw [← hW6]; exact ((HB5.out.setCell (p := ⟨w3.heap.size, 1, none⟩) (show w1.heap.size ≤ w3.heap.size by omega) _).setCell (p := ⟨w3.heap.size, 2, none⟩) (show w1.heap.size ≤ w3.heap.size by omega) _))
      have BS6 := Lib.hid (show Box w6 w3.heap.size [.string (key.extract 2 key.size), .string ⟨#[]⟩, .int .i64 (-1), .bool g2, .int .i64 n3] from by
        rw [← hW6]
        intro i v hv
        match i, hv with
        | 0, hv => cases hv; simp [go_sem, x0, p0]
        | 1, hv => cases hv; simp [go_sem, x1, p1]
        | 2, hv => cases hv; simp [go_sem, x2, p2]
        | 3, hv => cases hv; simp [go_sem, x3, p3]
        | 4, hv => cases hv; simp [go_sem, x4, p4]
        | n + 5, hv => simp at hv)
      rw [hW6]
      clear hW6 x0 x1 x2 x3 x4 p0 p1 p2 p3 p4 y0 y1 y2 y3 y4 f0 f1 f2 f3 f4 e0 e1 e2 e3
      refine (specSpW_any (key.extract 2 key.size) ⟨#[]⟩ (-1) g2 n3 _ hkx (by first | (unfold maxLen; omega) | (unfold maxLen; decide) | (unfold maxLen; simp))).mono ?_
      rintro e w7 ⟨rfl, b7⟩
      rw [HY.out]
      have HB7 := Lib.hid (B6.out.trans (b7.mono B6.out.size))
      have BS7 := BS6.out.below b7
      obtain ⟨⟨y0, f0⟩, ⟨y1, f1⟩, ⟨y2, f2⟩, ⟨y3, f3⟩, y4, f4⟩ := KS.out w7 HB7.out
      obtain ⟨⟨x0, p0⟩, ⟨x1, p1⟩, ⟨x2, p2⟩, ⟨x3, p3⟩, x4, p4⟩ := show _ ∧ _ ∧ _ ∧ _ ∧ _ from ⟨BS7 0 _ rfl, BS7 1 _ rfl, BS7 2 _ rfl, BS7 3 _ rfl, BS7 4 _ rfl⟩
      have q6 : text.toList.isEmpty = false := neW (text_ne HL.out)
      clear b7 BS7
      by_cases e : Y = text
      · have HN := Lib.hid (rd_fin_yes HL.out HP.out HO.out HLM.out HG2.out H3.out (HY.out.trans e))
        have q5 : (Y.toList == text.toList) = true := by rw [e]; simp
        clear e
        go_wp2
        exact bodyPost_ret (v := .tuple #[spV (key.extract 2 key.size, ⟨#[]⟩, (-1), g2, n3), .bool true]) (by simp [results, Tryd.results6, go_sem, spV, y0, y1, y2, y3, y4]) rfl ⟨by rw [HN.out], (((((HF.out _ HB7.out).setCell (Nat.le_refl _) _).setCell (Nat.le_refl _) _).setCell (Nat.le_refl _) _).setCell (Nat.le_refl _) _).setCell (Nat.le_refl _) _⟩
      have HN := Lib.hid (rd_fin_no (key := key) HL.out HO.out HLM.out HG2.out H3.out (fun h => e (HY.out.symm.trans h)))
      have q5 : (Y.toList == text.toList) = false := by
        rw [beq_eq_false_iff_ne]
        exact fun e2 => e (tlW_inj e2)
      clear e
      go_wp2
      exact bodyPost_ret (v := .tuple #[spV zeroSp, .bool false]) (by simp [results, Tryd.results6, go_sem, spV, zeroSp, y0, y1, y2, y3, y4]) rfl ⟨by rw [HN.out], (((((HF.out _ HB7.out).setCell (Nat.le_refl _) _).setCell (Nat.le_refl _) _).setCell (Nat.le_refl _) _).setCell (Nat.le_refl _) _).setCell (Nat.le_refl _) _⟩
    have k1 := neqW [45, 49] q1
    by_cases q2 : n1 < 0
    · have HN := Lib.hid (rd_lim_no (key := key) HL.out q1 H1.out q2)
      have hne : w3.heap.size ≠ w.heap.size := by omega
      have hne2 : w.heap.size ≠ w3.heap.size := by omega
      go_wp2
      exact bodyPost_ret (v := .tuple #[spV zeroSp, .bool false]) (by simp [results, Tryd.results6, go_sem, spV, zeroSp, y0, y1, y2, y3, y4]) rfl ⟨by rw [HN.out], (((((HF.out _ (HB5.out.setCell (p := ⟨w3.heap.size, 1, none⟩) (show w1.heap.size ≤ w3.heap.size by omega) _)).setCell (Nat.le_refl _) _).setCell (Nat.le_refl _) _).setCell (Nat.le_refl _) _).setCell (Nat.le_refl _) _).setCell (Nat.le_refl _) _⟩
    have q3 : 0 ≤ n1 := by omega
    have hlm : limP c1 = n1 := limP_num q1 H1.out q3
    have HLM := Lib.hid hlm
    clear hlm
    obtain ⟨Y, hY⟩ : ∃ Y, swB (key.extract 2 key.size, ⟨#[]⟩, n1, g2, n3) = Y := ⟨_, rfl⟩
    have HY := Lib.hid hY
    clear hY
    go_wp2_with fail
    obtain ⟨w6, hW6⟩ : ∃ W, (w5.setCell ⟨w3.heap.size, 1, none⟩ (.string ⟨#[]⟩)) = W := ⟨_, rfl⟩
    have B6 := Lib.hid (show Below w1.heap.size w1 w6 by rw [← hW6]; exact (HB5.out.setCell (p := ⟨w3.heap.size, 1, none⟩) (show w1.heap.size ≤ w3.heap.size by omega) _))
    have BS6 := Lib.hid (show Box w6 w3.heap.size [.string (key.extract 2 key.size), .string ⟨#[]⟩, .int .i64 n1, .bool g2, .int .i64 n3] from by
      rw [← hW6]
      intro i v hv
      match i, hv with
      | 0, hv => cases hv; simp [go_sem, x0, p0]
      | 1, hv => cases hv; simp [go_sem, x1, p1]
      | 2, hv => cases hv; simp [go_sem, x2, p2]
      | 3, hv => cases hv; simp [go_sem, x3, p3]
      | 4, hv => cases hv; simp [go_sem, x4, p4]
      | n + 5, hv => simp at hv)
    rw [hW6]
    clear hW6 x0 x1 x2 x3 x4 p0 p1 p2 p3 p4 y0 y1 y2 y3 y4 f0 f1 f2 f3 f4 e0 e1 e2 e3
    refine (specSpW_any (key.extract 2 key.size) ⟨#[]⟩ n1 g2 n3 _ hkx (by first | (unfold maxLen; omega) | (unfold maxLen; decide) | (unfold maxLen; simp))).mono ?_
    rintro e w7 ⟨rfl, b7⟩
    rw [HY.out]
    have HB7 := Lib.hid (B6.out.trans (b7.mono B6.out.size))
    have BS7 := BS6.out.below b7
    obtain ⟨⟨y0, f0⟩, ⟨y1, f1⟩, ⟨y2, f2⟩, ⟨y3, f3⟩, y4, f4⟩ := KS.out w7 HB7.out
    obtain ⟨⟨x0, p0⟩, ⟨x1, p1⟩, ⟨x2, p2⟩, ⟨x3, p3⟩, x4, p4⟩ := show _ ∧ _ ∧ _ ∧ _ ∧ _ from ⟨BS7 0 _ rfl, BS7 1 _ rfl, BS7 2 _ rfl, BS7 3 _ rfl, BS7 4 _ rfl⟩
    have q6 : text.toList.isEmpty = false := neW (text_ne HL.out)
    clear b7 BS7
    by_cases e : Y = text
    · have HN := Lib.hid (rd_fin_yes HL.out HP.out HO.out HLM.out HG2.out H3.out (HY.out.trans e))
      have q5 : (Y.toList == text.toList) = true := by rw [e]; simp
      clear e
      go_wp2
      exact bodyPost_ret (v := .tuple #[spV (key.extract 2 key.size, ⟨#[]⟩, n1, g2, n3), .bool true]) (by simp [results, Tryd.results6, go_sem, spV, y0, y1, y2, y3, y4]) rfl ⟨by rw [HN.out], (((((HF.out _ HB7.out).setCell (Nat.le_refl _) _).setCell (Nat.le_refl _) _).setCell (Nat.le_refl _) _).setCell (Nat.le_refl _) _).setCell (Nat.le_refl _) _⟩
    have HN := Lib.hid (rd_fin_no (key := key) HL.out HO.out HLM.out HG2.out H3.out (fun h => e (HY.out.symm.trans h)))
    have q5 : (Y.toList == text.toList) = false := by
      rw [beq_eq_false_iff_ne]
      exact fun e2 => e (tlW_inj e2)
    clear e
    go_wp2
    exact bodyPost_ret (v := .tuple #[spV zeroSp, .bool false]) (by simp [results, Tryd.results6, go_sem, spV, zeroSp, y0, y1, y2, y3, y4]) rfl ⟨by rw [HN.out], (((((HF.out _ HB7.out).setCell (Nat.le_refl _) _).setCell (Nat.le_refl _) _).setCell (Nat.le_refl _) _).setCell (Nat.le_refl _) _).setCell (Nat.le_refl _) _⟩
  have k0 := neqW [45] q0
  have HO := Lib.hid (show wordR c0 = c0 by simp [wordR, q0])
  clear q0
  by_cases q1 : c1 = ⟨#[45, 49]⟩
  · have k1 := eqW [45, 49] q1
    have hlm : limP c1 = -1 := by rw [q1]; exact limP_yes
    have HLM := Lib.hid hlm
    clear hlm
    obtain ⟨Y, hY⟩ : ∃ Y, swB (key.extract 2 key.size, c0, (-1), g2, n3) = Y := ⟨_, rfl⟩
    have HY := Lib.hid hY
    clear hY
    go_wp2_with fail
    obtain ⟨w6, hW6⟩ : ∃ W, (w5.setCell ⟨w3.heap.size, 2, none⟩ (.int .i64 (-1))) = W := ⟨_, rfl⟩
    have B6 := Lib.hid (show Below w1.heap.size w1 w6 by rw [← hW6]; exact (HB5.out.setCell (p := ⟨w3.heap.size, 2, none⟩) (show w1.heap.size ≤ w3.heap.size by omega) _))
    have BS6 := Lib.hid (show Box w6 w3.heap.size [.string (key.extract 2 key.size), .string c0, .int .i64 (-1), .bool g2, .int .i64 n3] from by
      rw [← hW6]
      intro i v hv
      match i, hv with
      | 0, hv => cases hv; simp [go_sem, x0, p0]
      | 1, hv => cases hv; simp [go_sem, x1, p1]
      | 2, hv => cases hv; simp [go_sem, x2, p2]
      | 3, hv => cases hv; simp [go_sem, x3, p3]
      | 4, hv => cases hv; simp [go_sem, x4, p4]
      | n + 5, hv => simp at hv)
    rw [hW6]
    clear hW6 x0 x1 x2 x3 x4 p0 p1 p2 p3 p4 y0 y1 y2 y3 y4 f0 f1 f2 f3 f4 e0 e1 e2 e3
    refine (specSpW_any (key.extract 2 key.size) c0 (-1) g2 n3 _ hkx (by first | (unfold maxLen; omega) | (unfold maxLen; decide) | (unfold maxLen; simp))).mono ?_
    rintro e w7 ⟨rfl, b7⟩
    rw [HY.out]
    have HB7 := Lib.hid (B6.out.trans (b7.mono B6.out.size))
    have BS7 := BS6.out.below b7
    obtain ⟨⟨y0, f0⟩, ⟨y1, f1⟩, ⟨y2, f2⟩, ⟨y3, f3⟩, y4, f4⟩ := KS.out w7 HB7.out
    obtain ⟨⟨x0, p0⟩, ⟨x1, p1⟩, ⟨x2, p2⟩, ⟨x3, p3⟩, x4, p4⟩ := show _ ∧ _ ∧ _ ∧ _ ∧ _ from ⟨BS7 0 _ rfl, BS7 1 _ rfl, BS7 2 _ rfl, BS7 3 _ rfl, BS7 4 _ rfl⟩
    have q6 : text.toList.isEmpty = false := neW (text_ne HL.out)
    clear b7 BS7
    by_cases e : Y = text
    · have HN := Lib.hid (rd_fin_yes HL.out HP.out HO.out HLM.out HG2.out H3.out (HY.out.trans e))
      have q5 : (Y.toList == text.toList) = true := by rw [e]; simp
      clear e
      go_wp2
      exact bodyPost_ret (v := .tuple #[spV (key.extract 2 key.size, c0, (-1), g2, n3), .bool true]) (by simp [results, Tryd.results6, go_sem, spV, y0, y1, y2, y3, y4]) rfl ⟨by rw [HN.out], (((((HF.out _ HB7.out).setCell (Nat.le_refl _) _).setCell (Nat.le_refl _) _).setCell (Nat.le_refl _) _).setCell (Nat.le_refl _) _).setCell (Nat.le_refl _) _⟩
    have HN := Lib.hid (rd_fin_no (key := key) HL.out HO.out HLM.out HG2.out H3.out (fun h => e (HY.out.symm.trans h)))
    have q5 : (Y.toList == text.toList) = false := by
      rw [beq_eq_false_iff_ne]
      exact fun e2 => e (tlW_inj e2)
    clear e
    go_wp2
    exact bodyPost_ret (v := .tuple #[spV zeroSp, .bool false]) (by simp [results, Tryd.results6, go_sem, spV, zeroSp, y0, y1, y2, y3, y4]) rfl ⟨by rw [HN.out], (((((HF.out _ HB7.out).setCell (Nat.le_refl _) _).setCell (Nat.le_refl _) _).setCell (Nat.le_refl _) _).setCell (Nat.le_refl _) _).setCell (Nat.le_refl _) _⟩
  have k1 := neqW [45, 49] q1
  by_cases q2 : n1 < 0
  · have HN := Lib.hid (rd_lim_no (key := key) HL.out q1 H1.out q2)
    have hne : w3.heap.size ≠ w.heap.size := by omega
    have hne2 : w.heap.size ≠ w3.heap.size := by omega
    go_wp2
    exact bodyPost_ret (v := .tuple #[spV zeroSp, .bool false]) (by simp [results, Tryd.results6, go_sem, spV, zeroSp, y0, y1, y2, y3, y4]) rfl ⟨by rw [HN.out], (((((HF.out _ HB5.out).setCell (Nat.le_refl _) _).setCell (Nat.le_refl _) _).setCell (Nat.le_refl _) _).setCell (Nat.le_refl _) _).setCell (Nat.le_refl _) _⟩
  have q3 : 0 ≤ n1 := by omega
  have hlm : limP c1 = n1 := limP_num q1 H1.out q3
  have HLM := Lib.hid hlm
  clear hlm
  obtain ⟨Y, hY⟩ : ∃ Y, swB (key.extract 2 key.size, c0, n1, g2, n3) = Y := ⟨_, rfl⟩
  have HY := Lib.hid hY
  clear hY
  go_wp2_with fail
  obtain ⟨w6, hW6⟩ : ∃ W, w5 = W := ⟨_, rfl⟩
  have B6 := Lib.hid (show Below w1.heap.size w1 w6 by rw [← hW6]; exact HB5.out)
  have BS6 := Lib.hid (show Box w6 w3.heap.size [.string (key.extract 2 key.size), .string c0, .int .i64 n1, .bool g2, .int .i64 n3] from by
    rw [← hW6]
    intro i v hv
    match i, hv with
    | 0, hv => cases hv; simp [go_sem, x0, p0]
    | 1, hv => cases hv; simp [go_sem, x1, p1]
    | 2, hv => cases hv; simp [go_sem, x2, p2]
    | 3, hv => cases hv; simp [go_sem, x3, p3]
    | 4, hv => cases hv; simp [go_sem, x4, p4]
    | n + 5, hv => simp at hv)
  try rw [hW6]
  subst hW6
  clear x0 x1 x2 x3 x4 p0 p1 p2 p3 p4 y0 y1 y2 y3 y4 f0 f1 f2 f3 f4 e0 e1 e2 e3
  refine (specSpW_any (key.extract 2 key.size) c0 n1 g2 n3 _ hkx (by first | (unfold maxLen; omega) | (unfold maxLen; decide) | (unfold maxLen; simp))).mono ?_
  rintro e w7 ⟨rfl, b7⟩
  rw [HY.out]
  have HB7 := Lib.hid (B6.out.trans (b7.mono B6.out.size))
  have BS7 := BS6.out.below b7
  obtain ⟨⟨y0, f0⟩, ⟨y1, f1⟩, ⟨y2, f2⟩, ⟨y3, f3⟩, y4, f4⟩ := KS.out w7 HB7.out
  obtain ⟨⟨x0, p0⟩, ⟨x1, p1⟩, ⟨x2, p2⟩, ⟨x3, p3⟩, x4, p4⟩ := show _ ∧ _ ∧ _ ∧ _ ∧ _ from ⟨BS7 0 _ rfl, BS7 1 _ rfl, BS7 2 _ rfl, BS7 3 _ rfl, BS7 4 _ rfl⟩
  have q6 : text.toList.isEmpty = false := neW (text_ne HL.out)
  clear b7 BS7
  by_cases e : Y = text
  · have HN := Lib.hid (rd_fin_yes HL.out HP.out HO.out HLM.out HG2.out H3.out (HY.out.trans e))
    have q5 : (Y.toList == text.toList) = true := by rw [e]; simp
    clear e
    go_wp2
    exact bodyPost_ret (v := .tuple #[spV (key.extract 2 key.size, c0, n1, g2, n3), .bool true]) (by simp [results, Tryd.results6, go_sem, spV, y0, y1, y2, y3, y4]) rfl ⟨by rw [HN.out], (((((HF.out _ HB7.out).setCell (Nat.le_refl _) _).setCell (Nat.le_refl _) _).setCell (Nat.le_refl _) _).setCell (Nat.le_refl _) _).setCell (Nat.le_refl _) _⟩
  have HN := Lib.hid (rd_fin_no (key := key) HL.out HO.out HLM.out HG2.out H3.out (fun h => e (HY.out.symm.trans h)))
  have q5 : (Y.toList == text.toList) = false := by
    rw [beq_eq_false_iff_ne]
    exact fun e2 => e (tlW_inj e2)
  clear e
  go_wp2
  exact bodyPost_ret (v := .tuple #[spV zeroSp, .bool false]) (by simp [results, Tryd.results6, go_sem, spV, zeroSp, y0, y1, y2, y3, y4]) rfl ⟨by rw [HN.out], (((((HF.out _ HB7.out).setCell (Nat.le_refl _) _).setCell (Nat.le_refl _) _).setCell (Nat.le_refl _) _).setCell (Nat.le_refl _) _).setCell (Nat.le_refl _) _⟩
end Go.Proofs.YthbhgeifknkolaaDoor
