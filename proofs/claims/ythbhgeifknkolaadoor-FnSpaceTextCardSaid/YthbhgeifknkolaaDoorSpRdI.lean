import Derived.Test.YthbhgeifknkolaaDoorSpRdW
import Derived.Deep.Cut
/- SpaceRead of the program. -/
namespace Go.Proofs.YthbhgeifknkolaaDoor
open Go Go.RowKit

theorem pre_is (key : ByteArray) : Lib.hasPrefix key.data.toList (⟨#[115, 46]⟩ : ByteArray).data.toList = preB key := by
  have hsz : key.data.toList.length = key.size := by simp
  rw [Bool.eq_iff_iff]
  unfold Lib.hasPrefix preB
  rw [List.isPrefixOf_iff_prefix, List.prefix_iff_eq_take, Bool.and_eq_true, decide_eq_true_eq, decide_eq_true_eq]
  show [115, 46] = key.data.toList.take 2 ↔ _
  constructor
  · intro h
    have h2 : 2 ≤ key.size := by
      have := congrArg List.length h
      rw [List.length_take, hsz] at this
      simp at this
      omega
    refine ⟨h2, bytes_ext ?_⟩
    rw [Lib.extract_data]
    simpa using h.symm
  · rintro ⟨h2, h⟩
    have := congrArg (fun b : ByteArray => b.data.toList) h
    simp only [Lib.extract_data] at this
    simpa using this.symm
theorem trim_is {key : ByteArray} (h : preB key = true) : (⟨(Lib.trimPrefix key.data.toList (⟨#[115, 46]⟩ : ByteArray).data.toList).toArray⟩ : ByteArray) = key.extract 2 key.size := by
  apply bytes_ext
  unfold Lib.trimPrefix
  rw [pre_is, h, if_pos rfl, Lib.extract_data]
  show key.data.toList.drop 2 = (key.data.toList.drop 2).take (key.size - 2)
  rw [List.take_of_length_le]
  rw [List.length_drop]
  simp
theorem splitI_any (text : ByteArray) (w : World) (ht : text.size ≤ 1048576) (hm : ∃ m, w.cell? ⟨0, 0, none⟩ = some (.int .i64 m)) :
    Calls Tryd.prog 14 #[.string text, .string ⟨#[32]⟩] w fun e w' => e = .returned (.slice (some ⟨w.heap.size, 0, none⟩) (cutsB 32 text).length (cutsB 32 text).length) ∧ w' = w.alloc (.cells ((cutsB 32 text).map Value.string).toArray 9) := by
  obtain ⟨m, hm⟩ := hm
  refine (Tryd.strings_Split text ⟨#[32]⟩ m w (by omega) hm (by decide)).mono ?_
  rintro e w' ⟨rfl, rfl⟩
  have h1 := split_cuts 32 text.size text (Nat.le_refl _)
  have h2 := Lib.splitB_all ⟨#[32]⟩ (by decide) 0 _ text rfl
  rw [h1] at h2 ⊢
  rw [h2]
  exact ⟨rfl, rfl⟩
def spVI (x : SpaceD) : Value := .agg #[.string x.1, .string x.2.1, .int .i64 x.2.2.1, .bool x.2.2.2.1, .int .i64 x.2.2.2.2]
def RdPostI (w : World) (r : SpaceD × Bool) (e : Ending) (w' : World) : Prop := e = .returned (.tuple #[spVI r.1, .bool r.2]) ∧ Below w.heap.size w w'
theorem cutP_yes {key : ByteArray} (h : preB key = true) (w : World) : Calls Tryd.prog 13 #[.string key, .string ⟨#[115, 46]⟩] w fun e w' => e = .returned (.tuple #[.string (key.extract 2 key.size), .bool true]) ∧ w' = w := by
  refine (Tryd.strings_CutPrefix key ⟨#[115, 46]⟩ w).mono ?_
  rintro e w' ⟨rfl, hw⟩
  exact ⟨by rw [pre_is, h, trim_is h], hw⟩
theorem cutP_no {key : ByteArray} (h : preB key = false) (w : World) : Calls Tryd.prog 13 #[.string key, .string ⟨#[115, 46]⟩] w fun e w' => (∃ s, e = .returned (.tuple #[.string s, .bool false])) ∧ w' = w := by
  refine (Tryd.strings_CutPrefix key ⟨#[115, 46]⟩ w).mono ?_
  rintro e w' ⟨rfl, hw⟩
  exact ⟨⟨_, by rw [pre_is, h]⟩, hw⟩
set_option maxRecDepth 100000 in
set_option maxHeartbeats 8000000 in
theorem implSpRd_any (key text : ByteArray) (w : World) (hk : key.size ≤ 1048576) (ht : text.size ≤ 1048576) (htab : Lib.TabIs Tryd.prog w "internal/strconv.uint64pow10" .u64 Lib.pow10Tab) (hml : ∃ m, w.cell? ⟨0, 0, none⟩ = some (.int .i64 m)) :
    Calls Tryd.prog 5 #[.string key, .string text] w (RdPostI w (rdS key text)) := by
  have HT := Lib.hid htab
  clear htab
  obtain ⟨w1, hA⟩ : ∃ wA, w.alloc (.cells #[.string ⟨#[]⟩, .string ⟨#[]⟩, .int .i64 0, .bool false, .int .i64 0] 26) = wA := ⟨_, rfl⟩
  have BX := Lib.hid (show Box w1 w.heap.size [.string ⟨#[]⟩, .string ⟨#[]⟩, .int .i64 0, .bool false, .int .i64 0] by rw [← hA]; exact Box.alloc w _ _)
  have B1 := Lib.hid (show Below w.heap.size w w1 by rw [← hA]; exact below_alloc _ _)
  have z1 : w1.heap.size = w.heap.size + 1 := by rw [← hA, World.size_alloc]
  have HM := Lib.hid (show ∃ m, w1.cell? ⟨0, 0, none⟩ = some (.int .i64 m) from by
    obtain ⟨m, hm⟩ := hml
    exact ⟨m, (B1.out.cell (by have := World.block_lt_of_cell? w _ hm; simpa using this)).trans hm⟩)
  have HF := Lib.hid (show ∀ W, Below w1.heap.size w1 W → Below w.heap.size w W from fun W hb => B1.out.trans (hb.mono (by omega)))
  have KS := Lib.hid (show ∀ W, Below w1.heap.size w1 W → (W.cell? ⟨w.heap.size, 0, none⟩ = some (.string ⟨#[]⟩) ∧ W.frozen? ⟨w.heap.size, 0, none⟩ = false) ∧ (W.cell? ⟨w.heap.size, 1, none⟩ = some (.string ⟨#[]⟩) ∧ W.frozen? ⟨w.heap.size, 1, none⟩ = false) ∧ (W.cell? ⟨w.heap.size, 2, none⟩ = some (.int .i64 0) ∧ W.frozen? ⟨w.heap.size, 2, none⟩ = false) ∧ (W.cell? ⟨w.heap.size, 3, none⟩ = some (.bool false) ∧ W.frozen? ⟨w.heap.size, 3, none⟩ = false) ∧ (W.cell? ⟨w.heap.size, 4, none⟩ = some (.int .i64 0) ∧ W.frozen? ⟨w.heap.size, 4, none⟩ = false) from fun W hb => by
    have h := BX.out.below hb
    exact ⟨h 0 _ rfl, h 1 _ rfl, h 2 _ rfl, h 3 _ rfl, h 4 _ rfl⟩)
  have HA := Lib.hid hA
  clear hA hml
  obtain ⟨L, hL⟩ : ∃ L, cutsB 32 text = L := ⟨_, rfl⟩
  have HL := Lib.hid hL
  have HSP := Lib.hid (splitI_any text w1 ht HM.out)
  rw [hL] at HSP
  clear hL
  cases hp : preB key with
  | false =>
    have HN := Lib.hid (show rdS key text = (zeroSp, false) from rdS_pre hp)
    have HP := Lib.hid hp
    clear hp
    go_enter Tryd.func5, Tryd.ntmps5
    go_wp2_with fail
    rw [HA.out]
    refine (cutP_no HP.out _).mono ?_
    rintro e w2 ⟨⟨s, rfl⟩, rfl⟩
    go_wp2_with fail
    refine HSP.out.mono ?_
    rintro e w2 ⟨rfl, rfl⟩
    obtain ⟨⟨y0, f0⟩, ⟨y1, f1⟩, ⟨y2, f2⟩, ⟨y3, f3⟩, y4, f4⟩ := KS.out _ (below_alloc w2 (.cells (L.map Value.string).toArray 9))
    have HB4 := Lib.hid (below_alloc w2 (.cells (L.map Value.string).toArray 9))
    generalize w2.alloc (.cells (L.map Value.string).toArray 9) = w4 at y0 y1 y2 y3 y4 f0 f1 f2 f3 f4 HB4 ⊢
    go_wp2
    exact bodyPost_ret (v := .tuple #[spVI zeroSp, .bool false]) (by simp [results, Tryd.results5, go_sem, spVI, zeroSp, y0, y1, y2, y3, y4]) rfl ⟨by rw [HN.out], (((((HF.out _ HB4.out).setCell (Nat.le_refl _) _).setCell (Nat.le_refl _) _).setCell (Nat.le_refl _) _).setCell (Nat.le_refl _) _).setCell (Nat.le_refl _) _⟩
  | true =>
  have HP := Lib.hid hp
  clear hp
  by_cases h4 : L.length = 4
  rotate_left
  · have HN := Lib.hid (show rdS key text = (zeroSp, false) from rdS_len (by rw [HL.out]; exact h4))
    have h4' : ((L.length : Int) == 4) = false := by rw [beq_eq_false_iff_ne]; omega
    have h4n : ((L.length : Int) != 4) = true := by simp; omega
    clear h4
    go_enter Tryd.func5, Tryd.ntmps5
    go_wp2_with fail
    rw [HA.out]
    refine (cutP_yes HP.out _).mono ?_
    rintro e w2 ⟨rfl, rfl⟩
    go_wp2_with fail
    refine HSP.out.mono ?_
    rintro e w3 ⟨rfl, rfl⟩
    obtain ⟨⟨y0, f0⟩, ⟨y1, f1⟩, ⟨y2, f2⟩, ⟨y3, f3⟩, y4, f4⟩ := KS.out _ (below_alloc w2 (.cells (L.map Value.string).toArray 9))
    have HB4 := Lib.hid (below_alloc w2 (.cells (L.map Value.string).toArray 9))
    generalize w2.alloc (.cells (L.map Value.string).toArray 9) = w4 at y0 y1 y2 y3 y4 f0 f1 f2 f3 f4 HB4 ⊢
    go_wp2
    exact bodyPost_ret (v := .tuple #[spVI zeroSp, .bool false]) (by simp [results, Tryd.results5, go_sem, spVI, zeroSp, y0, y1, y2, y3, y4]) rfl ⟨by rw [HN.out], (((((HF.out _ HB4.out).setCell (Nat.le_refl _) _).setCell (Nat.le_refl _) _).setCell (Nat.le_refl _) _).setCell (Nat.le_refl _) _).setCell (Nat.le_refl _) _⟩
  obtain ⟨c0, c1, c2, c3, rfl⟩ := len4 h4
  have hsz : ∀ x ∈ [c0, c1, c2, c3], x.size ≤ 1048576 := fun x hx => by
    have h1 : x ∈ cutsB 32 text := by rw [HL.out]; exact hx
    unfold cutsB at h1
    obtain ⟨l, hl, rfl⟩ := List.mem_map.1 h1
    rw [mkB_size]
    have := cutL_mem 32 _ l hl
    simp at this
    omega
  have s0 := hsz c0 (by simp)
  have s1 := hsz c1 (by simp)
  have s3 := hsz c3 (by simp)
  clear hsz h4
  have hkx : (key.extract 2 key.size).size ≤ maxLen := by rw [ByteArray.size_extract]; unfold maxLen; omega
  have hox : (wordR c0).size ≤ maxLen := by
    unfold wordR maxLen
    split
    · decide
    · omega
  have HW := Lib.hid (fun W => wordR_any c0 W)
  have HLR := Lib.hid (fun W (hb : Below w1.heap.size w1 W) => limR_any c1 (by unfold maxLen; omega) W (tab_below HT.out (HF.out W hb)))
  have HWN := Lib.hid (fun W => implNum_any c3 W (by unfold maxLen; omega))
  obtain ⟨g2, hg2⟩ : ∃ g, goB c2 = g := ⟨_, rfl⟩
  have hgq : (c2.toList == [103, 111, 105, 110, 103]) = g2 := by
    rw [← hg2]
    unfold goB
    by_cases e : c2 = ⟨#[103, 111, 105, 110, 103]⟩
    · rw [eqW [103, 111, 105, 110, 103] e, decide_eq_true e]
    · rw [neqW [103, 111, 105, 110, 103] e, decide_eq_false e]
  obtain ⟨Y, hY⟩ : ∃ Y, swB (mkSp key c0 c1 c2 c3) = Y := ⟨_, rfl⟩
  have HY := Lib.hid (show swB (key.extract 2 key.size, wordR c0, limP c1, g2, numP c3.data.toList) = Y by rw [← hY, ← hg2]; rfl)
  have HX := Lib.hid (show mkSp key c0 c1 c2 c3 = (key.extract 2 key.size, wordR c0, limP c1, g2, numP c3.data.toList) by rw [← hg2]; rfl)
  have HYY := Lib.hid hY
  clear hY hg2
  generalize wordR c0 = o at hox HW HY HX
  generalize limP c1 = lm at HLR HY HX
  generalize numP c3.data.toList = n3 at HWN HY HX
  generalize numOk c3.data.toList = ok3 at HWN
  obtain ⟨nm, hnm⟩ : ∃ x, key.extract 2 key.size = x := ⟨_, rfl⟩
  have HCP := Lib.hid (cutP_yes HP.out w1)
  rw [hnm] at hkx HY HX HCP
  clear hnm
  go_enter Tryd.func5, Tryd.ntmps5
  go_wp2_with fail
  rw [HA.out]
  refine HCP.out.mono ?_
  rintro e w2 ⟨rfl, rfl⟩
  go_wp2_with fail
  refine HSP.out.mono ?_
  rintro e w3 ⟨rfl, rfl⟩
  have hg := Box.alloc w2 #[.string c0, .string c1, .string c2, .string c3] 9
  have HB := Lib.hid (below_alloc w2 (.cells #[.string c0, .string c1, .string c2, .string c3] 9))
  have hg1 : w2.heap.size < (w2.alloc (.cells #[.string c0, .string c1, .string c2, .string c3] 9)).heap.size := by rw [World.size_alloc]; omega
  obtain ⟨w4, hw4⟩ : ∃ W, w2.alloc (.cells #[.string c0, .string c1, .string c2, .string c3] 9) = W := ⟨_, rfl⟩
  rw [hw4] at hg HB hg1
  rw [z1] at hg
  have KW := Lib.hid (show ∀ W, Below w4.heap.size w4 W → Below w4.heap.size w4 W ∧ W.cell? ⟨w.heap.size + 1, 0, none⟩ = some (.string c0) ∧ W.cell? ⟨w.heap.size + 1, 1, none⟩ = some (.string c1) ∧ W.cell? ⟨w.heap.size + 1, 2, none⟩ = some (.string c2) ∧ W.cell? ⟨w.heap.size + 1, 3, none⟩ = some (.string c3) from fun W hb => by
    have h := hg.below hb
    exact ⟨hb, (h 0 _ rfl).1, (h 1 _ rfl).1, (h 2 _ rfl).1, (h 3 _ rfl).1⟩)
  have hlw : ([c0, c1, c2, c3] : List ByteArray).length = 4 := rfl
  rw [show w2.alloc (.cells ([c0, c1, c2, c3].map Value.string).toArray 9) = w4 from hw4, hlw]
  obtain ⟨-, e0, e1, e2, e3⟩ := KW.out w4 (Below.refl _ _)
  clear hg hw4 hlw
  go_wp2_with fail
  refine (HWN.out _).mono ?_
  rintro e w5 ⟨rfl, rfl⟩
  clear e0 e1 e2 e3
  go_upto_region 6 with fail
  refine wp_region_held_drew (S := fun W => Below w4.heap.size w4 W ∧ W.cell? ⟨w.heap.size + 1, 0, none⟩ = some (.string c0) ∧ W.cell? ⟨w.heap.size + 1, 1, none⟩ = some (.string c1) ∧ W.cell? ⟨w.heap.size + 1, 2, none⟩ = some (.string c2) ∧ W.cell? ⟨w.heap.size + 1, 3, none⟩ = some (.string c3)) (by kernel_rfl) (KW.out _ (Below.refl _ _).drew) (fun hHeld => ?_)
  obtain ⟨w5, hw5⟩ : ∃ W, w4.drew = W := ⟨_, rfl⟩
  have hs5 : w4.heap.size = w5.heap.size := by rw [← hw5]; rfl
  rw [hw5] at hHeld ⊢
  clear hw5
  refine wpAnyH_take (i := 0) (oi := { dst := some 34, op := Op.move (Operand.tmp 6), type := 9, pos := "l8_space.go:148", after := _, guard := none }) (v := ?_) rfl (by kernel_rfl) (by kernel_rfl) (by kernel_rfl) (fun _ _ _ h => h) (Or.inl ⟨by rfl, ?_⟩) (by assumption) ?_
  rotate_left
  · (intro w hSw; (try dsimp only at hSw); go_simp; (try with_reducible rfl))
  simp only [Act.put, List.setIfInBounds_toArray, List.set_cons_zero, List.set_cons_succ]
  refine wpAnyH_take (i := 1) (oi := { dst := some 35, op := Op.move (Operand.tmp 8), type := 36, pos := "l8_space.go:148", after := _, guard := none }) (v := ?_) rfl (by kernel_rfl) (by kernel_rfl) (by kernel_rfl) (fun _ _ _ h => h) (Or.inl ⟨by rfl, ?_⟩) (by assumption) ?_
  rotate_left
  · (intro w hSw; (try dsimp only at hSw); go_simp; (try with_reducible rfl))
  simp only [Act.put, List.setIfInBounds_toArray, List.set_cons_zero, List.set_cons_succ]
  refine wpAnyH_take (i := 2) (oi := { dst := some 36, op := Op.indexAddr 36 (Operand.tmp 35) (Operand.const (Value.int IntKind.i64 0)), type := 0, pos := "l8_space.go:148", after := _, guard := none }) (v := ?_) rfl (by kernel_rfl) (by kernel_rfl) (by kernel_rfl) (fun _ _ _ h => h) (Or.inl ⟨by rfl, ?_⟩) (by assumption) ?_
  rotate_left
  · (intro w hSw; (try dsimp only at hSw); go_simp; (try with_reducible rfl))
  simp only [Act.put, List.setIfInBounds_toArray, List.set_cons_zero, List.set_cons_succ]
  refine wpAnyH_take (i := 3) (oi := { dst := some 37, op := Op.load 9 (Operand.tmp 36), type := 9, pos := "l8_space.go:148", after := _, guard := none }) (v := ?_) rfl (by kernel_rfl) (by kernel_rfl) (by kernel_rfl) (fun _ _ _ h => h) (Or.inl ⟨by rfl, ?_⟩) (by assumption) ?_
  rotate_left
  · (intro w hSw; (try dsimp only at hSw); go_simp; (try with_reducible rfl))
  simp only [Act.put, List.setIfInBounds_toArray, List.set_cons_zero, List.set_cons_succ]
  refine wpAnyH_take (i := 5) (oi := { dst := some 39, op := Op.move (Operand.tmp 8), type := 36, pos := "l8_space.go:148", after := _, guard := none }) (v := ?_) rfl (by kernel_rfl) (by kernel_rfl) (by kernel_rfl) (fun _ _ _ h => h) (Or.inl ⟨by rfl, ?_⟩) (by assumption) ?_
  rotate_left
  · (intro w hSw; (try dsimp only at hSw); go_simp; (try with_reducible rfl))
  simp only [Act.put, List.setIfInBounds_toArray, List.set_cons_zero, List.set_cons_succ]
  refine wpAnyH_take (i := 6) (oi := { dst := some 40, op := Op.indexAddr 36 (Operand.tmp 39) (Operand.const (Value.int IntKind.i64 1)), type := 0, pos := "l8_space.go:148", after := _, guard := none }) (v := ?_) rfl (by kernel_rfl) (by kernel_rfl) (by kernel_rfl) (fun _ _ _ h => h) (Or.inl ⟨by rfl, ?_⟩) (by assumption) ?_
  rotate_left
  · (intro w hSw; (try dsimp only at hSw); go_simp; (try with_reducible rfl))
  simp only [Act.put, List.setIfInBounds_toArray, List.set_cons_zero, List.set_cons_succ]
  refine wpAnyH_take (i := 7) (oi := { dst := some 41, op := Op.load 9 (Operand.tmp 40), type := 9, pos := "l8_space.go:148", after := _, guard := none }) (v := ?_) rfl (by kernel_rfl) (by kernel_rfl) (by kernel_rfl) (fun _ _ _ h => h) (Or.inl ⟨by rfl, ?_⟩) (by assumption) ?_
  rotate_left
  · (intro w hSw; (try dsimp only at hSw); go_simp; (try with_reducible rfl))
  simp only [Act.put, List.setIfInBounds_toArray, List.set_cons_zero, List.set_cons_succ]
  refine wpAnyH_take (i := 9) (oi := { dst := some 43, op := Op.move (Operand.tmp 8), type := 36, pos := "l8_space.go:148", after := _, guard := none }) (v := ?_) rfl (by kernel_rfl) (by kernel_rfl) (by kernel_rfl) (fun _ _ _ h => h) (Or.inl ⟨by rfl, ?_⟩) (by assumption) ?_
  rotate_left
  · (intro w hSw; (try dsimp only at hSw); go_simp; (try with_reducible rfl))
  simp only [Act.put, List.setIfInBounds_toArray, List.set_cons_zero, List.set_cons_succ]
  refine wpAnyH_take (i := 10) (oi := { dst := some 44, op := Op.indexAddr 36 (Operand.tmp 43) (Operand.const (Value.int IntKind.i64 2)), type := 0, pos := "l8_space.go:148", after := _, guard := none }) (v := ?_) rfl (by kernel_rfl) (by kernel_rfl) (by kernel_rfl) (fun _ _ _ h => h) (Or.inl ⟨by rfl, ?_⟩) (by assumption) ?_
  rotate_left
  · (intro w hSw; (try dsimp only at hSw); go_simp; (try with_reducible rfl))
  simp only [Act.put, List.setIfInBounds_toArray, List.set_cons_zero, List.set_cons_succ]
  refine wpAnyH_take (i := 11) (oi := { dst := some 45, op := Op.load 9 (Operand.tmp 44), type := 9, pos := "l8_space.go:148", after := _, guard := none }) (v := ?_) rfl (by kernel_rfl) (by kernel_rfl) (by kernel_rfl) (fun _ _ _ h => h) (Or.inl ⟨by rfl, ?_⟩) (by assumption) ?_
  rotate_left
  · (intro w hSw; (try dsimp only at hSw); go_simp; (try with_reducible rfl))
  simp only [Act.put, List.setIfInBounds_toArray, List.set_cons_zero, List.set_cons_succ]
  refine wpAnyH_take (i := 12) (oi := { dst := some 46, op := Op.binOp BinOp.eql 9 (Operand.tmp 45) (Operand.const (Value.string { data := #[103, 111, 105, 110, 103] })) 9, type := 4, pos := "l8_space.go:148", after := _, guard := none }) (v := ?_) rfl (by kernel_rfl) (by kernel_rfl) (by kernel_rfl) (fun _ _ _ h => h) (Or.inl ⟨by rfl, ?_⟩) (by assumption) ?_
  rotate_left
  · (intro w hSw; (try dsimp only at hSw); go_simp; (try with_reducible rfl))
  simp only [Act.put, List.setIfInBounds_toArray, List.set_cons_zero, List.set_cons_succ]
  refine wpAnyH_take (i := 13) (oi := { dst := some 47, op := Op.move (Operand.tmp 9), type := 3, pos := "l8_space.go:148", after := _, guard := none }) (v := ?_) rfl (by kernel_rfl) (by kernel_rfl) (by kernel_rfl) (fun _ _ _ h => h) (Or.inl ⟨by rfl, ?_⟩) (by assumption) ?_
  rotate_left
  · (intro w hSw; (try dsimp only at hSw); go_simp; (try with_reducible rfl))
  simp only [Act.put, List.setIfInBounds_toArray, List.set_cons_zero, List.set_cons_succ]
  refine wpAnyH_ready (rs := [4, 15]) (by kernel_rfl) (by simp) ?_
  refine AllReadyH.cons (o := { dst := some 38, op := Op.call { callee := Callee.value (Operand.func 16), args := #[Operand.tmp 37], argTypes := #[9] }, type := 9, pos := "l8_space.go:148", after := _, guard := none }) rfl (fun K hK => ?_) ?_
  · skip
    go_simp
    refine (HW.out w5).mono ?_
    rintro e w6 ⟨rfl, b6⟩
    have H6 : Below w4.heap.size w4 w6 := hHeld.1.trans (b6.mono hHeld.1.size)
    (try replace BZ := BZ.below b6)
    clear b6
    (try dsimp only)
    refine hK.out _ _ ?_ (fun hHeld => ?_)
    · exact KW.out _ H6
    clear hK K
    (try simp only [Act.put, List.setIfInBounds_toArray, List.set_cons_zero, List.set_cons_succ])
    refine wpAnyH_ready (rs := [8, 15]) (by kernel_rfl) (by simp) ?_
    refine AllReadyH.cons (o := { dst := some 42, op := Op.call { callee := Callee.value (Operand.func 17), args := #[Operand.tmp 41], argTypes := #[9] }, type := 3, pos := "l8_space.go:148", after := _, guard := none }) rfl (fun K hK => ?_) ?_
    · skip
      go_simp
      refine (HLR.out w6 (HB.out.trans (hHeld.1.mono HB.out.size))).mono ?_
      rintro e w7 ⟨rfl, b7⟩
      have H7 : Below w4.heap.size w4 w7 := hHeld.1.trans (b7.mono hHeld.1.size)
      (try replace BZ := BZ.below b7)
      clear b7
      (try dsimp only)
      refine hK.out _ _ ?_ (fun hHeld => ?_)
      · exact KW.out _ H7
      clear hK K
      (try simp only [Act.put, List.setIfInBounds_toArray, List.set_cons_zero, List.set_cons_succ])
      refine wpAnyH_take (i := 14) (oi := { dst := some 48, op := Op.build 26 #[(0, Operand.tmp 34), (1, Operand.tmp 38), (2, Operand.tmp 42), (3, Operand.tmp 46), (4, Operand.tmp 47)], type := 26, pos := "l8_space.go:148", after := _, guard := none }) (v := ?_) rfl (by kernel_rfl) (by kernel_rfl) (by kernel_rfl) (fun _ _ _ h => h) (Or.inl ⟨by rfl, ?_⟩) (by assumption) ?_
      rotate_left
      · (intro w hSw; (try dsimp only at hSw); go_simp; (try with_reducible rfl))
      simp only [Act.put, List.setIfInBounds_toArray, List.set_cons_zero, List.set_cons_succ]
      refine wpAnyH_ready (rs := [15]) (by kernel_rfl) (by simp) ?_
      refine AllReadyH.cons (o := { dst := some 11, op := Op.alloc 26, type := 0, pos := "l8_space.go:148", after := _, guard := none }) rfl (fun K hK => ?_) AllReadyH.nil
      have HC := hHeld.1
      have hR : w4.heap.size ≤ w7.heap.size := HC.size
      go_simp
      obtain ⟨wz, hz⟩ : ∃ W, World.alloc w7 (.cells #[.string ⟨#[]⟩, .string ⟨#[]⟩, .int .i64 0, .bool false, .int .i64 0] 26) = W := ⟨_, rfl⟩
      have BZ : Box wz w7.heap.size [.string ⟨#[]⟩, .string ⟨#[]⟩, .int .i64 0, .bool false, .int .i64 0] := by rw [← hz]; exact Box.alloc w7 _ _
      have HZ : Below w4.heap.size w4 wz := by rw [← hz]; exact HC.alloc HC.size _
      rw [hz]
      obtain ⟨R, hRR⟩ : ∃ R, w7.heap.size = R := ⟨_, rfl⟩
      rw [hRR] at BZ hR ⊢
      clear hz HC hRR
      refine hK.out _ _ ?_ (fun hHeld => ?_)
      · exact KW.out _ HZ
      clear hK K
      (try simp only [Act.put, List.setIfInBounds_toArray, List.set_cons_zero, List.set_cons_succ])
      refine wpAnyH_ready (rs := [16]) (by kernel_rfl) (by simp) ?_
      refine AllReadyH.cons (o := { dst := none, op := Op.store 26 (Operand.tmp 11) (Operand.tmp 48), type := 0, pos := "l8_space.go:148", after := _, guard := none }) rfl (fun K hK => ?_) AllReadyH.nil
      obtain ⟨⟨t0, u0⟩, ⟨t1, u1⟩, ⟨t2, u2⟩, ⟨t3, u3⟩, t4, u4⟩ := show _ ∧ _ ∧ _ ∧ _ ∧ _ from ⟨BZ 0 _ rfl, BZ 1 _ rfl, BZ 2 _ rfl, BZ 3 _ rfl, BZ 4 _ rfl⟩
      have HC := hHeld.1
      go_simp
      refine hK.out _ _ ?_ (fun hHeld => ?_)
      · exact KW.out _ (((((HC.setCell hR _).setCell hR _).setCell hR _).setCell hR _).setCell hR _)
      clear hK K
      (try simp only [Act.put, List.setIfInBounds_toArray, List.set_cons_zero, List.set_cons_succ])
      refine wpAnyH_done (by kernel_rfl) ?_ _
      obtain ⟨w8, hW8⟩ : ∃ W, ((((wz.setCell ⟨R, 0, none⟩ (.string nm)).setCell ⟨R, 1, none⟩ (.string o)).setCell ⟨R, 2, none⟩ (.int .i64 lm)).setCell ⟨R, 3, none⟩ (.bool g2)).setCell ⟨R, 4, none⟩ (.int .i64 n3) = W := ⟨_, rfl⟩
      have BS := Lib.hid (show Box w8 R [.string nm, .string o, .int .i64 lm, .bool g2, .int .i64 n3] from by
        rw [← hW8]
        intro i v hv
        match i, hv with
        | 0, hv => cases hv; simp [go_sem, t0, u0]
        | 1, hv => cases hv; simp [go_sem, t1, u1]
        | 2, hv => cases hv; simp [go_sem, t2, u2]
        | 3, hv => cases hv; simp [go_sem, t3, u3]
        | 4, hv => cases hv; simp [go_sem, t4, u4]
        | n + 5, hv => simp at hv)
      have hb8 := hHeld.1
      rw [hW8] at hb8 ⊢
      clear hHeld hW8 HC t0 t1 t2 t3 t4 u0 u1 u2 u3 u4
      have HB8 := Lib.hid (HB.out.trans (hb8.mono HB.out.size))
      obtain ⟨⟨x0, p0⟩, ⟨x1, p1⟩, ⟨x2, p2⟩, ⟨x3, p3⟩, x4, p4⟩ := show _ ∧ _ ∧ _ ∧ _ ∧ _ from ⟨BS.out 0 _ rfl, BS.out 1 _ rfl, BS.out 2 _ rfl, BS.out 3 _ rfl, BS.out 4 _ rfl⟩
      clear hb8 p0 p1 p2 p3 p4
      go_wp2_with fail
      refine (implSpW_any nm o lm g2 n3 _ hkx hox (tab_below HT.out (HF.out _ HB8.out))).mono ?_
      rintro e w9 ⟨rfl, b9⟩
      rw [HY.out]
      have HB9 := Lib.hid (HB8.out.trans (b9.mono HB8.out.size))
      have BS9 := BS.out.below b9
      clear x0 x1 x2 x3 x4
      obtain ⟨⟨y0, f0⟩, ⟨y1, f1⟩, ⟨y2, f2⟩, ⟨y3, f3⟩, y4, f4⟩ := KS.out w9 HB9.out
      obtain ⟨⟨x0, p0⟩, ⟨x1, p1⟩, ⟨x2, p2⟩, ⟨x3, p3⟩, x4, p4⟩ := show _ ∧ _ ∧ _ ∧ _ ∧ _ from ⟨BS9 0 _ rfl, BS9 1 _ rfl, BS9 2 _ rfl, BS9 3 _ rfl, BS9 4 _ rfl⟩
      clear b9 BS9 p0 p1 p2 p3 p4
      by_cases e : Y = text
      · have HN := Lib.hid (show rdS key text = ((nm, o, lm, g2, n3), true) by rw [rdS_yes HL.out HP.out (HYY.out.trans e), HX.out])
        have q5 : (Y.toList == text.toList) = true := by rw [e]; simp
        clear e
        go_wp2
        exact bodyPost_ret (v := .tuple #[spVI (nm, o, lm, g2, n3), .bool true]) (by simp [results, Tryd.results5, go_sem, spVI, y0, y1, y2, y3, y4]) rfl ⟨by rw [HN.out], (((((HF.out _ HB9.out).setCell (Nat.le_refl _) _).setCell (Nat.le_refl _) _).setCell (Nat.le_refl _) _).setCell (Nat.le_refl _) _).setCell (Nat.le_refl _) _⟩
      have HN := Lib.hid (show rdS key text = (zeroSp, false) from rdS_no HL.out (fun h => e (HYY.out.symm.trans h)))
      have q5 : (Y.toList == text.toList) = false := by
        rw [beq_eq_false_iff_ne]
        exact fun e2 => e (tlW_inj e2)
      clear e
      go_wp2
      exact bodyPost_ret (v := .tuple #[spVI zeroSp, .bool false]) (by simp [results, Tryd.results5, go_sem, spVI, zeroSp, y0, y1, y2, y3, y4]) rfl ⟨by rw [HN.out], (((((HF.out _ HB9.out).setCell (Nat.le_refl _) _).setCell (Nat.le_refl _) _).setCell (Nat.le_refl _) _).setCell (Nat.le_refl _) _).setCell (Nat.le_refl _) _⟩
    refine AllReadyH.cons (o := { dst := some 11, op := Op.alloc 26, type := 0, pos := "l8_space.go:148", after := _, guard := none }) rfl (fun K hK => ?_) AllReadyH.nil
    have HC := hHeld.1
    have hR : w4.heap.size ≤ w6.heap.size := HC.size
    go_simp
    obtain ⟨wz, hz⟩ : ∃ W, World.alloc w6 (.cells #[.string ⟨#[]⟩, .string ⟨#[]⟩, .int .i64 0, .bool false, .int .i64 0] 26) = W := ⟨_, rfl⟩
    have BZ : Box wz w6.heap.size [.string ⟨#[]⟩, .string ⟨#[]⟩, .int .i64 0, .bool false, .int .i64 0] := by rw [← hz]; exact Box.alloc w6 _ _
    have HZ : Below w4.heap.size w4 wz := by rw [← hz]; exact HC.alloc HC.size _
    rw [hz]
    obtain ⟨R, hRR⟩ : ∃ R, w6.heap.size = R := ⟨_, rfl⟩
    rw [hRR] at BZ hR ⊢
    clear hz HC hRR
    refine hK.out _ _ ?_ (fun hHeld => ?_)
    · exact KW.out _ HZ
    clear hK K
    (try simp only [Act.put, List.setIfInBounds_toArray, List.set_cons_zero, List.set_cons_succ])
    refine wpAnyH_ready (rs := [8]) (by kernel_rfl) (by simp) ?_
    refine AllReadyH.cons (o := { dst := some 42, op := Op.call { callee := Callee.value (Operand.func 17), args := #[Operand.tmp 41], argTypes := #[9] }, type := 3, pos := "l8_space.go:148", after := _, guard := none }) rfl (fun K hK => ?_) AllReadyH.nil
    go_simp
    refine (HLR.out wz (HB.out.trans (hHeld.1.mono HB.out.size))).mono ?_
    rintro e w7 ⟨rfl, b7⟩
    have H7 : Below w4.heap.size w4 w7 := hHeld.1.trans (b7.mono hHeld.1.size)
    (try replace BZ := BZ.below b7)
    clear b7
    (try dsimp only)
    refine hK.out _ _ ?_ (fun hHeld => ?_)
    · exact KW.out _ H7
    clear hK K
    (try simp only [Act.put, List.setIfInBounds_toArray, List.set_cons_zero, List.set_cons_succ])
    refine wpAnyH_take (i := 14) (oi := { dst := some 48, op := Op.build 26 #[(0, Operand.tmp 34), (1, Operand.tmp 38), (2, Operand.tmp 42), (3, Operand.tmp 46), (4, Operand.tmp 47)], type := 26, pos := "l8_space.go:148", after := _, guard := none }) (v := ?_) rfl (by kernel_rfl) (by kernel_rfl) (by kernel_rfl) (fun _ _ _ h => h) (Or.inl ⟨by rfl, ?_⟩) (by assumption) ?_
    rotate_left
    · (intro w hSw; (try dsimp only at hSw); go_simp; (try with_reducible rfl))
    simp only [Act.put, List.setIfInBounds_toArray, List.set_cons_zero, List.set_cons_succ]
    refine wpAnyH_ready (rs := [16]) (by kernel_rfl) (by simp) ?_
    refine AllReadyH.cons (o := { dst := none, op := Op.store 26 (Operand.tmp 11) (Operand.tmp 48), type := 0, pos := "l8_space.go:148", after := _, guard := none }) rfl (fun K hK => ?_) AllReadyH.nil
    obtain ⟨⟨t0, u0⟩, ⟨t1, u1⟩, ⟨t2, u2⟩, ⟨t3, u3⟩, t4, u4⟩ := show _ ∧ _ ∧ _ ∧ _ ∧ _ from ⟨BZ 0 _ rfl, BZ 1 _ rfl, BZ 2 _ rfl, BZ 3 _ rfl, BZ 4 _ rfl⟩
    have HC := hHeld.1
    go_simp
    refine hK.out _ _ ?_ (fun hHeld => ?_)
    · exact KW.out _ (((((HC.setCell hR _).setCell hR _).setCell hR _).setCell hR _).setCell hR _)
    clear hK K
    (try simp only [Act.put, List.setIfInBounds_toArray, List.set_cons_zero, List.set_cons_succ])
    refine wpAnyH_done (by kernel_rfl) ?_ _
    obtain ⟨w8, hW8⟩ : ∃ W, ((((w7.setCell ⟨R, 0, none⟩ (.string nm)).setCell ⟨R, 1, none⟩ (.string o)).setCell ⟨R, 2, none⟩ (.int .i64 lm)).setCell ⟨R, 3, none⟩ (.bool g2)).setCell ⟨R, 4, none⟩ (.int .i64 n3) = W := ⟨_, rfl⟩
    have BS := Lib.hid (show Box w8 R [.string nm, .string o, .int .i64 lm, .bool g2, .int .i64 n3] from by
      rw [← hW8]
      intro i v hv
      match i, hv with
      | 0, hv => cases hv; simp [go_sem, t0, u0]
      | 1, hv => cases hv; simp [go_sem, t1, u1]
      | 2, hv => cases hv; simp [go_sem, t2, u2]
      | 3, hv => cases hv; simp [go_sem, t3, u3]
      | 4, hv => cases hv; simp [go_sem, t4, u4]
      | n + 5, hv => simp at hv)
    have hb8 := hHeld.1
    rw [hW8] at hb8 ⊢
    clear hHeld hW8 HC t0 t1 t2 t3 t4 u0 u1 u2 u3 u4
    have HB8 := Lib.hid (HB.out.trans (hb8.mono HB.out.size))
    obtain ⟨⟨x0, p0⟩, ⟨x1, p1⟩, ⟨x2, p2⟩, ⟨x3, p3⟩, x4, p4⟩ := show _ ∧ _ ∧ _ ∧ _ ∧ _ from ⟨BS.out 0 _ rfl, BS.out 1 _ rfl, BS.out 2 _ rfl, BS.out 3 _ rfl, BS.out 4 _ rfl⟩
    clear hb8 p0 p1 p2 p3 p4
    go_wp2_with fail
    refine (implSpW_any nm o lm g2 n3 _ hkx hox (tab_below HT.out (HF.out _ HB8.out))).mono ?_
    rintro e w9 ⟨rfl, b9⟩
    rw [HY.out]
    have HB9 := Lib.hid (HB8.out.trans (b9.mono HB8.out.size))
    have BS9 := BS.out.below b9
    clear x0 x1 x2 x3 x4
    obtain ⟨⟨y0, f0⟩, ⟨y1, f1⟩, ⟨y2, f2⟩, ⟨y3, f3⟩, y4, f4⟩ := KS.out w9 HB9.out
    obtain ⟨⟨x0, p0⟩, ⟨x1, p1⟩, ⟨x2, p2⟩, ⟨x3, p3⟩, x4, p4⟩ := show _ ∧ _ ∧ _ ∧ _ ∧ _ from ⟨BS9 0 _ rfl, BS9 1 _ rfl, BS9 2 _ rfl, BS9 3 _ rfl, BS9 4 _ rfl⟩
    clear b9 BS9 p0 p1 p2 p3 p4
    by_cases e : Y = text
    · have HN := Lib.hid (show rdS key text = ((nm, o, lm, g2, n3), true) by rw [rdS_yes HL.out HP.out (HYY.out.trans e), HX.out])
      have q5 : (Y.toList == text.toList) = true := by rw [e]; simp
      clear e
      go_wp2
      exact bodyPost_ret (v := .tuple #[spVI (nm, o, lm, g2, n3), .bool true]) (by simp [results, Tryd.results5, go_sem, spVI, y0, y1, y2, y3, y4]) rfl ⟨by rw [HN.out], (((((HF.out _ HB9.out).setCell (Nat.le_refl _) _).setCell (Nat.le_refl _) _).setCell (Nat.le_refl _) _).setCell (Nat.le_refl _) _).setCell (Nat.le_refl _) _⟩
    have HN := Lib.hid (show rdS key text = (zeroSp, false) from rdS_no HL.out (fun h => e (HYY.out.symm.trans h)))
    have q5 : (Y.toList == text.toList) = false := by
      rw [beq_eq_false_iff_ne]
      exact fun e2 => e (tlW_inj e2)
    clear e
    go_wp2
    exact bodyPost_ret (v := .tuple #[spVI zeroSp, .bool false]) (by simp [results, Tryd.results5, go_sem, spVI, zeroSp, y0, y1, y2, y3, y4]) rfl ⟨by rw [HN.out], (((((HF.out _ HB9.out).setCell (Nat.le_refl _) _).setCell (Nat.le_refl _) _).setCell (Nat.le_refl _) _).setCell (Nat.le_refl _) _).setCell (Nat.le_refl _) _⟩
  refine AllReadyH.cons (o := { dst := some 11, op := Op.alloc 26, type := 0, pos := "l8_space.go:148", after := _, guard := none }) rfl (fun K hK => ?_) AllReadyH.nil
  have HC := hHeld.1
  have hR : w4.heap.size ≤ w5.heap.size := HC.size
  go_simp
  obtain ⟨wz, hz⟩ : ∃ W, World.alloc w5 (.cells #[.string ⟨#[]⟩, .string ⟨#[]⟩, .int .i64 0, .bool false, .int .i64 0] 26) = W := ⟨_, rfl⟩
  have BZ : Box wz w5.heap.size [.string ⟨#[]⟩, .string ⟨#[]⟩, .int .i64 0, .bool false, .int .i64 0] := by rw [← hz]; exact Box.alloc w5 _ _
  have HZ : Below w4.heap.size w4 wz := by rw [← hz]; exact HC.alloc HC.size _
  rw [hz]
  obtain ⟨R, hRR⟩ : ∃ R, w5.heap.size = R := ⟨_, rfl⟩
  rw [hRR] at BZ hR ⊢
  clear hz HC hRR
  refine hK.out _ _ ?_ (fun hHeld => ?_)
  · exact KW.out _ HZ
  clear hK K
  (try simp only [Act.put, List.setIfInBounds_toArray, List.set_cons_zero, List.set_cons_succ])
  refine wpAnyH_ready (rs := [4]) (by kernel_rfl) (by simp) ?_
  refine AllReadyH.cons (o := { dst := some 38, op := Op.call { callee := Callee.value (Operand.func 16), args := #[Operand.tmp 37], argTypes := #[9] }, type := 9, pos := "l8_space.go:148", after := _, guard := none }) rfl (fun K hK => ?_) AllReadyH.nil
  go_simp
  refine (HW.out wz).mono ?_
  rintro e w6 ⟨rfl, b6⟩
  have H6 : Below w4.heap.size w4 w6 := hHeld.1.trans (b6.mono hHeld.1.size)
  (try replace BZ := BZ.below b6)
  clear b6
  (try dsimp only)
  refine hK.out _ _ ?_ (fun hHeld => ?_)
  · exact KW.out _ H6
  clear hK K
  (try simp only [Act.put, List.setIfInBounds_toArray, List.set_cons_zero, List.set_cons_succ])
  refine wpAnyH_ready (rs := [8]) (by kernel_rfl) (by simp) ?_
  refine AllReadyH.cons (o := { dst := some 42, op := Op.call { callee := Callee.value (Operand.func 17), args := #[Operand.tmp 41], argTypes := #[9] }, type := 3, pos := "l8_space.go:148", after := _, guard := none }) rfl (fun K hK => ?_) AllReadyH.nil
  go_simp
  refine (HLR.out w6 (HB.out.trans (hHeld.1.mono HB.out.size))).mono ?_
  rintro e w7 ⟨rfl, b7⟩
  have H7 : Below w4.heap.size w4 w7 := hHeld.1.trans (b7.mono hHeld.1.size)
  (try replace BZ := BZ.below b7)
  clear b7
  (try dsimp only)
  refine hK.out _ _ ?_ (fun hHeld => ?_)
  · exact KW.out _ H7
  clear hK K
  (try simp only [Act.put, List.setIfInBounds_toArray, List.set_cons_zero, List.set_cons_succ])
  refine wpAnyH_take (i := 14) (oi := { dst := some 48, op := Op.build 26 #[(0, Operand.tmp 34), (1, Operand.tmp 38), (2, Operand.tmp 42), (3, Operand.tmp 46), (4, Operand.tmp 47)], type := 26, pos := "l8_space.go:148", after := _, guard := none }) (v := ?_) rfl (by kernel_rfl) (by kernel_rfl) (by kernel_rfl) (fun _ _ _ h => h) (Or.inl ⟨by rfl, ?_⟩) (by assumption) ?_
  rotate_left
  · (intro w hSw; (try dsimp only at hSw); go_simp; (try with_reducible rfl))
  simp only [Act.put, List.setIfInBounds_toArray, List.set_cons_zero, List.set_cons_succ]
  refine wpAnyH_ready (rs := [16]) (by kernel_rfl) (by simp) ?_
  refine AllReadyH.cons (o := { dst := none, op := Op.store 26 (Operand.tmp 11) (Operand.tmp 48), type := 0, pos := "l8_space.go:148", after := _, guard := none }) rfl (fun K hK => ?_) AllReadyH.nil
  obtain ⟨⟨t0, u0⟩, ⟨t1, u1⟩, ⟨t2, u2⟩, ⟨t3, u3⟩, t4, u4⟩ := show _ ∧ _ ∧ _ ∧ _ ∧ _ from ⟨BZ 0 _ rfl, BZ 1 _ rfl, BZ 2 _ rfl, BZ 3 _ rfl, BZ 4 _ rfl⟩
  have HC := hHeld.1
  go_simp
  refine hK.out _ _ ?_ (fun hHeld => ?_)
  · exact KW.out _ (((((HC.setCell hR _).setCell hR _).setCell hR _).setCell hR _).setCell hR _)
  clear hK K
  (try simp only [Act.put, List.setIfInBounds_toArray, List.set_cons_zero, List.set_cons_succ])
  refine wpAnyH_done (by kernel_rfl) ?_ _
  obtain ⟨w8, hW8⟩ : ∃ W, ((((w7.setCell ⟨R, 0, none⟩ (.string nm)).setCell ⟨R, 1, none⟩ (.string o)).setCell ⟨R, 2, none⟩ (.int .i64 lm)).setCell ⟨R, 3, none⟩ (.bool g2)).setCell ⟨R, 4, none⟩ (.int .i64 n3) = W := ⟨_, rfl⟩
  have BS := Lib.hid (show Box w8 R [.string nm, .string o, .int .i64 lm, .bool g2, .int .i64 n3] from by
    rw [← hW8]
    intro i v hv
    match i, hv with
    | 0, hv => cases hv; simp [go_sem, t0, u0]
    | 1, hv => cases hv; simp [go_sem, t1, u1]
    | 2, hv => cases hv; simp [go_sem, t2, u2]
    | 3, hv => cases hv; simp [go_sem, t3, u3]
    | 4, hv => cases hv; simp [go_sem, t4, u4]
    | n + 5, hv => simp at hv)
  have hb8 := hHeld.1
  rw [hW8] at hb8 ⊢
  clear hHeld hW8 HC t0 t1 t2 t3 t4 u0 u1 u2 u3 u4
  have HB8 := Lib.hid (HB.out.trans (hb8.mono HB.out.size))
  obtain ⟨⟨x0, p0⟩, ⟨x1, p1⟩, ⟨x2, p2⟩, ⟨x3, p3⟩, x4, p4⟩ := show _ ∧ _ ∧ _ ∧ _ ∧ _ from ⟨BS.out 0 _ rfl, BS.out 1 _ rfl, BS.out 2 _ rfl, BS.out 3 _ rfl, BS.out 4 _ rfl⟩
  clear hb8 p0 p1 p2 p3 p4
  go_wp2_with fail
  refine (implSpW_any nm o lm g2 n3 _ hkx hox (tab_below HT.out (HF.out _ HB8.out))).mono ?_
  rintro e w9 ⟨rfl, b9⟩
  rw [HY.out]
  have HB9 := Lib.hid (HB8.out.trans (b9.mono HB8.out.size))
  have BS9 := BS.out.below b9
  clear x0 x1 x2 x3 x4
  obtain ⟨⟨y0, f0⟩, ⟨y1, f1⟩, ⟨y2, f2⟩, ⟨y3, f3⟩, y4, f4⟩ := KS.out w9 HB9.out
  obtain ⟨⟨x0, p0⟩, ⟨x1, p1⟩, ⟨x2, p2⟩, ⟨x3, p3⟩, x4, p4⟩ := show _ ∧ _ ∧ _ ∧ _ ∧ _ from ⟨BS9 0 _ rfl, BS9 1 _ rfl, BS9 2 _ rfl, BS9 3 _ rfl, BS9 4 _ rfl⟩
  clear b9 BS9 p0 p1 p2 p3 p4
  by_cases e : Y = text
  · have HN := Lib.hid (show rdS key text = ((nm, o, lm, g2, n3), true) by rw [rdS_yes HL.out HP.out (HYY.out.trans e), HX.out])
    have q5 : (Y.toList == text.toList) = true := by rw [e]; simp
    clear e
    go_wp2
    exact bodyPost_ret (v := .tuple #[spVI (nm, o, lm, g2, n3), .bool true]) (by simp [results, Tryd.results5, go_sem, spVI, y0, y1, y2, y3, y4]) rfl ⟨by rw [HN.out], (((((HF.out _ HB9.out).setCell (Nat.le_refl _) _).setCell (Nat.le_refl _) _).setCell (Nat.le_refl _) _).setCell (Nat.le_refl _) _).setCell (Nat.le_refl _) _⟩
  have HN := Lib.hid (show rdS key text = (zeroSp, false) from rdS_no HL.out (fun h => e (HYY.out.symm.trans h)))
  have q5 : (Y.toList == text.toList) = false := by
    rw [beq_eq_false_iff_ne]
    exact fun e2 => e (tlW_inj e2)
  clear e
  go_wp2
  exact bodyPost_ret (v := .tuple #[spVI zeroSp, .bool false]) (by simp [results, Tryd.results5, go_sem, spVI, zeroSp, y0, y1, y2, y3, y4]) rfl ⟨by rw [HN.out], (((((HF.out _ HB9.out).setCell (Nat.le_refl _) _).setCell (Nat.le_refl _) _).setCell (Nat.le_refl _) _).setCell (Nat.le_refl _) _).setCell (Nat.le_refl _) _⟩
end Go.Proofs.YthbhgeifknkolaaDoor
