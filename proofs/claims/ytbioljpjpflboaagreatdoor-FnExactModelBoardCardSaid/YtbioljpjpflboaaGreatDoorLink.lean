import Derived.Test.YtbioljpjpflboaaGreatDoorLinkP
import Derived.Maps.AppendAt
/- Spaces linked: the program. -/
namespace Go.Proofs.YtbioljpjpflboaaGreatDoor
open Go Go.RowKit
attribute [local go_sem] run_geqS

theorem infoPtr : (Tryz.prog.info? 146).map (fun i => (i.zero, i.size, i.bytes)) = some (some (.pointer none), 1, 8) := by kernel_rfl

set_option maxRecDepth 100000 in
set_option maxHeartbeats 4000000 in
theorem spaceLink_any (a : Option Addr) (ca : Nat) (l : List SpaceD) (w : World) (hl : ElS 5 encSpace w a l) (hok : ∀ x ∈ l, OkSpace x) :
    Calls Tryz.prog 114 #[.slice a l.length ca] w (LinkPost w l) := by
  obtain ⟨i0, hi, hz0, hz1, hz2⟩ := info_parts infoPtr
  have hl1 := hl.1
  unfold maxLen at hl1
  by_cases h0 : l.length = 0 ∨ 7 < l.length
  · have HF := Lib.hid (sps_no h0)
    by_cases h7 : l.length = 0
    · have h7i : ((l.length : Int) == 0) = true := by rw [beq_iff_eq]; omega
      clear h0 h7
      go_enter Tryz.func114, Tryz.ntmps114
      go_wp2
      refine bodyPost_ret (v := .tuple #[.agg #[.slice none 0 0], .bool false]) (by simp [results, Tryz.results114, go_sem]) rfl (.inl ⟨HF.out, rfl, ?_⟩)
      repeat (first | exact Below.refl _ _ | (refine Below.alloc ?_ (by first | omega | (simp; done) | (simp; omega)) _) | (refine Below.setCell ?_ (by first | exact Nat.le_refl _ | (simp; done) | (simp; omega)) _))
    · have h7i : ((l.length : Int) == 0) = false := by rw [beq_eq_false_iff_ne]; omega
      have h7j : (7 : Int) < (l.length : Int) := by omega
      clear h0 h7
      go_enter Tryz.func114, Tryz.ntmps114
      go_wp2
      refine bodyPost_ret (v := .tuple #[.agg #[.slice none 0 0], .bool false]) (by simp [results, Tryz.results114, go_sem]) rfl (.inl ⟨HF.out, rfl, ?_⟩)
      repeat (first | exact Below.refl _ _ | (refine Below.alloc ?_ (by first | omega | (simp; done) | (simp; omega)) _) | (refine Below.setCell ?_ (by first | exact Nat.le_refl _ | (simp; done) | (simp; omega)) _))
  · have h1 : 1 ≤ l.length := by omega
    have h7 : l.length ≤ 7 := by omega
    have h7i : ((l.length : Int) == 0) = false := by rw [beq_eq_false_iff_ne]; omega
    have h7j : ¬ (7 : Int) < (l.length : Int) := by omega
    have HX := Lib.hid hl
    have HK := Lib.hid hok
    clear h0 hl hok
    obtain ⟨b, ob, rfl, hcell⟩ := HX.out.2.resolve_left (fun e => by rw [e] at h1; simp at h1)
    have HC5 := Lib.hid hcell
    clear hcell
    go_enter Tryz.func114, Tryz.ntmps114
    go_wp2
    go_loopw [22] (fun s wr => ∃ (k : Nat) (v : Value) (nbl : List Nat), k ≤ l.length ∧ s = .int .i64 k ∧ upto (ascP l) k = true ∧ Lk1 w wr l v nbl k (fun _ => none)) (fun s _ => l.length - (intOf s).toNat)
    case atStart => exact ⟨0, .slice none 0 0, [], Nat.zero_le _, rfl, rfl, rfl, own_nil _ _ _, by simp, fun i h => absurd h (Nat.not_lt_zero _), List.nodup_nil, by simpa using Box.alloc (w.alloc (.cells #[.slice none 0 0] 142)) #[.slice none 0 0] 142, (Box.alloc w #[.slice none 0 0] 142).below (below_alloc _ _), (by repeat (first | exact Below.refl _ _ | (refine Below.alloc ?_ (by first | (simp; done) | (simp; omega)) _) | (refine Below.setCell ?_ (by first | (simp; done) | (simp; omega)) _) | (refine Below.drew ?_)))⟩
    case round =>
      obtain ⟨k, v, nbl, hk, rfl, hto, hL⟩ := hrel
      have HT := Lib.hid hto
      have HL := Lib.hid hL
      have HB := Lib.hid hL.bel
      obtain ⟨va, vc, rfl⟩ := own_shpU hL.own
      clear hto hL
      by_cases hlt : k < l.length
      · obtain ⟨c0, c1, c2, c3, c4⟩ := cellsSpace HB.out HC5.out k hlt
        have hk0 : (0 : Int) ≤ (k : Int) := by omega
        have hk1 : (k : Int) < (l.length : Int) := by omega
        have hbz := HB.out.size
        have B0 : Below w.heap.size w (wr.alloc (.cells #[.string l[k].1, .string l[k].2.1, .int .i64 l[k].2.2.1, .bool l[k].2.2.2.1, .int .i64 l[k].2.2.2.2] 51)) := HB.out.alloc hbz _
        have BX := Lib.hid (Box.alloc wr #[.string l[k].1, .string l[k].2.1, .int .i64 l[k].2.2.1, .bool l[k].2.2.2.1, .int .i64 l[k].2.2.2.2] 51)
        have HZ := Lib.hid (HK.out l[k] (List.getElem_mem _))
        obtain ⟨q, hq⟩ : ∃ q, spOk l[k] = q := ⟨_, rfl⟩
        have HQ := Lib.hid (show spOk (l[k].1, l[k].2.1, l[k].2.2.1, l[k].2.2.2.1, l[k].2.2.2.2) = q from hq)
        clear hq
        cases q with
        | false =>
          have HF := Lib.hid (show spsOk l = false by rw [spsOk_def, upto_no hlt (show ascP l k = false by unfold ascP; rw [getD_sp hlt, show spOk l[k] = false from HQ.out]; rfl)]; rfl)
          have KH := Lib.hid (show ∀ w' : World, Below (wr.alloc (.cells #[.string l[k].1, .string l[k].2.1, .int .i64 l[k].2.2.1, .bool l[k].2.2.2.1, .int .i64 l[k].2.2.2.2] 51)).heap.size (wr.alloc (.cells #[.string l[k].1, .string l[k].2.1, .int .i64 l[k].2.2.1, .bool l[k].2.2.2.1, .int .i64 l[k].2.2.2.2] 51)) w' → w'.cell? ⟨wr.heap.size, 0, none⟩ = some (.string l[k].1) ∧ w'.cell? ⟨wr.heap.size, 1, none⟩ = some (.string l[k].2.1) ∧ w'.cell? ⟨wr.heap.size, 2, none⟩ = some (.int .i64 l[k].2.2.1) ∧ w'.cell? ⟨wr.heap.size, 3, none⟩ = some (.bool l[k].2.2.2.1) ∧ w'.cell? ⟨wr.heap.size, 4, none⟩ = some (.int .i64 l[k].2.2.2.2) ∧ Below w.heap.size w w' from
            fun w' hb => ⟨(BX.out.below hb 0 _ rfl).1, (BX.out.below hb 1 _ rfl).1, (BX.out.below hb 2 _ rfl).1, (BX.out.below hb 3 _ rfl).1, (BX.out.below hb 4 _ rfl).1, B0.trans (hb.mono B0.size)⟩)
          go_wp2_with fail
          refine wp_region_held_drew (S := fun w' => w'.cell? ⟨wr.heap.size, 0, none⟩ = some (.string l[k].1) ∧ w'.cell? ⟨wr.heap.size, 1, none⟩ = some (.string l[k].2.1) ∧ w'.cell? ⟨wr.heap.size, 2, none⟩ = some (.int .i64 l[k].2.2.1) ∧ w'.cell? ⟨wr.heap.size, 3, none⟩ = some (.bool l[k].2.2.2.1) ∧ w'.cell? ⟨wr.heap.size, 4, none⟩ = some (.int .i64 l[k].2.2.2.2) ∧ Below w.heap.size w w') (by kernel_rfl) (KH.out _ (Below.refl _ _).drew) (fun hHeld => ?_)
          refine wpAnyH_take (i := 0) (oi := { dst := some 27, op := Op.load 51 (Operand.tmp 6), type := 51, pos := "l8_space.go:183", after := _, guard := none }) (v := ?_) rfl (by kernel_rfl) (by kernel_rfl) (by kernel_rfl) (fun _ _ _ h => h) (Or.inl ⟨by rfl, ?_⟩) (by assumption) ?_
          rotate_left
          · (intro w hSw; (try dsimp only at hSw); go_simp; (try with_reducible rfl))
          simp only [Act.put, List.setIfInBounds_toArray, List.set_cons_zero, List.set_cons_succ]
          refine wpAnyH_ready (rs := [1]) (by kernel_rfl) (by simp) ?_
          refine AllReadyH.cons (o := { dst := some 28, op := Op.call { callee := Callee.value (Operand.func 74), args := #[Operand.tmp 27], argTypes := #[51] }, type := 4, pos := "l8_space.go:183", after := _, guard := none }) rfl (fun K hK => ?_) AllReadyH.nil
          go_simp
          refine (spaceOk_any l[k].1 l[k].2.1 l[k].2.2.1 l[k].2.2.2.1 l[k].2.2.2.2 _ HZ.out.1 HZ.out.2).mono ?_
          rintro e w2 ⟨rfl, b2⟩
          rw [HQ.out]
          have C1 : Below (wr.alloc (.cells #[.string l[k].1, .string l[k].2.1, .int .i64 l[k].2.2.1, .bool l[k].2.2.2.1, .int .i64 l[k].2.2.2.2] 51)).heap.size (wr.alloc (.cells #[.string l[k].1, .string l[k].2.1, .int .i64 l[k].2.2.1, .bool l[k].2.2.2.1, .int .i64 l[k].2.2.2.2] 51)) w2 := (Below.refl _ _).drew.trans b2
          go_wp2_with fail
          refine hK.out _ _ ?_ (fun hHeld => ?_)
          · exact KH.out _ C1
          clear hK K
          (try simp only [Act.put, List.setIfInBounds_toArray, List.set_cons_zero, List.set_cons_succ])
          refine wpAnyH_take (i := 2) (oi := { dst := some 29, op := Op.unOp UnOp.not 4 (Operand.tmp 28), type := 4, pos := "l8_space.go:183", after := _, guard := none }) (v := ?_) rfl (by kernel_rfl) (by kernel_rfl) (by kernel_rfl) (fun _ _ _ h => h) (Or.inl ⟨by rfl, ?_⟩) (by assumption) ?_
          rotate_left
          · (intro w hSw; (try dsimp only at hSw); go_simp; (try with_reducible rfl))
          simp only [Act.put, List.setIfInBounds_toArray, List.set_cons_zero, List.set_cons_succ]
          refine wpAnyH_take (i := 3) (oi := { dst := some 30, op := Op.move (Operand.tmp 29), type := 4, pos := "l8_space.go:183", after := _, guard := none }) (v := ?_) rfl (by kernel_rfl) (by kernel_rfl) (by kernel_rfl) (fun _ _ _ h => h) (Or.inl ⟨by rfl, ?_⟩) (by assumption) ?_
          rotate_left
          · (intro w hSw; (try dsimp only at hSw); go_simp; (try with_reducible rfl))
          simp only [Act.put, List.setIfInBounds_toArray, List.set_cons_zero, List.set_cons_succ]
          refine wpAnyH_take (i := 4) (oi := { dst := some 31, op := Op.move (Operand.tmp 5), type := 3, pos := "l8_space.go:183", after := _, guard := some (3, false) }) (v := undef) rfl (by kernel_rfl) (by kernel_rfl) (by kernel_rfl) (fun _ _ _ h => h) (Or.inr ⟨by rfl, rfl⟩) (by assumption) ?_
          simp only [Act.put, List.setIfInBounds_toArray, List.set_cons_zero, List.set_cons_succ]
          refine wpAnyH_take (i := 5) (oi := { dst := some 32, op := Op.binOp BinOp.gtr 3 (Operand.tmp 31) (Operand.const (Value.int IntKind.i64 0)) 3, type := 4, pos := "l8_space.go:183", after := _, guard := some (3, false) }) (v := undef) rfl (by kernel_rfl) (by kernel_rfl) (by kernel_rfl) (fun _ _ _ h => h) (Or.inr ⟨by rfl, rfl⟩) (by assumption) ?_
          simp only [Act.put, List.setIfInBounds_toArray, List.set_cons_zero, List.set_cons_succ]
          refine wpAnyH_take (i := 6) (oi := { dst := some 33, op := Op.move (Operand.tmp 32), type := 4, pos := "l8_space.go:183", after := _, guard := some (3, false) }) (v := undef) rfl (by kernel_rfl) (by kernel_rfl) (by kernel_rfl) (fun _ _ _ h => h) (Or.inr ⟨by rfl, rfl⟩) (by assumption) ?_
          simp only [Act.put, List.setIfInBounds_toArray, List.set_cons_zero, List.set_cons_succ]
          refine wpAnyH_take (i := 7) (oi := { dst := some 34, op := Op.move (Operand.tmp 0), type := 30, pos := "l8_space.go:183", after := _, guard := some (6, true) }) (v := undef) rfl (by kernel_rfl) (by kernel_rfl) (by kernel_rfl) (fun _ _ _ h => h) (Or.inr ⟨by rfl, rfl⟩) (by assumption) ?_
          simp only [Act.put, List.setIfInBounds_toArray, List.set_cons_zero, List.set_cons_succ]
          refine wpAnyH_take (i := 8) (oi := { dst := some 35, op := Op.move (Operand.tmp 5), type := 3, pos := "l8_space.go:183", after := _, guard := some (6, true) }) (v := undef) rfl (by kernel_rfl) (by kernel_rfl) (by kernel_rfl) (fun _ _ _ h => h) (Or.inr ⟨by rfl, rfl⟩) (by assumption) ?_
          simp only [Act.put, List.setIfInBounds_toArray, List.set_cons_zero, List.set_cons_succ]
          refine wpAnyH_take (i := 9) (oi := { dst := some 36, op := Op.binOp BinOp.sub 3 (Operand.tmp 35) (Operand.const (Value.int IntKind.i64 1)) 3, type := 3, pos := "l8_space.go:183", after := _, guard := some (6, true) }) (v := undef) rfl (by kernel_rfl) (by kernel_rfl) (by kernel_rfl) (fun _ _ _ h => h) (Or.inr ⟨by rfl, rfl⟩) (by assumption) ?_
          simp only [Act.put, List.setIfInBounds_toArray, List.set_cons_zero, List.set_cons_succ]
          refine wpAnyH_take (i := 10) (oi := { dst := some 37, op := Op.indexAddr 30 (Operand.tmp 34) (Operand.tmp 36), type := 0, pos := "l8_space.go:183", after := _, guard := some (6, true) }) (v := undef) rfl (by kernel_rfl) (by kernel_rfl) (by kernel_rfl) (fun _ _ _ h => h) (Or.inr ⟨by rfl, rfl⟩) (by assumption) ?_
          simp only [Act.put, List.setIfInBounds_toArray, List.set_cons_zero, List.set_cons_succ]
          refine wpAnyH_take (i := 11) (oi := { dst := some 38, op := Op.fieldAddr 51 (Operand.tmp 37) 0, type := 0, pos := "l8_space.go:183", after := _, guard := some (6, true) }) (v := undef) rfl (by kernel_rfl) (by kernel_rfl) (by kernel_rfl) (fun _ _ _ h => h) (Or.inr ⟨by rfl, rfl⟩) (by assumption) ?_
          simp only [Act.put, List.setIfInBounds_toArray, List.set_cons_zero, List.set_cons_succ]
          refine wpAnyH_take (i := 12) (oi := { dst := some 39, op := Op.load 9 (Operand.tmp 38), type := 9, pos := "l8_space.go:183", after := _, guard := some (6, true) }) (v := undef) rfl (by kernel_rfl) (by kernel_rfl) (by kernel_rfl) (fun _ _ _ h => h) (Or.inr ⟨by rfl, rfl⟩) (by assumption) ?_
          simp only [Act.put, List.setIfInBounds_toArray, List.set_cons_zero, List.set_cons_succ]
          refine wpAnyH_take (i := 13) (oi := { dst := some 40, op := Op.fieldAddr 51 (Operand.tmp 6) 0, type := 0, pos := "l8_space.go:183", after := _, guard := some (6, true) }) (v := undef) rfl (by kernel_rfl) (by kernel_rfl) (by kernel_rfl) (fun _ _ _ h => h) (Or.inr ⟨by rfl, rfl⟩) (by assumption) ?_
          simp only [Act.put, List.setIfInBounds_toArray, List.set_cons_zero, List.set_cons_succ]
          refine wpAnyH_take (i := 14) (oi := { dst := some 41, op := Op.load 9 (Operand.tmp 40), type := 9, pos := "l8_space.go:183", after := _, guard := some (6, true) }) (v := undef) rfl (by kernel_rfl) (by kernel_rfl) (by kernel_rfl) (fun _ _ _ h => h) (Or.inr ⟨by rfl, rfl⟩) (by assumption) ?_
          simp only [Act.put, List.setIfInBounds_toArray, List.set_cons_zero, List.set_cons_succ]
          refine wpAnyH_take (i := 15) (oi := { dst := some 42, op := Op.binOp BinOp.geq 9 (Operand.tmp 39) (Operand.tmp 41) 9, type := 4, pos := "l8_space.go:183", after := _, guard := some (6, true) }) (v := undef) rfl (by kernel_rfl) (by kernel_rfl) (by kernel_rfl) (fun _ _ _ h => h) (Or.inr ⟨by rfl, rfl⟩) (by assumption) ?_
          simp only [Act.put, List.setIfInBounds_toArray, List.set_cons_zero, List.set_cons_succ]
          refine wpAnyH_take (i := 16) (oi := { dst := some 43, op := Op.pick (Operand.tmp 33) (Operand.tmp 42) (Operand.const (Value.bool false)), type := 4, pos := "l8_space.go:183", after := _, guard := some (3, false) }) (v := undef) rfl (by kernel_rfl) (by kernel_rfl) (by kernel_rfl) (fun _ _ _ h => h) (Or.inr ⟨by rfl, rfl⟩) (by assumption) ?_
          simp only [Act.put, List.setIfInBounds_toArray, List.set_cons_zero, List.set_cons_succ]
          refine wpAnyH_take (i := 17) (oi := { dst := some 44, op := Op.pick (Operand.tmp 30) (Operand.const (Value.bool true)) (Operand.tmp 43), type := 4, pos := "l8_space.go:183", after := _, guard := none }) (v := ?_) rfl (by kernel_rfl) (by kernel_rfl) (by kernel_rfl) (fun _ _ _ h => h) (Or.inl ⟨by rfl, ?_⟩) (by assumption) ?_
          rotate_left
          · (intro w hSw; (try dsimp only at hSw); go_simp; (try with_reducible rfl))
          simp only [Act.put, List.setIfInBounds_toArray, List.set_cons_zero, List.set_cons_succ]
          refine wpAnyH_done (by kernel_rfl) ?_ _
          have rb : Box w2 w.heap.size [.slice none 0 0] := (HL.out.res.below (below_alloc wr _)).below C1
          have rcell := (rb 0 _ rfl).1
          have rfz := (rb 0 _ rfl).2
          go_wp2
          refine bodyPost_ret (v := .tuple #[.agg #[.slice none 0 0], .bool false]) (by simp [results, Tryz.results114, go_sem, rcell]) rfl (.inl ⟨HF.out, rfl, ?_⟩)
          exact Below.setCell (p := ⟨w.heap.size, 0, none⟩) (B0.trans (C1.mono B0.size)) (Nat.le_refl _) _
        | true =>
          by_cases h0 : k = 0
          · have h0i : decide (0 < k) = false := decide_eq_false (by omega)
            have HS := Lib.hid (show upto (ascP l) (k + 1) = true by rw [upto_succ, HT.out]; unfold ascP; rw [getD_sp hlt, show spOk l[k] = true from HQ.out, decide_eq_true h0]; rfl)
            clear h0
            have KH := Lib.hid (show ∀ w' : World, Below (wr.alloc (.cells #[.string l[k].1, .string l[k].2.1, .int .i64 l[k].2.2.1, .bool l[k].2.2.2.1, .int .i64 l[k].2.2.2.2] 51)).heap.size (wr.alloc (.cells #[.string l[k].1, .string l[k].2.1, .int .i64 l[k].2.2.1, .bool l[k].2.2.2.1, .int .i64 l[k].2.2.2.2] 51)) w' → w'.cell? ⟨wr.heap.size, 0, none⟩ = some (.string l[k].1) ∧ w'.cell? ⟨wr.heap.size, 1, none⟩ = some (.string l[k].2.1) ∧ w'.cell? ⟨wr.heap.size, 2, none⟩ = some (.int .i64 l[k].2.2.1) ∧ w'.cell? ⟨wr.heap.size, 3, none⟩ = some (.bool l[k].2.2.2.1) ∧ w'.cell? ⟨wr.heap.size, 4, none⟩ = some (.int .i64 l[k].2.2.2.2) ∧ Below w.heap.size w w' from
              fun w' hb => ⟨(BX.out.below hb 0 _ rfl).1, (BX.out.below hb 1 _ rfl).1, (BX.out.below hb 2 _ rfl).1, (BX.out.below hb 3 _ rfl).1, (BX.out.below hb 4 _ rfl).1, B0.trans (hb.mono B0.size)⟩)
            go_wp2_with fail
            refine wp_region_held_drew (S := fun w' => w'.cell? ⟨wr.heap.size, 0, none⟩ = some (.string l[k].1) ∧ w'.cell? ⟨wr.heap.size, 1, none⟩ = some (.string l[k].2.1) ∧ w'.cell? ⟨wr.heap.size, 2, none⟩ = some (.int .i64 l[k].2.2.1) ∧ w'.cell? ⟨wr.heap.size, 3, none⟩ = some (.bool l[k].2.2.2.1) ∧ w'.cell? ⟨wr.heap.size, 4, none⟩ = some (.int .i64 l[k].2.2.2.2) ∧ Below w.heap.size w w') (by kernel_rfl) (KH.out _ (Below.refl _ _).drew) (fun hHeld => ?_)
            refine wpAnyH_take (i := 0) (oi := { dst := some 27, op := Op.load 51 (Operand.tmp 6), type := 51, pos := "l8_space.go:183", after := _, guard := none }) (v := ?_) rfl (by kernel_rfl) (by kernel_rfl) (by kernel_rfl) (fun _ _ _ h => h) (Or.inl ⟨by rfl, ?_⟩) (by assumption) ?_
            rotate_left
            · (intro w hSw; (try dsimp only at hSw); go_simp; (try with_reducible rfl))
            simp only [Act.put, List.setIfInBounds_toArray, List.set_cons_zero, List.set_cons_succ]
            refine wpAnyH_ready (rs := [1]) (by kernel_rfl) (by simp) ?_
            refine AllReadyH.cons (o := { dst := some 28, op := Op.call { callee := Callee.value (Operand.func 74), args := #[Operand.tmp 27], argTypes := #[51] }, type := 4, pos := "l8_space.go:183", after := _, guard := none }) rfl (fun K hK => ?_) AllReadyH.nil
            go_simp
            refine (spaceOk_any l[k].1 l[k].2.1 l[k].2.2.1 l[k].2.2.2.1 l[k].2.2.2.2 _ HZ.out.1 HZ.out.2).mono ?_
            rintro e w2 ⟨rfl, b2⟩
            rw [HQ.out]
            have C1 : Below (wr.alloc (.cells #[.string l[k].1, .string l[k].2.1, .int .i64 l[k].2.2.1, .bool l[k].2.2.2.1, .int .i64 l[k].2.2.2.2] 51)).heap.size (wr.alloc (.cells #[.string l[k].1, .string l[k].2.1, .int .i64 l[k].2.2.1, .bool l[k].2.2.2.1, .int .i64 l[k].2.2.2.2] 51)) w2 := (Below.refl _ _).drew.trans b2
            go_wp2_with fail
            refine hK.out _ _ ?_ (fun hHeld => ?_)
            · exact KH.out _ C1
            clear hK K
            (try simp only [Act.put, List.setIfInBounds_toArray, List.set_cons_zero, List.set_cons_succ])
            refine wpAnyH_take (i := 2) (oi := { dst := some 29, op := Op.unOp UnOp.not 4 (Operand.tmp 28), type := 4, pos := "l8_space.go:183", after := _, guard := none }) (v := ?_) rfl (by kernel_rfl) (by kernel_rfl) (by kernel_rfl) (fun _ _ _ h => h) (Or.inl ⟨by rfl, ?_⟩) (by assumption) ?_
            rotate_left
            · (intro w hSw; (try dsimp only at hSw); go_simp; (try with_reducible rfl))
            simp only [Act.put, List.setIfInBounds_toArray, List.set_cons_zero, List.set_cons_succ]
            refine wpAnyH_take (i := 3) (oi := { dst := some 30, op := Op.move (Operand.tmp 29), type := 4, pos := "l8_space.go:183", after := _, guard := none }) (v := ?_) rfl (by kernel_rfl) (by kernel_rfl) (by kernel_rfl) (fun _ _ _ h => h) (Or.inl ⟨by rfl, ?_⟩) (by assumption) ?_
            rotate_left
            · (intro w hSw; (try dsimp only at hSw); go_simp; (try with_reducible rfl))
            simp only [Act.put, List.setIfInBounds_toArray, List.set_cons_zero, List.set_cons_succ]
            refine wpAnyH_take (i := 4) (oi := { dst := some 31, op := Op.move (Operand.tmp 5), type := 3, pos := "l8_space.go:183", after := _, guard := some (3, false) }) (v := ?_) rfl (by kernel_rfl) (by kernel_rfl) (by kernel_rfl) (fun _ _ _ h => h) (Or.inl ⟨by rfl, ?_⟩) (by assumption) ?_
            rotate_left
            · (intro w hSw; (try dsimp only at hSw); go_simp; (try with_reducible rfl))
            simp only [Act.put, List.setIfInBounds_toArray, List.set_cons_zero, List.set_cons_succ]
            refine wpAnyH_take (i := 5) (oi := { dst := some 32, op := Op.binOp BinOp.gtr 3 (Operand.tmp 31) (Operand.const (Value.int IntKind.i64 0)) 3, type := 4, pos := "l8_space.go:183", after := _, guard := some (3, false) }) (v := ?_) rfl (by kernel_rfl) (by kernel_rfl) (by kernel_rfl) (fun _ _ _ h => h) (Or.inl ⟨by rfl, ?_⟩) (by assumption) ?_
            rotate_left
            · (intro w hSw; (try dsimp only at hSw); go_simp; (try with_reducible rfl))
            simp only [Act.put, List.setIfInBounds_toArray, List.set_cons_zero, List.set_cons_succ]
            (try simp only [h0i])
            refine wpAnyH_take (i := 6) (oi := { dst := some 33, op := Op.move (Operand.tmp 32), type := 4, pos := "l8_space.go:183", after := _, guard := some (3, false) }) (v := ?_) rfl (by kernel_rfl) (by kernel_rfl) (by kernel_rfl) (fun _ _ _ h => h) (Or.inl ⟨by rfl, ?_⟩) (by assumption) ?_
            rotate_left
            · (intro w hSw; (try dsimp only at hSw); go_simp; (try with_reducible rfl))
            simp only [Act.put, List.setIfInBounds_toArray, List.set_cons_zero, List.set_cons_succ]
            refine wpAnyH_take (i := 7) (oi := { dst := some 34, op := Op.move (Operand.tmp 0), type := 30, pos := "l8_space.go:183", after := _, guard := some (6, true) }) (v := undef) rfl (by kernel_rfl) (by kernel_rfl) (by kernel_rfl) (fun _ _ _ h => h) (Or.inr ⟨by rfl, rfl⟩) (by assumption) ?_
            simp only [Act.put, List.setIfInBounds_toArray, List.set_cons_zero, List.set_cons_succ]
            refine wpAnyH_take (i := 8) (oi := { dst := some 35, op := Op.move (Operand.tmp 5), type := 3, pos := "l8_space.go:183", after := _, guard := some (6, true) }) (v := undef) rfl (by kernel_rfl) (by kernel_rfl) (by kernel_rfl) (fun _ _ _ h => h) (Or.inr ⟨by rfl, rfl⟩) (by assumption) ?_
            simp only [Act.put, List.setIfInBounds_toArray, List.set_cons_zero, List.set_cons_succ]
            refine wpAnyH_take (i := 9) (oi := { dst := some 36, op := Op.binOp BinOp.sub 3 (Operand.tmp 35) (Operand.const (Value.int IntKind.i64 1)) 3, type := 3, pos := "l8_space.go:183", after := _, guard := some (6, true) }) (v := undef) rfl (by kernel_rfl) (by kernel_rfl) (by kernel_rfl) (fun _ _ _ h => h) (Or.inr ⟨by rfl, rfl⟩) (by assumption) ?_
            simp only [Act.put, List.setIfInBounds_toArray, List.set_cons_zero, List.set_cons_succ]
            refine wpAnyH_take (i := 10) (oi := { dst := some 37, op := Op.indexAddr 30 (Operand.tmp 34) (Operand.tmp 36), type := 0, pos := "l8_space.go:183", after := _, guard := some (6, true) }) (v := undef) rfl (by kernel_rfl) (by kernel_rfl) (by kernel_rfl) (fun _ _ _ h => h) (Or.inr ⟨by rfl, rfl⟩) (by assumption) ?_
            simp only [Act.put, List.setIfInBounds_toArray, List.set_cons_zero, List.set_cons_succ]
            refine wpAnyH_take (i := 11) (oi := { dst := some 38, op := Op.fieldAddr 51 (Operand.tmp 37) 0, type := 0, pos := "l8_space.go:183", after := _, guard := some (6, true) }) (v := undef) rfl (by kernel_rfl) (by kernel_rfl) (by kernel_rfl) (fun _ _ _ h => h) (Or.inr ⟨by rfl, rfl⟩) (by assumption) ?_
            simp only [Act.put, List.setIfInBounds_toArray, List.set_cons_zero, List.set_cons_succ]
            refine wpAnyH_take (i := 12) (oi := { dst := some 39, op := Op.load 9 (Operand.tmp 38), type := 9, pos := "l8_space.go:183", after := _, guard := some (6, true) }) (v := undef) rfl (by kernel_rfl) (by kernel_rfl) (by kernel_rfl) (fun _ _ _ h => h) (Or.inr ⟨by rfl, rfl⟩) (by assumption) ?_
            simp only [Act.put, List.setIfInBounds_toArray, List.set_cons_zero, List.set_cons_succ]
            refine wpAnyH_take (i := 13) (oi := { dst := some 40, op := Op.fieldAddr 51 (Operand.tmp 6) 0, type := 0, pos := "l8_space.go:183", after := _, guard := some (6, true) }) (v := undef) rfl (by kernel_rfl) (by kernel_rfl) (by kernel_rfl) (fun _ _ _ h => h) (Or.inr ⟨by rfl, rfl⟩) (by assumption) ?_
            simp only [Act.put, List.setIfInBounds_toArray, List.set_cons_zero, List.set_cons_succ]
            refine wpAnyH_take (i := 14) (oi := { dst := some 41, op := Op.load 9 (Operand.tmp 40), type := 9, pos := "l8_space.go:183", after := _, guard := some (6, true) }) (v := undef) rfl (by kernel_rfl) (by kernel_rfl) (by kernel_rfl) (fun _ _ _ h => h) (Or.inr ⟨by rfl, rfl⟩) (by assumption) ?_
            simp only [Act.put, List.setIfInBounds_toArray, List.set_cons_zero, List.set_cons_succ]
            refine wpAnyH_take (i := 15) (oi := { dst := some 42, op := Op.binOp BinOp.geq 9 (Operand.tmp 39) (Operand.tmp 41) 9, type := 4, pos := "l8_space.go:183", after := _, guard := some (6, true) }) (v := undef) rfl (by kernel_rfl) (by kernel_rfl) (by kernel_rfl) (fun _ _ _ h => h) (Or.inr ⟨by rfl, rfl⟩) (by assumption) ?_
            simp only [Act.put, List.setIfInBounds_toArray, List.set_cons_zero, List.set_cons_succ]
            refine wpAnyH_take (i := 16) (oi := { dst := some 43, op := Op.pick (Operand.tmp 33) (Operand.tmp 42) (Operand.const (Value.bool false)), type := 4, pos := "l8_space.go:183", after := _, guard := some (3, false) }) (v := ?_) rfl (by kernel_rfl) (by kernel_rfl) (by kernel_rfl) (fun _ _ _ h => h) (Or.inl ⟨by rfl, ?_⟩) (by assumption) ?_
            rotate_left
            · (intro w hSw; (try dsimp only at hSw); go_simp; (try with_reducible rfl))
            simp only [Act.put, List.setIfInBounds_toArray, List.set_cons_zero, List.set_cons_succ]
            refine wpAnyH_take (i := 17) (oi := { dst := some 44, op := Op.pick (Operand.tmp 30) (Operand.const (Value.bool true)) (Operand.tmp 43), type := 4, pos := "l8_space.go:183", after := _, guard := none }) (v := ?_) rfl (by kernel_rfl) (by kernel_rfl) (by kernel_rfl) (fun _ _ _ h => h) (Or.inl ⟨by rfl, ?_⟩) (by assumption) ?_
            rotate_left
            · (intro w hSw; (try dsimp only at hSw); go_simp; (try with_reducible rfl))
            simp only [Act.put, List.setIfInBounds_toArray, List.set_cons_zero, List.set_cons_succ]
            refine wpAnyH_done (by kernel_rfl) ?_ _
            have W2 : Below wr.heap.size wr w2 := (below_alloc wr _).trans (C1.mono (by simp))
            have C0 : Below w.heap.size w w2 := B0.trans (C1.mono B0.size)
            have tb := HL.out.tree.below W2
            have tc := (tb 0 _ rfl).1
            have tf := (tb 0 _ rfl).2
            have sb := BX.out.below C1
            have sc0 := (sb 0 _ rfl).1
            have sc1 := (sb 1 _ rfl).1
            have sc2 := (sb 2 _ rfl).1
            have sc3 := (sb 3 _ rfl).1
            have sc4 := (sb 4 _ rfl).1
            have O2 := Lib.hid (own_below HL.out.own W2)
            have hsz2 := W2.size
            have hb2 := HL.out.base
            have hkl := hk
            have HV := Lib.hid (show ∀ b, (Value.slice va k vc).ownBlock = some b → w.heap.size + 2 ≤ b ∧ b < wr.heap.size from fun b hb => HL.out.own.lt b hb)
            have HN2 := Lib.hid (nodV_at hlt none)
            clear sb tb
            go_wp2_with (at_builtin; refine wpList_append_own_at _ rfl _ _ 140 rfl (w.heap.size + 2) 146 i0 (.pointer none) 1 8 Tryz.underlying140 hi hz0 hz1 hz2 rfl (by decide) (.slice va k vc) k _ rfl ((O2.out.alloc _).alloc _) ⟨w2.heap.size + 1, 0, none⟩ 1 1 [.pointer (some ⟨w2.heap.size, 0, none⟩)] rfl rfl (fun j u hj => by have := cells_oneU (w2.alloc (.cells #[.string l[k].1, .string l[k].2.1, .int .i64 l[k].2.2.1, .bool l[k].2.2.2.1, .int .i64 l[k].2.2.2.2, .int .i64 (k : Int), .pointer none] 172)) (.pointer (some ⟨w2.heap.size, 0, none⟩)) 146 j u hj; rw [World.size_alloc] at this; exact this) (fun u hu => by simp at hu; subst hu; rfl) (by unfold maxLen; omega) (by omega) (by simp; omega) ?_; intro v3 w3 o3 g3 _ hob; obtain ⟨va3, vc3, rfl⟩ := own_shpU o3; have tb3 : Box w3 (w.heap.size + 1) [.slice va k vc] := (((HL.out.tree.below W2).below (below_alloc _ _)).below (below_alloc _ _)).kept (kept_of_grown g3) (fun e => by have := (HV.out _ e).1; omega); have tc3 := (tb3 0 _ rfl).1; have tf3 := (tb3 0 _ rfl).2)
            have hob2 : (Value.slice va3 (k + 1) vc3).ownBlock = (Value.slice va k vc).ownBlock ∨ (Value.slice va3 (k + 1) vc3).ownBlock = some (w2.heap.size + 2) := by simpa [World.size_alloc, Nat.add_assoc] using hob
            have HN3 := Lib.hid (lk1_next hlt HL.out W2 o3 (by rw [HN2.out]; exact g3) hob2)
            go_roundw
            case rel => exact ⟨k + 1, _, nbl ++ [w2.heap.size], by omega, by go_num, HS.out, HN3.out⟩
            case measure => simp [intOf]; omega
          · obtain ⟨m, hm⟩ : ∃ m, m + 1 = k := ⟨k - 1, by omega⟩
            have h0i : decide (0 < k) = true := decide_eq_true (by omega)
            have hml : m < l.length := by omega
            have p0 := (cellsSpace HB.out HC5.out m hml).1
            have hki := wrap_sub hm.symm (by omega)
            have hm0 : (m : Int) < (l.length : Int) := by omega
            have hm1 : (0 : Int) ≤ (m : Int) := by omega
            have hkm : (k : Int) - 1 = (m : Int) := by omega
            have hwm : IntKind.i64.wrap (m : Int) = (m : Int) := by have h := hki; rw [hkm] at h; exact h
            have HN := Lib.hid (show nmS l (k - 1) = l[m].1 by rw [show k - 1 = m by omega, nmS_at hml])
            cases hlt2 : ltS l[m].1 l[k].1 with
            | true =>
              have q2 : Op.bytesLess l[m].1.toList l[k].1.toList = true := hlt2
              have HS := Lib.hid (show upto (ascP l) (k + 1) = true by rw [upto_succ, HT.out]; unfold ascP; rw [getD_sp hlt, show spOk l[k] = true from HQ.out, HN.out, nmS_at hlt, hlt2]; simp)
              clear hlt2 h0
              have KH := Lib.hid (show ∀ w' : World, Below (wr.alloc (.cells #[.string l[k].1, .string l[k].2.1, .int .i64 l[k].2.2.1, .bool l[k].2.2.2.1, .int .i64 l[k].2.2.2.2] 51)).heap.size (wr.alloc (.cells #[.string l[k].1, .string l[k].2.1, .int .i64 l[k].2.2.1, .bool l[k].2.2.2.1, .int .i64 l[k].2.2.2.2] 51)) w' → w'.cell? ⟨wr.heap.size, 0, none⟩ = some (.string l[k].1) ∧ w'.cell? ⟨wr.heap.size, 1, none⟩ = some (.string l[k].2.1) ∧ w'.cell? ⟨wr.heap.size, 2, none⟩ = some (.int .i64 l[k].2.2.1) ∧ w'.cell? ⟨wr.heap.size, 3, none⟩ = some (.bool l[k].2.2.2.1) ∧ w'.cell? ⟨wr.heap.size, 4, none⟩ = some (.int .i64 l[k].2.2.2.2) ∧ w'.cell? ⟨b, ob + m * 5, none⟩ = some (.string l[m].1) ∧ Below w.heap.size w w' from
                fun w' hb => ⟨(BX.out.below hb 0 _ rfl).1, (BX.out.below hb 1 _ rfl).1, (BX.out.below hb 2 _ rfl).1, (BX.out.below hb 3 _ rfl).1, (BX.out.below hb 4 _ rfl).1, (cellsSpace (B0.trans (hb.mono B0.size)) HC5.out m hml).1, B0.trans (hb.mono B0.size)⟩)
              go_wp2_with fail
              refine wp_region_held_drew (S := fun w' => w'.cell? ⟨wr.heap.size, 0, none⟩ = some (.string l[k].1) ∧ w'.cell? ⟨wr.heap.size, 1, none⟩ = some (.string l[k].2.1) ∧ w'.cell? ⟨wr.heap.size, 2, none⟩ = some (.int .i64 l[k].2.2.1) ∧ w'.cell? ⟨wr.heap.size, 3, none⟩ = some (.bool l[k].2.2.2.1) ∧ w'.cell? ⟨wr.heap.size, 4, none⟩ = some (.int .i64 l[k].2.2.2.2) ∧ w'.cell? ⟨b, ob + m * 5, none⟩ = some (.string l[m].1) ∧ Below w.heap.size w w') (by kernel_rfl) (KH.out _ (Below.refl _ _).drew) (fun hHeld => ?_)
              refine wpAnyH_take (i := 0) (oi := { dst := some 27, op := Op.load 51 (Operand.tmp 6), type := 51, pos := "l8_space.go:183", after := _, guard := none }) (v := ?_) rfl (by kernel_rfl) (by kernel_rfl) (by kernel_rfl) (fun _ _ _ h => h) (Or.inl ⟨by rfl, ?_⟩) (by assumption) ?_
              rotate_left
              · (intro w hSw; (try dsimp only at hSw); go_simp; (try with_reducible rfl))
              simp only [Act.put, List.setIfInBounds_toArray, List.set_cons_zero, List.set_cons_succ]
              refine wpAnyH_ready (rs := [1]) (by kernel_rfl) (by simp) ?_
              refine AllReadyH.cons (o := { dst := some 28, op := Op.call { callee := Callee.value (Operand.func 74), args := #[Operand.tmp 27], argTypes := #[51] }, type := 4, pos := "l8_space.go:183", after := _, guard := none }) rfl (fun K hK => ?_) AllReadyH.nil
              go_simp
              refine (spaceOk_any l[k].1 l[k].2.1 l[k].2.2.1 l[k].2.2.2.1 l[k].2.2.2.2 _ HZ.out.1 HZ.out.2).mono ?_
              rintro e w2 ⟨rfl, b2⟩
              rw [HQ.out]
              have C1 : Below (wr.alloc (.cells #[.string l[k].1, .string l[k].2.1, .int .i64 l[k].2.2.1, .bool l[k].2.2.2.1, .int .i64 l[k].2.2.2.2] 51)).heap.size (wr.alloc (.cells #[.string l[k].1, .string l[k].2.1, .int .i64 l[k].2.2.1, .bool l[k].2.2.2.1, .int .i64 l[k].2.2.2.2] 51)) w2 := (Below.refl _ _).drew.trans b2
              go_wp2_with fail
              refine hK.out _ _ ?_ (fun hHeld => ?_)
              · exact KH.out _ C1
              clear hK K
              (try simp only [Act.put, List.setIfInBounds_toArray, List.set_cons_zero, List.set_cons_succ])
              refine wpAnyH_take (i := 2) (oi := { dst := some 29, op := Op.unOp UnOp.not 4 (Operand.tmp 28), type := 4, pos := "l8_space.go:183", after := _, guard := none }) (v := ?_) rfl (by kernel_rfl) (by kernel_rfl) (by kernel_rfl) (fun _ _ _ h => h) (Or.inl ⟨by rfl, ?_⟩) (by assumption) ?_
              rotate_left
              · (intro w hSw; (try dsimp only at hSw); go_simp; (try with_reducible rfl))
              simp only [Act.put, List.setIfInBounds_toArray, List.set_cons_zero, List.set_cons_succ]
              refine wpAnyH_take (i := 3) (oi := { dst := some 30, op := Op.move (Operand.tmp 29), type := 4, pos := "l8_space.go:183", after := _, guard := none }) (v := ?_) rfl (by kernel_rfl) (by kernel_rfl) (by kernel_rfl) (fun _ _ _ h => h) (Or.inl ⟨by rfl, ?_⟩) (by assumption) ?_
              rotate_left
              · (intro w hSw; (try dsimp only at hSw); go_simp; (try with_reducible rfl))
              simp only [Act.put, List.setIfInBounds_toArray, List.set_cons_zero, List.set_cons_succ]
              refine wpAnyH_take (i := 4) (oi := { dst := some 31, op := Op.move (Operand.tmp 5), type := 3, pos := "l8_space.go:183", after := _, guard := some (3, false) }) (v := ?_) rfl (by kernel_rfl) (by kernel_rfl) (by kernel_rfl) (fun _ _ _ h => h) (Or.inl ⟨by rfl, ?_⟩) (by assumption) ?_
              rotate_left
              · (intro w hSw; (try dsimp only at hSw); go_simp; (try with_reducible rfl))
              simp only [Act.put, List.setIfInBounds_toArray, List.set_cons_zero, List.set_cons_succ]
              refine wpAnyH_take (i := 5) (oi := { dst := some 32, op := Op.binOp BinOp.gtr 3 (Operand.tmp 31) (Operand.const (Value.int IntKind.i64 0)) 3, type := 4, pos := "l8_space.go:183", after := _, guard := some (3, false) }) (v := ?_) rfl (by kernel_rfl) (by kernel_rfl) (by kernel_rfl) (fun _ _ _ h => h) (Or.inl ⟨by rfl, ?_⟩) (by assumption) ?_
              rotate_left
              · (intro w hSw; (try dsimp only at hSw); go_simp; (try with_reducible rfl))
              simp only [Act.put, List.setIfInBounds_toArray, List.set_cons_zero, List.set_cons_succ]
              (try simp only [h0i])
              refine wpAnyH_take (i := 6) (oi := { dst := some 33, op := Op.move (Operand.tmp 32), type := 4, pos := "l8_space.go:183", after := _, guard := some (3, false) }) (v := ?_) rfl (by kernel_rfl) (by kernel_rfl) (by kernel_rfl) (fun _ _ _ h => h) (Or.inl ⟨by rfl, ?_⟩) (by assumption) ?_
              rotate_left
              · (intro w hSw; (try dsimp only at hSw); go_simp; (try with_reducible rfl))
              simp only [Act.put, List.setIfInBounds_toArray, List.set_cons_zero, List.set_cons_succ]
              refine wpAnyH_take (i := 7) (oi := { dst := some 34, op := Op.move (Operand.tmp 0), type := 30, pos := "l8_space.go:183", after := _, guard := some (6, true) }) (v := ?_) rfl (by kernel_rfl) (by kernel_rfl) (by kernel_rfl) (fun _ _ _ h => h) (Or.inl ⟨by rfl, ?_⟩) (by assumption) ?_
              rotate_left
              · (intro w hSw; (try dsimp only at hSw); go_simp; (try with_reducible rfl))
              simp only [Act.put, List.setIfInBounds_toArray, List.set_cons_zero, List.set_cons_succ]
              refine wpAnyH_take (i := 8) (oi := { dst := some 35, op := Op.move (Operand.tmp 5), type := 3, pos := "l8_space.go:183", after := _, guard := some (6, true) }) (v := ?_) rfl (by kernel_rfl) (by kernel_rfl) (by kernel_rfl) (fun _ _ _ h => h) (Or.inl ⟨by rfl, ?_⟩) (by assumption) ?_
              rotate_left
              · (intro w hSw; (try dsimp only at hSw); go_simp; (try with_reducible rfl))
              simp only [Act.put, List.setIfInBounds_toArray, List.set_cons_zero, List.set_cons_succ]
              refine wpAnyH_take (i := 9) (oi := { dst := some 36, op := Op.binOp BinOp.sub 3 (Operand.tmp 35) (Operand.const (Value.int IntKind.i64 1)) 3, type := 3, pos := "l8_space.go:183", after := _, guard := some (6, true) }) (v := ?_) rfl (by kernel_rfl) (by kernel_rfl) (by kernel_rfl) (fun _ _ _ h => h) (Or.inl ⟨by rfl, ?_⟩) (by assumption) ?_
              rotate_left
              · (intro w hSw; (try dsimp only at hSw); go_simp; (try with_reducible rfl))
              simp only [Act.put, List.setIfInBounds_toArray, List.set_cons_zero, List.set_cons_succ]
              refine wpAnyH_take (i := 10) (oi := { dst := some 37, op := Op.indexAddr 30 (Operand.tmp 34) (Operand.tmp 36), type := 0, pos := "l8_space.go:183", after := _, guard := some (6, true) }) (v := ?_) rfl (by kernel_rfl) (by kernel_rfl) (by kernel_rfl) (fun _ _ _ h => h) (Or.inl ⟨by rfl, ?_⟩) (by assumption) ?_
              rotate_left
              · (intro w hSw; (try dsimp only at hSw); go_simp; (try with_reducible rfl))
              simp only [Act.put, List.setIfInBounds_toArray, List.set_cons_zero, List.set_cons_succ]
              refine wpAnyH_take (i := 11) (oi := { dst := some 38, op := Op.fieldAddr 51 (Operand.tmp 37) 0, type := 0, pos := "l8_space.go:183", after := _, guard := some (6, true) }) (v := ?_) rfl (by kernel_rfl) (by kernel_rfl) (by kernel_rfl) (fun _ _ _ h => h) (Or.inl ⟨by rfl, ?_⟩) (by assumption) ?_
              rotate_left
              · (intro w hSw; (try dsimp only at hSw); go_simp; (try with_reducible rfl))
              simp only [Act.put, List.setIfInBounds_toArray, List.set_cons_zero, List.set_cons_succ]
              refine wpAnyH_take (i := 12) (oi := { dst := some 39, op := Op.load 9 (Operand.tmp 38), type := 9, pos := "l8_space.go:183", after := _, guard := some (6, true) }) (v := ?_) rfl (by kernel_rfl) (by kernel_rfl) (by kernel_rfl) (fun _ _ _ h => h) (Or.inl ⟨by rfl, ?_⟩) (by assumption) ?_
              rotate_left
              · (intro w hSw; (try dsimp only at hSw); go_simp; (try with_reducible rfl))
              simp only [Act.put, List.setIfInBounds_toArray, List.set_cons_zero, List.set_cons_succ]
              refine wpAnyH_take (i := 13) (oi := { dst := some 40, op := Op.fieldAddr 51 (Operand.tmp 6) 0, type := 0, pos := "l8_space.go:183", after := _, guard := some (6, true) }) (v := ?_) rfl (by kernel_rfl) (by kernel_rfl) (by kernel_rfl) (fun _ _ _ h => h) (Or.inl ⟨by rfl, ?_⟩) (by assumption) ?_
              rotate_left
              · (intro w hSw; (try dsimp only at hSw); go_simp; (try with_reducible rfl))
              simp only [Act.put, List.setIfInBounds_toArray, List.set_cons_zero, List.set_cons_succ]
              refine wpAnyH_take (i := 14) (oi := { dst := some 41, op := Op.load 9 (Operand.tmp 40), type := 9, pos := "l8_space.go:183", after := _, guard := some (6, true) }) (v := ?_) rfl (by kernel_rfl) (by kernel_rfl) (by kernel_rfl) (fun _ _ _ h => h) (Or.inl ⟨by rfl, ?_⟩) (by assumption) ?_
              rotate_left
              · (intro w hSw; (try dsimp only at hSw); go_simp; (try with_reducible rfl))
              simp only [Act.put, List.setIfInBounds_toArray, List.set_cons_zero, List.set_cons_succ]
              refine wpAnyH_take (i := 15) (oi := { dst := some 42, op := Op.binOp BinOp.geq 9 (Operand.tmp 39) (Operand.tmp 41) 9, type := 4, pos := "l8_space.go:183", after := _, guard := some (6, true) }) (v := ?_) rfl (by kernel_rfl) (by kernel_rfl) (by kernel_rfl) (fun _ _ _ h => h) (Or.inl ⟨by rfl, ?_⟩) (by assumption) ?_
              rotate_left
              · (intro w hSw; (try dsimp only at hSw); go_simp; (try with_reducible rfl))
              simp only [Act.put, List.setIfInBounds_toArray, List.set_cons_zero, List.set_cons_succ]
              refine wpAnyH_take (i := 16) (oi := { dst := some 43, op := Op.pick (Operand.tmp 33) (Operand.tmp 42) (Operand.const (Value.bool false)), type := 4, pos := "l8_space.go:183", after := _, guard := some (3, false) }) (v := ?_) rfl (by kernel_rfl) (by kernel_rfl) (by kernel_rfl) (fun _ _ _ h => h) (Or.inl ⟨by rfl, ?_⟩) (by assumption) ?_
              rotate_left
              · (intro w hSw; (try dsimp only at hSw); go_simp; (try with_reducible rfl))
              simp only [Act.put, List.setIfInBounds_toArray, List.set_cons_zero, List.set_cons_succ]
              refine wpAnyH_take (i := 17) (oi := { dst := some 44, op := Op.pick (Operand.tmp 30) (Operand.const (Value.bool true)) (Operand.tmp 43), type := 4, pos := "l8_space.go:183", after := _, guard := none }) (v := ?_) rfl (by kernel_rfl) (by kernel_rfl) (by kernel_rfl) (fun _ _ _ h => h) (Or.inl ⟨by rfl, ?_⟩) (by assumption) ?_
              rotate_left
              · (intro w hSw; (try dsimp only at hSw); go_simp; (try with_reducible rfl))
              simp only [Act.put, List.setIfInBounds_toArray, List.set_cons_zero, List.set_cons_succ]
              refine wpAnyH_done (by kernel_rfl) ?_ _
              have W2 : Below wr.heap.size wr w2 := (below_alloc wr _).trans (C1.mono (by simp))
              have C0 : Below w.heap.size w w2 := B0.trans (C1.mono B0.size)
              have tb := HL.out.tree.below W2
              have tc := (tb 0 _ rfl).1
              have tf := (tb 0 _ rfl).2
              have sb := BX.out.below C1
              have sc0 := (sb 0 _ rfl).1
              have sc1 := (sb 1 _ rfl).1
              have sc2 := (sb 2 _ rfl).1
              have sc3 := (sb 3 _ rfl).1
              have sc4 := (sb 4 _ rfl).1
              have O2 := Lib.hid (own_below HL.out.own W2)
              have hsz2 := W2.size
              have hb2 := HL.out.base
              have hkl := hk
              have HV := Lib.hid (show ∀ b, (Value.slice va k vc).ownBlock = some b → w.heap.size + 2 ≤ b ∧ b < wr.heap.size from fun b hb => HL.out.own.lt b hb)
              have HN2 := Lib.hid (nodV_at hlt none)
              clear sb tb
              go_wp2_with (at_builtin; refine wpList_append_own_at _ rfl _ _ 140 rfl (w.heap.size + 2) 146 i0 (.pointer none) 1 8 Tryz.underlying140 hi hz0 hz1 hz2 rfl (by decide) (.slice va k vc) k _ rfl ((O2.out.alloc _).alloc _) ⟨w2.heap.size + 1, 0, none⟩ 1 1 [.pointer (some ⟨w2.heap.size, 0, none⟩)] rfl rfl (fun j u hj => by have := cells_oneU (w2.alloc (.cells #[.string l[k].1, .string l[k].2.1, .int .i64 l[k].2.2.1, .bool l[k].2.2.2.1, .int .i64 l[k].2.2.2.2, .int .i64 (k : Int), .pointer none] 172)) (.pointer (some ⟨w2.heap.size, 0, none⟩)) 146 j u hj; rw [World.size_alloc] at this; exact this) (fun u hu => by simp at hu; subst hu; rfl) (by unfold maxLen; omega) (by omega) (by simp; omega) ?_; intro v3 w3 o3 g3 _ hob; obtain ⟨va3, vc3, rfl⟩ := own_shpU o3; have tb3 : Box w3 (w.heap.size + 1) [.slice va k vc] := (((HL.out.tree.below W2).below (below_alloc _ _)).below (below_alloc _ _)).kept (kept_of_grown g3) (fun e => by have := (HV.out _ e).1; omega); have tc3 := (tb3 0 _ rfl).1; have tf3 := (tb3 0 _ rfl).2)
              have hob2 : (Value.slice va3 (k + 1) vc3).ownBlock = (Value.slice va k vc).ownBlock ∨ (Value.slice va3 (k + 1) vc3).ownBlock = some (w2.heap.size + 2) := by simpa [World.size_alloc, Nat.add_assoc] using hob
              have HN3 := Lib.hid (lk1_next hlt HL.out W2 o3 (by rw [HN2.out]; exact g3) hob2)
              go_roundw
              case rel => exact ⟨k + 1, _, nbl ++ [w2.heap.size], by omega, by go_num, HS.out, HN3.out⟩
              case measure => simp [intOf]; omega
            | false =>
              have q2 : Op.bytesLess l[m].1.toList l[k].1.toList = false := hlt2
              have HF := Lib.hid (show spsOk l = false by rw [spsOk_def, upto_no hlt (show ascP l k = false by unfold ascP; rw [HN.out, nmS_at hlt, hlt2]; simp [h0])]; rfl)
              clear hlt2 h0
              have KH := Lib.hid (show ∀ w' : World, Below (wr.alloc (.cells #[.string l[k].1, .string l[k].2.1, .int .i64 l[k].2.2.1, .bool l[k].2.2.2.1, .int .i64 l[k].2.2.2.2] 51)).heap.size (wr.alloc (.cells #[.string l[k].1, .string l[k].2.1, .int .i64 l[k].2.2.1, .bool l[k].2.2.2.1, .int .i64 l[k].2.2.2.2] 51)) w' → w'.cell? ⟨wr.heap.size, 0, none⟩ = some (.string l[k].1) ∧ w'.cell? ⟨wr.heap.size, 1, none⟩ = some (.string l[k].2.1) ∧ w'.cell? ⟨wr.heap.size, 2, none⟩ = some (.int .i64 l[k].2.2.1) ∧ w'.cell? ⟨wr.heap.size, 3, none⟩ = some (.bool l[k].2.2.2.1) ∧ w'.cell? ⟨wr.heap.size, 4, none⟩ = some (.int .i64 l[k].2.2.2.2) ∧ w'.cell? ⟨b, ob + m * 5, none⟩ = some (.string l[m].1) ∧ Below w.heap.size w w' from
                fun w' hb => ⟨(BX.out.below hb 0 _ rfl).1, (BX.out.below hb 1 _ rfl).1, (BX.out.below hb 2 _ rfl).1, (BX.out.below hb 3 _ rfl).1, (BX.out.below hb 4 _ rfl).1, (cellsSpace (B0.trans (hb.mono B0.size)) HC5.out m hml).1, B0.trans (hb.mono B0.size)⟩)
              go_wp2_with fail
              refine wp_region_held_drew (S := fun w' => w'.cell? ⟨wr.heap.size, 0, none⟩ = some (.string l[k].1) ∧ w'.cell? ⟨wr.heap.size, 1, none⟩ = some (.string l[k].2.1) ∧ w'.cell? ⟨wr.heap.size, 2, none⟩ = some (.int .i64 l[k].2.2.1) ∧ w'.cell? ⟨wr.heap.size, 3, none⟩ = some (.bool l[k].2.2.2.1) ∧ w'.cell? ⟨wr.heap.size, 4, none⟩ = some (.int .i64 l[k].2.2.2.2) ∧ w'.cell? ⟨b, ob + m * 5, none⟩ = some (.string l[m].1) ∧ Below w.heap.size w w') (by kernel_rfl) (KH.out _ (Below.refl _ _).drew) (fun hHeld => ?_)
              refine wpAnyH_take (i := 0) (oi := { dst := some 27, op := Op.load 51 (Operand.tmp 6), type := 51, pos := "l8_space.go:183", after := _, guard := none }) (v := ?_) rfl (by kernel_rfl) (by kernel_rfl) (by kernel_rfl) (fun _ _ _ h => h) (Or.inl ⟨by rfl, ?_⟩) (by assumption) ?_
              rotate_left
              · (intro w hSw; (try dsimp only at hSw); go_simp; (try with_reducible rfl))
              simp only [Act.put, List.setIfInBounds_toArray, List.set_cons_zero, List.set_cons_succ]
              refine wpAnyH_ready (rs := [1]) (by kernel_rfl) (by simp) ?_
              refine AllReadyH.cons (o := { dst := some 28, op := Op.call { callee := Callee.value (Operand.func 74), args := #[Operand.tmp 27], argTypes := #[51] }, type := 4, pos := "l8_space.go:183", after := _, guard := none }) rfl (fun K hK => ?_) AllReadyH.nil
              go_simp
              refine (spaceOk_any l[k].1 l[k].2.1 l[k].2.2.1 l[k].2.2.2.1 l[k].2.2.2.2 _ HZ.out.1 HZ.out.2).mono ?_
              rintro e w2 ⟨rfl, b2⟩
              rw [HQ.out]
              have C1 : Below (wr.alloc (.cells #[.string l[k].1, .string l[k].2.1, .int .i64 l[k].2.2.1, .bool l[k].2.2.2.1, .int .i64 l[k].2.2.2.2] 51)).heap.size (wr.alloc (.cells #[.string l[k].1, .string l[k].2.1, .int .i64 l[k].2.2.1, .bool l[k].2.2.2.1, .int .i64 l[k].2.2.2.2] 51)) w2 := (Below.refl _ _).drew.trans b2
              go_wp2_with fail
              refine hK.out _ _ ?_ (fun hHeld => ?_)
              · exact KH.out _ C1
              clear hK K
              (try simp only [Act.put, List.setIfInBounds_toArray, List.set_cons_zero, List.set_cons_succ])
              refine wpAnyH_take (i := 2) (oi := { dst := some 29, op := Op.unOp UnOp.not 4 (Operand.tmp 28), type := 4, pos := "l8_space.go:183", after := _, guard := none }) (v := ?_) rfl (by kernel_rfl) (by kernel_rfl) (by kernel_rfl) (fun _ _ _ h => h) (Or.inl ⟨by rfl, ?_⟩) (by assumption) ?_
              rotate_left
              · (intro w hSw; (try dsimp only at hSw); go_simp; (try with_reducible rfl))
              simp only [Act.put, List.setIfInBounds_toArray, List.set_cons_zero, List.set_cons_succ]
              refine wpAnyH_take (i := 3) (oi := { dst := some 30, op := Op.move (Operand.tmp 29), type := 4, pos := "l8_space.go:183", after := _, guard := none }) (v := ?_) rfl (by kernel_rfl) (by kernel_rfl) (by kernel_rfl) (fun _ _ _ h => h) (Or.inl ⟨by rfl, ?_⟩) (by assumption) ?_
              rotate_left
              · (intro w hSw; (try dsimp only at hSw); go_simp; (try with_reducible rfl))
              simp only [Act.put, List.setIfInBounds_toArray, List.set_cons_zero, List.set_cons_succ]
              refine wpAnyH_take (i := 4) (oi := { dst := some 31, op := Op.move (Operand.tmp 5), type := 3, pos := "l8_space.go:183", after := _, guard := some (3, false) }) (v := ?_) rfl (by kernel_rfl) (by kernel_rfl) (by kernel_rfl) (fun _ _ _ h => h) (Or.inl ⟨by rfl, ?_⟩) (by assumption) ?_
              rotate_left
              · (intro w hSw; (try dsimp only at hSw); go_simp; (try with_reducible rfl))
              simp only [Act.put, List.setIfInBounds_toArray, List.set_cons_zero, List.set_cons_succ]
              refine wpAnyH_take (i := 5) (oi := { dst := some 32, op := Op.binOp BinOp.gtr 3 (Operand.tmp 31) (Operand.const (Value.int IntKind.i64 0)) 3, type := 4, pos := "l8_space.go:183", after := _, guard := some (3, false) }) (v := ?_) rfl (by kernel_rfl) (by kernel_rfl) (by kernel_rfl) (fun _ _ _ h => h) (Or.inl ⟨by rfl, ?_⟩) (by assumption) ?_
              rotate_left
              · (intro w hSw; (try dsimp only at hSw); go_simp; (try with_reducible rfl))
              simp only [Act.put, List.setIfInBounds_toArray, List.set_cons_zero, List.set_cons_succ]
              (try simp only [h0i])
              refine wpAnyH_take (i := 6) (oi := { dst := some 33, op := Op.move (Operand.tmp 32), type := 4, pos := "l8_space.go:183", after := _, guard := some (3, false) }) (v := ?_) rfl (by kernel_rfl) (by kernel_rfl) (by kernel_rfl) (fun _ _ _ h => h) (Or.inl ⟨by rfl, ?_⟩) (by assumption) ?_
              rotate_left
              · (intro w hSw; (try dsimp only at hSw); go_simp; (try with_reducible rfl))
              simp only [Act.put, List.setIfInBounds_toArray, List.set_cons_zero, List.set_cons_succ]
              refine wpAnyH_take (i := 7) (oi := { dst := some 34, op := Op.move (Operand.tmp 0), type := 30, pos := "l8_space.go:183", after := _, guard := some (6, true) }) (v := ?_) rfl (by kernel_rfl) (by kernel_rfl) (by kernel_rfl) (fun _ _ _ h => h) (Or.inl ⟨by rfl, ?_⟩) (by assumption) ?_
              rotate_left
              · (intro w hSw; (try dsimp only at hSw); go_simp; (try with_reducible rfl))
              simp only [Act.put, List.setIfInBounds_toArray, List.set_cons_zero, List.set_cons_succ]
              refine wpAnyH_take (i := 8) (oi := { dst := some 35, op := Op.move (Operand.tmp 5), type := 3, pos := "l8_space.go:183", after := _, guard := some (6, true) }) (v := ?_) rfl (by kernel_rfl) (by kernel_rfl) (by kernel_rfl) (fun _ _ _ h => h) (Or.inl ⟨by rfl, ?_⟩) (by assumption) ?_
              rotate_left
              · (intro w hSw; (try dsimp only at hSw); go_simp; (try with_reducible rfl))
              simp only [Act.put, List.setIfInBounds_toArray, List.set_cons_zero, List.set_cons_succ]
              refine wpAnyH_take (i := 9) (oi := { dst := some 36, op := Op.binOp BinOp.sub 3 (Operand.tmp 35) (Operand.const (Value.int IntKind.i64 1)) 3, type := 3, pos := "l8_space.go:183", after := _, guard := some (6, true) }) (v := ?_) rfl (by kernel_rfl) (by kernel_rfl) (by kernel_rfl) (fun _ _ _ h => h) (Or.inl ⟨by rfl, ?_⟩) (by assumption) ?_
              rotate_left
              · (intro w hSw; (try dsimp only at hSw); go_simp; (try with_reducible rfl))
              simp only [Act.put, List.setIfInBounds_toArray, List.set_cons_zero, List.set_cons_succ]
              refine wpAnyH_take (i := 10) (oi := { dst := some 37, op := Op.indexAddr 30 (Operand.tmp 34) (Operand.tmp 36), type := 0, pos := "l8_space.go:183", after := _, guard := some (6, true) }) (v := ?_) rfl (by kernel_rfl) (by kernel_rfl) (by kernel_rfl) (fun _ _ _ h => h) (Or.inl ⟨by rfl, ?_⟩) (by assumption) ?_
              rotate_left
              · (intro w hSw; (try dsimp only at hSw); go_simp; (try with_reducible rfl))
              simp only [Act.put, List.setIfInBounds_toArray, List.set_cons_zero, List.set_cons_succ]
              refine wpAnyH_take (i := 11) (oi := { dst := some 38, op := Op.fieldAddr 51 (Operand.tmp 37) 0, type := 0, pos := "l8_space.go:183", after := _, guard := some (6, true) }) (v := ?_) rfl (by kernel_rfl) (by kernel_rfl) (by kernel_rfl) (fun _ _ _ h => h) (Or.inl ⟨by rfl, ?_⟩) (by assumption) ?_
              rotate_left
              · (intro w hSw; (try dsimp only at hSw); go_simp; (try with_reducible rfl))
              simp only [Act.put, List.setIfInBounds_toArray, List.set_cons_zero, List.set_cons_succ]
              refine wpAnyH_take (i := 12) (oi := { dst := some 39, op := Op.load 9 (Operand.tmp 38), type := 9, pos := "l8_space.go:183", after := _, guard := some (6, true) }) (v := ?_) rfl (by kernel_rfl) (by kernel_rfl) (by kernel_rfl) (fun _ _ _ h => h) (Or.inl ⟨by rfl, ?_⟩) (by assumption) ?_
              rotate_left
              · (intro w hSw; (try dsimp only at hSw); go_simp; (try with_reducible rfl))
              simp only [Act.put, List.setIfInBounds_toArray, List.set_cons_zero, List.set_cons_succ]
              refine wpAnyH_take (i := 13) (oi := { dst := some 40, op := Op.fieldAddr 51 (Operand.tmp 6) 0, type := 0, pos := "l8_space.go:183", after := _, guard := some (6, true) }) (v := ?_) rfl (by kernel_rfl) (by kernel_rfl) (by kernel_rfl) (fun _ _ _ h => h) (Or.inl ⟨by rfl, ?_⟩) (by assumption) ?_
              rotate_left
              · (intro w hSw; (try dsimp only at hSw); go_simp; (try with_reducible rfl))
              simp only [Act.put, List.setIfInBounds_toArray, List.set_cons_zero, List.set_cons_succ]
              refine wpAnyH_take (i := 14) (oi := { dst := some 41, op := Op.load 9 (Operand.tmp 40), type := 9, pos := "l8_space.go:183", after := _, guard := some (6, true) }) (v := ?_) rfl (by kernel_rfl) (by kernel_rfl) (by kernel_rfl) (fun _ _ _ h => h) (Or.inl ⟨by rfl, ?_⟩) (by assumption) ?_
              rotate_left
              · (intro w hSw; (try dsimp only at hSw); go_simp; (try with_reducible rfl))
              simp only [Act.put, List.setIfInBounds_toArray, List.set_cons_zero, List.set_cons_succ]
              refine wpAnyH_take (i := 15) (oi := { dst := some 42, op := Op.binOp BinOp.geq 9 (Operand.tmp 39) (Operand.tmp 41) 9, type := 4, pos := "l8_space.go:183", after := _, guard := some (6, true) }) (v := ?_) rfl (by kernel_rfl) (by kernel_rfl) (by kernel_rfl) (fun _ _ _ h => h) (Or.inl ⟨by rfl, ?_⟩) (by assumption) ?_
              rotate_left
              · (intro w hSw; (try dsimp only at hSw); go_simp; (try with_reducible rfl))
              simp only [Act.put, List.setIfInBounds_toArray, List.set_cons_zero, List.set_cons_succ]
              refine wpAnyH_take (i := 16) (oi := { dst := some 43, op := Op.pick (Operand.tmp 33) (Operand.tmp 42) (Operand.const (Value.bool false)), type := 4, pos := "l8_space.go:183", after := _, guard := some (3, false) }) (v := ?_) rfl (by kernel_rfl) (by kernel_rfl) (by kernel_rfl) (fun _ _ _ h => h) (Or.inl ⟨by rfl, ?_⟩) (by assumption) ?_
              rotate_left
              · (intro w hSw; (try dsimp only at hSw); go_simp; (try with_reducible rfl))
              simp only [Act.put, List.setIfInBounds_toArray, List.set_cons_zero, List.set_cons_succ]
              refine wpAnyH_take (i := 17) (oi := { dst := some 44, op := Op.pick (Operand.tmp 30) (Operand.const (Value.bool true)) (Operand.tmp 43), type := 4, pos := "l8_space.go:183", after := _, guard := none }) (v := ?_) rfl (by kernel_rfl) (by kernel_rfl) (by kernel_rfl) (fun _ _ _ h => h) (Or.inl ⟨by rfl, ?_⟩) (by assumption) ?_
              rotate_left
              · (intro w hSw; (try dsimp only at hSw); go_simp; (try with_reducible rfl))
              simp only [Act.put, List.setIfInBounds_toArray, List.set_cons_zero, List.set_cons_succ]
              refine wpAnyH_done (by kernel_rfl) ?_ _
              have rb : Box w2 w.heap.size [.slice none 0 0] := (HL.out.res.below (below_alloc wr _)).below C1
              have rcell := (rb 0 _ rfl).1
              have rfz := (rb 0 _ rfl).2
              go_wp2
              refine bodyPost_ret (v := .tuple #[.agg #[.slice none 0 0], .bool false]) (by simp [results, Tryz.results114, go_sem, rcell]) rfl (.inl ⟨HF.out, rfl, ?_⟩)
              exact Below.setCell (p := ⟨w.heap.size, 0, none⟩) (B0.trans (C1.mono B0.size)) (Nat.le_refl _) _
      · -- the loop is over
        have hkl : k = l.length := by omega
        subst hkl
        have HTA := Lib.hid HT.out
        have HLL := Lib.hid (show Lk1 w wr l (.slice va l.length vc) nbl l.length (fun i => if i < 0 then adrO nbl (nxS l i) else none) from HL.out)
        have hln := HL.out.len
        have tc := (HL.out.tree 0 _ rfl).1
        clear HT HL HB hlt hk
        go_wp2
        go_loopw [59] (fun s wr => ∃ k : Nat, k ≤ l.length ∧ s = .int .i64 k ∧ Lk1 w wr l (.slice va l.length vc) nbl l.length (fun i => if i < k then adrO nbl (nxS l i) else none)) (fun s _ => l.length - (intOf s).toNat)
        case atStart => exact ⟨0, Nat.zero_le _, rfl, HLL.out⟩
        case round =>
          clear HLL tc
          obtain ⟨k, hk, rfl, hL⟩ := hrel
          have HL := Lib.hid hL
          clear hL
          by_cases hlt : k < l.length
          · have hkn : k < nbl.length := by omega
            have hk0 : (0 : Int) ≤ (k : Int) := by omega
            have hk1 : (k : Int) < (l.length : Int) := by omega
            obtain ⟨pb, po, rfl, hpc⟩ := (HL.out.pts (by omega)).2.resolve_left (fun e => by rw [e] at hkn; simp at hkn)
            have pc := hpc k hkn
            have tc := (HL.out.tree 0 _ rfl).1
            have HND := Lib.hid (show Box wr nbl[k] (nodV l k none) by have := HL.out.nod k hkn; simpa using this)
            have nc1 := (HND.out 1 (.string l[k].2.1) (by rw [nodV_at hlt]; rfl)).1
            have HNX := Lib.hid (show adrO nbl (idxS l l[k].2.1) = adrO nbl (nxS l k) by rw [nxS_at hlt])
            have hbk := (HL.out.blk _ (List.getElem_mem hkn)).1
            clear hpc
            obtain ⟨bk, hbk2⟩ : ∃ bk, nbl[k] = bk := ⟨_, rfl⟩
            rw [hbk2] at pc nc1 HND hbk
            have HBK := Lib.hid hbk2
            clear hbk2
            go_wp2_with fail
            go_region_held3 (fun w' => w'.cell? ⟨w.heap.size + 1, 0, none⟩ = some (.slice (some ⟨pb, po, none⟩) l.length vc) ∧ w'.cell? ⟨bk, 1, none⟩ = some (.string l[k].2.1))
              (first | exact ⟨tc, nc1⟩ | exact ⟨tc2, nc2⟩ | exact ⟨(World.cell?_setCell_other _ _ _ _ (by intro e; have := congrArg Addr.block e; simp at this; omega)).trans tc2, (World.cell?_setCell_other _ _ _ _ (by intro e; have := congrArg Addr.off e; simp at this)).trans nc2⟩)
              ((go_at_call 116; rw [← hln]; refine (find_any _ _ nbl l hln l[k].2.1 _ ((HL.out.pts (by omega)).below (Below.refl _ _).drew) (HL.out.nms.below (Below.refl _ _).drew)).mono ?_; rintro e w6 ⟨rfl, b6⟩; rw [HNX.out]; (try rw [hln]); have W6 : Below wr.heap.size wr w6 := (Below.refl _ _).drew.trans b6; have L6 := HL.out.below W6; have tc2 := (L6.tree 0 _ rfl).1; have ND6 := HND.out.below W6; have nc2 := (ND6 1 (.string l[k].2.1) (by rw [nodV_at hlt]; rfl)).1; have nc6 := (ND6 6 (.pointer none) (by rw [nodV_at hlt]; rfl)).1; have nf6 := (ND6 6 (.pointer none) (by rw [nodV_at hlt]; rfl)).2))
            have HNE := Lib.hid (lk2_next (f := fun i => adrO nbl (nxS l i)) hkn L6)
            rw [HBK.out] at HNE
            go_wp2
            go_roundw
            case rel => exact ⟨k + 1, by omega, by go_num, HNE.out⟩
            case measure => simp [intOf]; omega
          · have hkl : k = l.length := by omega
            subst hkl
            have HLL := Lib.hid (show Lk1 w wr l (.slice va l.length vc) nbl l.length (fun i => if i < l.length then adrO nbl (nxS l i) else none) from HL.out)
            have tc := (HL.out.tree 0 _ rfl).1
            have HSP := Lib.hid (sps_line HTA.out h1 h7)
            clear HL hlt hk
            go_wp2
            go_loopw [77] (fun s wr => ∃ k : Nat, k ≤ l.length ∧ s = .int .i64 k ∧ upto (comeP l) k = true ∧ Lk1 w wr l (.slice va l.length vc) nbl l.length (fun i => if i < l.length then adrO nbl (nxS l i) else none)) (fun s _ => l.length - (intOf s).toNat)
            case atStart => exact ⟨0, Nat.zero_le _, rfl, rfl, HLL.out⟩
            case round =>
              clear HLL tc
              obtain ⟨k, hk, rfl, hto, hL⟩ := hrel
              have HT := Lib.hid hto
              have HL := Lib.hid hL
              clear hL hto
              have tc := (HL.out.tree 0 _ rfl).1
              have HNO := Lib.hid (show ∀ i (hi : i < nbl.length), Box wr nbl[i] (nodV l i (adrO nbl (nxS l i))) from fun i hi => by
                have := HL.out.nod i hi
                rwa [if_pos (by omega)] at this)
              by_cases hlt : k < l.length
              · have hkn : k < nbl.length := by omega
                have hk0 : (0 : Int) ≤ (k : Int) := by omega
                have hk1 : (k : Int) < (l.length : Int) := by omega
                obtain ⟨pb, po, rfl, hpc⟩ := (HL.out.pts (by omega)).2.resolve_left (fun e => by rw [e] at hkn; simp at hkn)
                have pc := hpc k hkn
                have HP := Lib.hid (show some (⟨nbl[k], 0, none⟩ : Addr) = adrN nbl (some ⟨k, hkn⟩) from rfl)
                rw [HP.out] at pc
                clear hpc
                obtain ⟨q, hq⟩ : ∃ q, comeP l k = q := ⟨_, rfl⟩
                have HCM := Lib.hid (show (trail (nxF l nbl.length) (some ⟨k, hkn⟩) l.length).any (isAll (nmF l nbl.length)) = q by rw [comesF hln ⟨k, hkn⟩, ← hq])
                have HQ := Lib.hid hq
                clear hq
                cases q with
                | false =>
                  have HF := Lib.hid (show spsOk l = false by rw [HSP.out, upto_no hlt HQ.out])
                  go_wp2_with (go_at_call 134; refine (comes_any nbl (nmF l nbl.length) (nxF l nbl.length) (some ⟨k, hkn⟩) l.length h1 (by omega) _ (nodesS_of hln HNO.out)).mono ?_; rintro e w6 ⟨rfl, b6⟩; rw [HCM.out]; have L6 := HL.out.below b6; have rc6 := (L6.res 0 _ rfl).1; have rf6 := (L6.res 0 _ rfl).2)
                  refine bodyPost_ret (v := .tuple #[.agg #[.slice none 0 0], .bool false]) (by simp [results, Tryz.results114, go_sem, rc6]) rfl (.inl ⟨HF.out, rfl, ?_⟩)
                  exact Below.setCell (p := ⟨w.heap.size, 0, none⟩) L6.bel (Nat.le_refl _) _
                | true =>
                  have HS := Lib.hid (show upto (comeP l) (k + 1) = true by rw [upto_succ, HT.out, HQ.out]; rfl)
                  go_wp2_with (go_at_call 134; refine (comes_any nbl (nmF l nbl.length) (nxF l nbl.length) (some ⟨k, hkn⟩) l.length h1 (by omega) _ (nodesS_of hln HNO.out)).mono ?_; rintro e w6 ⟨rfl, b6⟩; rw [HCM.out]; have L6 := HL.out.below b6)
                  go_roundw
                  case rel => exact ⟨k + 1, by omega, by go_num, HS.out, L6⟩
                  case measure => simp [intOf]; omega
              · have hkl : k = l.length := by omega
                subst hkl
                have HF := Lib.hid (show spsOk l = true by rw [HSP.out, HT.out])
                have rc := (HL.out.res 0 _ rfl).1
                have rf := (HL.out.res 0 _ rfl).2
                go_wp2
                have K : KeptOut (fun b => b = w.heap.size) wr (wr.setCell ⟨w.heap.size, 0, none⟩ (.slice va l.length vc)) := (KeptOut.refl (fun b => b = w.heap.size) wr).setCell (p := ⟨w.heap.size, 0, none⟩) rfl _
                have hnw : ∀ i (hi : i < nbl.length), ¬ nbl[i] = w.heap.size := fun i hi => by have := (HL.out.blk _ (List.getElem_mem hi)).1; omega
                refine bodyPost_ret (v := .tuple #[.agg #[.slice va l.length vc], .bool true]) (by simp [results, Tryz.results114, go_sem, rc]) rfl (.inr ⟨HF.out, va, vc, nbl, rfl, ⟨hln, ?_, fun i hi => (HNO.out i hi).kept K (hnw i hi), fun b hb => by have := (HL.out.blk b hb).1; omega⟩, ?_⟩)
                · refine ⟨by omega, (HL.out.pts (by omega)).2.imp id ?_⟩
                  rintro ⟨pb, po, rfl, hpc⟩
                  refine ⟨pb, po, rfl, fun j hj => ?_⟩
                  have h0 := hpc j hj
                  have hpb : w.heap.size + 2 ≤ pb := (HL.out.own.lt pb (by simp [Value.ownBlock])).1
                  exact (K.cell (p := ⟨pb, po + j, none⟩) (by have := World.block_lt_of_cell? wr _ h0; simpa using this) (by show ¬ pb = w.heap.size; omega)).trans h0
                · exact Below.setCell (p := ⟨w.heap.size, 0, none⟩) HL.out.bel (Nat.le_refl _) _
end Go.Proofs.YtbioljpjpflboaaGreatDoor
