import Derived.Test.YtlaehhdbagiciabDrawSps
import Derived.Test.YtlaehhdbagiciabUpP
import Derived.Test.YtlaehhdbagiciabWmS
import Derived.Test.YtlaehhdbagiciabSpaceUpI
import Derived.Test.YtlaehhdbagiciabSpaceI
/- The walk of FnSpaceUp. -/
namespace Go.Proofs.Ytlaehhdbagiciab
open Go Go.RowKit

theorem upO_len9 (l : List SpaceD) (name : ByteArray) : (upO l name).length ≤ 8 := by
  unfold upO
  split
  · exact upS_len l name
  · simp
theorem upO_sz {l : List SpaceD} (hk : ∀ x ∈ l, OkSpace x) (name : ByteArray) : ∀ x ∈ upO l name, x.size ≤ maxLen := by
  unfold upO
  split
  · exact upS_size hk name
  · simp
theorem hasB_no {l : List ByteArray} (h : l.Nodup) {k : Nat} (hk : k < l.length) : hasB (l.take k) l[k] = false := by
  unfold hasB
  rw [List.any_eq_false]
  intro x hx
  obtain ⟨j, hj, rfl⟩ := List.mem_iff_getElem.1 hx
  rw [List.length_take] at hj
  rw [List.getElem_take, decide_eq_true_eq]
  intro e
  have := (List.getElem_inj h).1 e
  omega
theorem strS_take {w : World} {a : Option Addr} {l : List ByteArray} (h : StrS w a l) (k : Nat) : StrS w a (l.take k) := by
  refine ⟨Nat.le_trans (by rw [List.length_take]; omega) h.1, fun s hs => h.2.1 s (List.mem_of_mem_take hs), ?_⟩
  rcases h.2.2 with rfl | ⟨b, o, rfl, hc⟩
  · exact .inl (by simp)
  · refine .inr ⟨b, o, rfl, fun j hj => ?_⟩
    rw [List.length_take] at hj
    rw [List.getElem_take]
    exact hc j (by omega)

theorem wmHas_n (a : Option Addr) (ca : Nat) (l : List ByteArray) {n : Nat} (hn : l.length = n) (s : ByteArray) (w : World) (hl : StrS w a l) :
    Calls Try.prog 36 #[.slice a n ca, .string s] w fun e w' => e = .returned (.bool (hasB l s)) ∧ Below w.heap.size w w' := by
  subst hn
  exact wmHas_any a ca l s w hl
set_option maxRecDepth 100000 in
set_option maxHeartbeats 2000000 in
theorem fnSpaceUpWalk (a : Option Addr) (c : Nat) (l : List UInt8) {w : World} (hl : l.length ≤ c) (hc : c ≤ maxLen) (h : BytesS w a l) :
    Calls Try.prog 6 #[.slice a l.length c] w fun e w' => e = .returned (.bool true) ∧ Below w.heap.size w w' := by
  have hcl := hc
  unfold maxLen at hcl
  by_cases hb : (1048576 : Int) < (l.length : Int)
  · go_enter Try.func6, Try.ntmps6
    go_wp2
    go_ret
    exact ⟨rfl, Below.refl _ _⟩
  have hb' : (l.length : Int) ≤ 1048576 := by omega
  clear hb
  go_enter Try.func6, Try.ntmps6
  go_wp2_with fail
  refine (drawUp_any a c l _ hl hc h).mono ?_
  rintro e w1 ⟨v, L, name, rfl, ow, hE, hn, hs, b1⟩
  obtain ⟨b, cb, rfl, -, -⟩ := id ow
  have E1 := Lib.hid (show ElS 5 encSpace w1 b L by obtain ⟨a', c', e, hl, _⟩ := ow.vw; cases e; exact hl)
  have HE := Lib.hid hE
  clear ow hE
  obtain ⟨R, hR⟩ : ∃ R, upO L name = R := ⟨_, rfl⟩
  have HR := Lib.hid hR
  have hRn : R.length ≤ 8 := by rw [← hR]; exact upO_len9 L name
  have HRS := Lib.hid (show ∀ x ∈ R, x.size ≤ maxLen by rw [← hR]; exact upO_sz HE.out.ok name)
  clear hR
  go_wp2_with fail
  refine (implSpaceUp_any _ _ L name _ E1.out HE.out.ok).mono ?_
  rintro e w2 ⟨v2, rfl, o2, b2⟩
  rw [HR.out] at o2
  obtain ⟨a2, c2, rfl⟩ := own_shpU o2
  have B2 : Below w.heap.size w w2 := b1.trans (b2.mono b1.size)
  have E2 := Lib.hid (E1.out.below b2)
  have S2 := Lib.hid (own_str (by unfold maxLen; omega) HRS.out o2)
  have z2 := b2.size
  have hcap := own_cap5 o2
  clear o2 b2 b1 E1
  go_wp2_with fail
  refine (specSpaceUp_any _ _ L name _ E2.out HE.out.ok (by omega)).mono ?_
  rintro e w3 ⟨v3, rfl, o3, b3⟩
  rw [HR.out] at o3
  obtain ⟨a3, c3, rfl⟩ := own_shpU o3
  have B3 : Below w.heap.size w w3 := B2.trans (b3.mono B2.size)
  have E3 := Lib.hid (E2.out.below b3)
  have S3 := Lib.hid (S2.out.below b3)
  have T3 := Lib.hid (own_str (by unfold maxLen; omega) HRS.out o3)
  clear o3 b3 E2 S2
  go_wp2_with fail
  refine (wmWords_eq _ _ _ _ R _ S3.out T3.out).mono ?_
  rintro e w4 ⟨rfl, b4⟩
  have B4 : Below w.heap.size w w4 := B3.trans (b4.mono B3.size)
  have E4 := Lib.hid (E3.out.below b4)
  have S4 := Lib.hid (S3.out.below b4)
  clear b4 E3 S3 T3
  obtain ⟨q, hq⟩ : ∃ q, spsOk L = q := ⟨_, rfl⟩
  have HQ := Lib.hid hq
  clear hq
  go_wp2_with fail
  refine (implSpaces_any _ _ L _ E4.out HE.out.ok).mono ?_
  rintro e w5 ⟨rfl, b5⟩
  rw [HQ.out]
  have B5 : Below w.heap.size w w5 := B4.trans (b5.mono B4.size)
  have E5 := Lib.hid (E4.out.below b5)
  have S5 := Lib.hid (S4.out.below b5)
  clear b5 E4 S4
  have hqq : (q != q) = false := by simp
  go_wp2_with fail
  refine (specSpaces_is E5.out HE.out.ok (by omega) HQ.out cb).mono ?_
  rintro e w6 ⟨rfl, b6⟩
  have B6 : Below w.heap.size w w6 := B5.trans (b6.mono B5.size)
  have E6 := Lib.hid (E5.out.below b6)
  have S6 := Lib.hid (S5.out.below b6)
  clear b6 E5 S5
  by_cases h0 : R = []
  · have h0b : ((R.length : Int) == 0) = true := by rw [h0]; rfl
    have HNO := Lib.hid (show ∀ (i : Nat) (hi : i < L.length), q = true → L[i].1 ≠ name from fun i hi hq => by
      have hk : spsOk L = true := HQ.out.trans hq
      exact idxS_no (upO_nil hk (HR.out.trans h0)) i hi)
    clear h0
    go_wp2_with fail
    go_loopw [6] (fun i wr => ∃ k : Nat, k ≤ L.length ∧ i = .int .i64 k ∧ Below w6.heap.size w6 wr) (fun i _ => L.length - (intOf i).toNat)
    case atStart => exact ⟨0, Nat.zero_le _, rfl, Below.refl _ _⟩
    case round =>
      obtain ⟨k, hk, rfl, hbel⟩ := hrel
      by_cases hlt : k < L.length
      · have E7 := Lib.hid (E6.out.below hbel)
        have hd : decide (k < L.length) = true := decide_eq_true hlt
        have B7 := B6.trans (hbel.mono B6.size)
        go_wp2_with fail
        refine (specSpaces_is E7.out HE.out.ok (by omega) HQ.out cb).mono ?_
        rintro e w8 ⟨rfl, b8⟩
        cases q with
        | false =>
          go_wp2_with fail
          go_ret
          exact ⟨rfl, B7.trans (b8.mono B7.size)⟩
        | true =>
          obtain ⟨bb, ob, rfl, hcb⟩ := (E7.out.below b8).2.resolve_left (fun e => by rw [e] at hlt; simp at hlt)
          have c0 := (cellsSpace (Below.refl _ _) hcb k hlt).1
          have q1 : (L[k].1.toList == name.toList) = false := toList_no (HNO.out k hlt rfl)
          clear hcb
          go_wp2_with fail
          go_roundw
          case rel => exact ⟨k + 1, by omega, by go_num, hbel.trans (b8.mono hbel.size)⟩
          case measure => simp [intOf]; omega
      · have hd : decide (k < L.length) = false := decide_eq_false hlt
        go_wp2_with fail
        go_ret
        exact ⟨rfl, B6.trans (hbel.mono B6.size)⟩
  · have hne : upO L name ≠ [] := by rw [HR.out]; exact h0
    have hRp : 0 < R.length := List.length_pos_iff.2 h0
    have h0b : ((R.length : Int) == 0) = false := by rw [beq_eq_false_iff_ne]; omega
    have HHD := Lib.hid (show R[0] = name by have := upO_head hne (by rw [HR.out]; exact hRp); simpa only [HR.out] using this)
    have HLA := Lib.hid (show R[R.length - 1] = allB by have := upO_last hne (by rw [HR.out]; exact hRp); simpa only [HR.out] using this)
    have HNP := Lib.hid (show R.Nodup by rw [← HR.out]; exact upO_nodup L name)
    have HIN := Lib.hid (show ∀ x ∈ R, (spsOk L && inSp L name x) = true from fun x hx => upO_in (by rw [HR.out]; exact hx))
    clear h0 hne
    go_wp2_with fail
    go_loopw [7] (fun i wr => ∃ k : Nat, k ≤ R.length ∧ i = .int .i64 k ∧ Below w6.heap.size w6 wr) (fun i _ => R.length - (intOf i).toNat)
    case atStart => exact ⟨0, Nat.zero_le _, rfl, Below.refl _ _⟩
    case round =>
      obtain ⟨k, hk, rfl, hbel⟩ := hrel
      have S7 := Lib.hid (S6.out.below hbel)
      have E7 := Lib.hid (E6.out.below hbel)
      have B7 := Lib.hid (B6.trans (hbel.mono B6.size))
      have HB := Lib.hid hbel
      clear hbel
      by_cases hlt : k < R.length
      · obtain ⟨bb, ob, rfl, hcb⟩ := S7.out.2.2.resolve_left (fun e => by rw [e] at hlt; simp at hlt)
        have c0 := hcb k hlt
        have hk0 : (0 : Int) ≤ (k : Int) := by omega
        have hk1 : (k : Int) < (R.length : Int) := by omega
        have hk2 : (k : Int) ≤ (R.length : Int) := by omega
        have hk3 : k ≤ c2 := by omega
        have hk4 : (k : Int) ≤ (c2 : Int) := by omega
        have HHS := Lib.hid (hasB_no HNP.out hlt)
        have HIK := Lib.hid (HIN.out _ (List.getElem_mem hlt))
        clear hcb
        have hkt : (R.take k).length = k := by rw [List.length_take]; omega
        have c0k : ∀ W, Below wr.heap.size wr W → W.cell? ⟨bb, ob + k, none⟩ = some (.string R[k]) := fun W hb => (hb.cell (p := ⟨bb, ob + k, none⟩) (by have := World.block_lt_of_cell? wr _ c0; simpa using this)).trans c0
        clear c0
        go_wp2_with fail
        refine wp_region_held_drew (S := fun W => W.cell? ⟨bb, ob + k, none⟩ = some (.string R[k])) (by kernel_rfl) (c0k _ ((Below.refl _ _).drew)) (fun hHeld => ?_)
        refine wpAnyH_take (i := 0) (oi := { dst := some 58, op := Op.move (Operand.tmp 5), type := 47, pos := "laws.go:927", after := _, guard := none }) (v := ?_) rfl (by kernel_rfl) (by kernel_rfl) (by kernel_rfl) (fun _ _ _ h => h) (Or.inl ⟨by rfl, ?_⟩) (by assumption) ?_
        rotate_left
        · (intro w hSw; (try dsimp only at hSw); go_simp; (try with_reducible rfl))
        simp only [Act.put, List.setIfInBounds_toArray, List.set_cons_zero, List.set_cons_succ]
        refine wpAnyH_take (i := 1) (oi := { dst := some 59, op := Op.move (Operand.tmp 7), type := 3, pos := "laws.go:927", after := _, guard := none }) (v := ?_) rfl (by kernel_rfl) (by kernel_rfl) (by kernel_rfl) (fun _ _ _ h => h) (Or.inl ⟨by rfl, ?_⟩) (by assumption) ?_
        rotate_left
        · (intro w hSw; (try dsimp only at hSw); go_simp; (try with_reducible rfl))
        simp only [Act.put, List.setIfInBounds_toArray, List.set_cons_zero, List.set_cons_succ]
        refine wpAnyH_take (i := 2) (oi := { dst := some 60, op := Op.slice 47 (Operand.tmp 58) none (some (Operand.tmp 59)) none, type := 47, pos := "laws.go:927", after := _, guard := none }) (v := ?_) rfl (by kernel_rfl) (by kernel_rfl) (by kernel_rfl) (fun _ _ _ h => h) (Or.inl ⟨by rfl, ?_⟩) (by assumption) ?_
        rotate_left
        · (intro w hSw; (try dsimp only at hSw); go_simp; (try with_reducible rfl))
        simp only [Act.put, List.setIfInBounds_toArray, List.set_cons_zero, List.set_cons_succ]
        refine wpAnyH_take (i := 3) (oi := { dst := some 61, op := Op.move (Operand.tmp 5), type := 47, pos := "laws.go:927", after := _, guard := none }) (v := ?_) rfl (by kernel_rfl) (by kernel_rfl) (by kernel_rfl) (fun _ _ _ h => h) (Or.inl ⟨by rfl, ?_⟩) (by assumption) ?_
        rotate_left
        · (intro w hSw; (try dsimp only at hSw); go_simp; (try with_reducible rfl))
        simp only [Act.put, List.setIfInBounds_toArray, List.set_cons_zero, List.set_cons_succ]
        refine wpAnyH_take (i := 4) (oi := { dst := some 62, op := Op.move (Operand.tmp 7), type := 3, pos := "laws.go:927", after := _, guard := none }) (v := ?_) rfl (by kernel_rfl) (by kernel_rfl) (by kernel_rfl) (fun _ _ _ h => h) (Or.inl ⟨by rfl, ?_⟩) (by assumption) ?_
        rotate_left
        · (intro w hSw; (try dsimp only at hSw); go_simp; (try with_reducible rfl))
        simp only [Act.put, List.setIfInBounds_toArray, List.set_cons_zero, List.set_cons_succ]
        refine wpAnyH_take (i := 5) (oi := { dst := some 63, op := Op.indexAddr 47 (Operand.tmp 61) (Operand.tmp 62), type := 0, pos := "laws.go:927", after := _, guard := none }) (v := ?_) rfl (by kernel_rfl) (by kernel_rfl) (by kernel_rfl) (fun _ _ _ h => h) (Or.inl ⟨by rfl, ?_⟩) (by assumption) ?_
        rotate_left
        · (intro w hSw; (try dsimp only at hSw); go_simp; (try with_reducible rfl))
        simp only [Act.put, List.setIfInBounds_toArray, List.set_cons_zero, List.set_cons_succ]
        refine wpAnyH_take (i := 6) (oi := { dst := some 64, op := Op.load 9 (Operand.tmp 63), type := 9, pos := "laws.go:927", after := _, guard := none }) (v := ?_) rfl (by kernel_rfl) (by kernel_rfl) (by kernel_rfl) (fun _ _ _ h => h) (Or.inl ⟨by rfl, ?_⟩) (by assumption) ?_
        rotate_left
        · (intro w hSw; (try dsimp only at hSw); go_simp; (try with_reducible rfl))
        simp only [Act.put, List.setIfInBounds_toArray, List.set_cons_zero, List.set_cons_succ]
        refine wpAnyH_ready (rs := [7]) (by kernel_rfl) (by simp) ?_
        refine AllReadyH.cons (o := { dst := some 65, op := Op.call { callee := Callee.value (Operand.func 36), args := #[Operand.tmp 60, Operand.tmp 64], argTypes := #[47, 9] }, type := 4, pos := "laws.go:927", after := _, guard := none }) rfl (fun K hK => ?_) AllReadyH.nil
        go_simp
        refine (wmHas_n _ _ (R.take k) hkt R[k] _ (strS_take (S7.out.below (Below.refl _ _).drew) k)).mono ?_
        rintro e w8 ⟨rfl, b8⟩
        rw [HHS.out]
        have B8 := (Below.refl _ wr).drew.trans (b8.mono (Nat.le_refl _))
        refine hK.out _ _ ?_ (fun hHeld => ?_)
        · exact c0k _ B8
        clear hK K
        (try simp only [Act.put, List.setIfInBounds_toArray, List.set_cons_zero, List.set_cons_succ])
        refine wpAnyH_take (i := 8) (oi := { dst := some 66, op := Op.move (Operand.tmp 65), type := 4, pos := "laws.go:927", after := _, guard := none }) (v := ?_) rfl (by kernel_rfl) (by kernel_rfl) (by kernel_rfl) (fun _ _ _ h => h) (Or.inl ⟨by rfl, ?_⟩) (by assumption) ?_
        rotate_left
        · (intro w hSw; (try dsimp only at hSw); go_simp; (try with_reducible rfl))
        simp only [Act.put, List.setIfInBounds_toArray, List.set_cons_zero, List.set_cons_succ]
        refine wpAnyH_take (i := 9) (oi := { dst := some 67, op := Op.move (Operand.tmp 3), type := 27, pos := "laws.go:927", after := _, guard := some (8, false) }) (v := ?_) rfl (by kernel_rfl) (by kernel_rfl) (by kernel_rfl) (fun _ _ _ h => h) (Or.inl ⟨by rfl, ?_⟩) (by assumption) ?_
        rotate_left
        · (intro w hSw; (try dsimp only at hSw); go_simp; (try with_reducible rfl))
        simp only [Act.put, List.setIfInBounds_toArray, List.set_cons_zero, List.set_cons_succ]
        refine wpAnyH_take (i := 10) (oi := { dst := some 68, op := Op.move (Operand.tmp 4), type := 9, pos := "laws.go:927", after := _, guard := some (8, false) }) (v := ?_) rfl (by kernel_rfl) (by kernel_rfl) (by kernel_rfl) (fun _ _ _ h => h) (Or.inl ⟨by rfl, ?_⟩) (by assumption) ?_
        rotate_left
        · (intro w hSw; (try dsimp only at hSw); go_simp; (try with_reducible rfl))
        simp only [Act.put, List.setIfInBounds_toArray, List.set_cons_zero, List.set_cons_succ]
        refine wpAnyH_take (i := 11) (oi := { dst := some 69, op := Op.move (Operand.tmp 5), type := 47, pos := "laws.go:927", after := _, guard := some (8, false) }) (v := ?_) rfl (by kernel_rfl) (by kernel_rfl) (by kernel_rfl) (fun _ _ _ h => h) (Or.inl ⟨by rfl, ?_⟩) (by assumption) ?_
        rotate_left
        · (intro w hSw; (try dsimp only at hSw); go_simp; (try with_reducible rfl))
        simp only [Act.put, List.setIfInBounds_toArray, List.set_cons_zero, List.set_cons_succ]
        refine wpAnyH_take (i := 12) (oi := { dst := some 70, op := Op.move (Operand.tmp 7), type := 3, pos := "laws.go:927", after := _, guard := some (8, false) }) (v := ?_) rfl (by kernel_rfl) (by kernel_rfl) (by kernel_rfl) (fun _ _ _ h => h) (Or.inl ⟨by rfl, ?_⟩) (by assumption) ?_
        rotate_left
        · (intro w hSw; (try dsimp only at hSw); go_simp; (try with_reducible rfl))
        simp only [Act.put, List.setIfInBounds_toArray, List.set_cons_zero, List.set_cons_succ]
        refine wpAnyH_take (i := 13) (oi := { dst := some 71, op := Op.indexAddr 47 (Operand.tmp 69) (Operand.tmp 70), type := 0, pos := "laws.go:927", after := _, guard := some (8, false) }) (v := ?_) rfl (by kernel_rfl) (by kernel_rfl) (by kernel_rfl) (fun _ _ _ h => h) (Or.inl ⟨by rfl, ?_⟩) (by assumption) ?_
        rotate_left
        · (intro w hSw; (try dsimp only at hSw); go_simp; (try with_reducible rfl))
        simp only [Act.put, List.setIfInBounds_toArray, List.set_cons_zero, List.set_cons_succ]
        refine wpAnyH_take (i := 14) (oi := { dst := some 72, op := Op.load 9 (Operand.tmp 71), type := 9, pos := "laws.go:927", after := _, guard := some (8, false) }) (v := ?_) rfl (by kernel_rfl) (by kernel_rfl) (by kernel_rfl) (fun _ _ _ h => h) (Or.inl ⟨by rfl, ?_⟩) (by assumption) ?_
        rotate_left
        · (intro w hSw; (try dsimp only at hSw); go_simp; (try with_reducible rfl))
        simp only [Act.put, List.setIfInBounds_toArray, List.set_cons_zero, List.set_cons_succ]
        refine wpAnyH_ready (rs := [15]) (by kernel_rfl) (by simp) ?_
        refine AllReadyH.cons (o := { dst := some 73, op := Op.call { callee := Callee.value (Operand.func 37), args := #[Operand.tmp 67, Operand.tmp 68, Operand.tmp 72], argTypes := #[27, 9, 9] }, type := 4, pos := "laws.go:927", after := _, guard := some (8, false) }) rfl (fun K hK => ?_) AllReadyH.nil
        go_simp
        refine (implSpaceIn_any _ _ L name R[k] _ ((E7.out.below B8)) HE.out.ok).mono ?_
        rintro e w9 ⟨rfl, b9⟩
        rw [HIK.out]
        have B9 := B8.trans (b9.mono B8.size)
        refine hK.out _ _ ?_ (fun hHeld => ?_)
        · exact c0k _ B9
        clear hK K
        (try simp only [Act.put, List.setIfInBounds_toArray, List.set_cons_zero, List.set_cons_succ])
        refine wpAnyH_take (i := 16) (oi := { dst := some 74, op := Op.unOp UnOp.not 4 (Operand.tmp 73), type := 4, pos := "laws.go:927", after := _, guard := some (8, false) }) (v := ?_) rfl (by kernel_rfl) (by kernel_rfl) (by kernel_rfl) (fun _ _ _ h => h) (Or.inl ⟨by rfl, ?_⟩) (by assumption) ?_
        rotate_left
        · (intro w hSw; (try dsimp only at hSw); go_simp; (try with_reducible rfl))
        simp only [Act.put, List.setIfInBounds_toArray, List.set_cons_zero, List.set_cons_succ]
        refine wpAnyH_take (i := 17) (oi := { dst := some 75, op := Op.pick (Operand.tmp 66) (Operand.const (Value.bool true)) (Operand.tmp 74), type := 4, pos := "laws.go:927", after := _, guard := none }) (v := ?_) rfl (by kernel_rfl) (by kernel_rfl) (by kernel_rfl) (fun _ _ _ h => h) (Or.inl ⟨by rfl, ?_⟩) (by assumption) ?_
        rotate_left
        · (intro w hSw; (try dsimp only at hSw); go_simp; (try with_reducible rfl))
        simp only [Act.put, List.setIfInBounds_toArray, List.set_cons_zero, List.set_cons_succ]
        refine wpAnyH_done (by kernel_rfl) ?_ _
        go_wp2_with fail
        go_roundw
        case rel => exact ⟨k + 1, by omega, by go_num, HB.out.trans (B9.mono HB.out.size)⟩
        case measure => simp [intOf]; omega
      · obtain ⟨bb, ob, rfl, hcb⟩ := S7.out.2.2.resolve_left (fun e => by rw [e] at hRp; simp at hRp)
        have c0 := hcb 0 hRp
        have c1 := hcb (R.length - 1) (by omega)
        rw [HHD.out] at c0
        rw [HLA.out] at c1
        simp only [Nat.add_zero] at c0
        have q1 : (name.toList == name.toList) = true := by simp
        have hr0 : (0 : Int) ≤ (R.length : Int) - 1 := by omega
        have hr1 : (R.length : Int) - 1 < (R.length : Int) := by omega
        have hr2 : ((R.length : Int) - 1).toNat = R.length - 1 := by omega
        have hr3 : 0 < R.length := hRp
        have hr4 : (0 : Int) < (R.length : Int) := by omega
        clear hcb
        go_wp2_with fail
        go_ret
        exact ⟨ret_bool (show (allB.toList == [97, 108, 108]) = true by simp [allB]), B7.out⟩
end Go.Proofs.Ytlaehhdbagiciab
