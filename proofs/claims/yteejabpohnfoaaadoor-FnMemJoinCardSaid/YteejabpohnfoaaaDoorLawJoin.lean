import Derived.Test.YteejabpohnfoaaaDoorDrawJoin
import Derived.Test.YteejabpohnfoaaaDoorMemAll
import Derived.Test.YteejabpohnfoaaaDoorWmE
import Derived.BigQuiet
/- The walk of FnMemJoin. -/
namespace Go.Proofs.YteejabpohnfoaaaDoor
open Go Go.RowKit

theorem tlE_inj {x y : ByteArray} : (x.toList = y.toList) = (x = y) := propext ⟨toList_inj, fun h => by rw [h]⟩
set_option maxRecDepth 100000 in
set_option maxHeartbeats 1000000 in
theorem eqEnt (x y : EntryD) (W : World) : (binOp .eql 31 (.agg #[.string x.1, .int .i64 x.2.1, .bool x.2.2.1, .string x.2.2.2]) (.agg #[.string y.1, .int .i64 y.2.1, .bool y.2.2.1, .string y.2.2.2])).run Tryd.prog W = .ok (.bool (decide (x = y))) W := by
  obtain ⟨a, b, c, d⟩ := x
  obtain ⟨a', b', c', d'⟩ := y
  by_cases h1 : a = a' <;> by_cases h2 : b = b' <;> by_cases h3 : c = c' <;> by_cases h4 : d = d' <;> (try subst h1) <;> (try subst h2) <;> (try subst h3) <;> (try subst h4) <;> go_simp <;> (first | (simp; done) | (simp [tlE_inj, h1]; done) | (simp [tlE_inj, h2]; done) | (simp [tlE_inj, h3]; done) | (simp [tlE_inj, h4]; done))
def fndE (L : List EntryD) (x : EntryD) : Bool := L.any fun y => decide (y = x)
theorem fnd_next {L : List EntryD} {k : Nat} (h : k < L.length) (x : EntryD) : fndE (L.take (k + 1)) x = (fndE (L.take k) x || decide (L[k] = x)) := by
  unfold fndE
  rw [List.take_succ_eq_append_getElem h, List.any_append]
  simp
theorem fnd_mem {L : List EntryD} {x : EntryD} (h : x ∈ L) : fndE L x = true := List.any_eq_true.2 ⟨x, h, by simp⟩
theorem has_self (L : List EntryD) (e : EntryD) : hasE (addE L e) e = true := by
  unfold addE
  split
  · assumption
  · refine List.any_eq_true.2 ⟨e, ?_, by unfold isE; simp⟩
    unfold putE
    simp
theorem add_sub (L : List EntryD) (e x : EntryD) (h : x ∈ L) : x ∈ addE L e := by
  unfold addE
  split
  · exact h
  · have hs : L.takeWhile (fun x => lessB x e) ++ L.dropWhile (fun x => lessB x e) = L := List.takeWhile_append_dropWhile
    unfold putE
    rw [← hs] at h
    rcases List.mem_append.1 h with h | h
    · exact List.mem_append_left _ h
    · exact List.mem_append_right _ (List.mem_cons_of_mem _ h)
theorem join_sub (M : List EntryD) : ∀ (L : List EntryD) (x : EntryD), x ∈ L → x ∈ joinE L M := by
  induction M with
  | nil => intro L x h; exact h
  | cons e M ih => intro L x h; exact ih _ x (add_sub L e x h)
theorem has_sub {L J : List EntryD} (h : ∀ x ∈ L, x ∈ J) {e : EntryD} (he : hasE L e = true) : hasE J e = true := by
  obtain ⟨x, hx, hq⟩ := List.any_eq_true.1 he
  exact List.any_eq_true.2 ⟨x, h x hx, hq⟩
theorem join_has (M : List EntryD) : ∀ (L : List EntryD) (e : EntryD), e ∈ M → hasE (joinE L M) e = true := by
  induction M with
  | nil => intro L e h; cases h
  | cons a M ih =>
    intro L e h
    rcases List.mem_cons.1 h with rfl | h
    · exact has_sub (join_sub M _) (has_self L e)
    · exact ih _ e h
theorem join_same (M : List EntryD) : ∀ (J : List EntryD), (∀ e ∈ M, hasE J e = true) → joinE J M = J := by
  induction M with
  | nil => intro J _; rfl
  | cons a M ih =>
    intro J h
    have h0 : addE J a = J := by unfold addE; rw [if_pos (h a List.mem_cons_self)]
    show joinE (addE J a) M = J
    rw [h0]
    exact ih J fun e he => h e (List.mem_cons_of_mem _ he)
theorem join_twice (L M : List EntryD) : joinE (joinE L M) M = joinE L M := join_same M _ (fun e he => join_has M L e he)
theorem join_ge (M : List EntryD) : ∀ L : List EntryD, L.length ≤ (joinE L M).length := by
  induction M with
  | nil => intro L; exact Nat.le_refl _
  | cons a M ih =>
    intro L
    have h0 : L.length ≤ (addE L a).length := by
      unfold addE
      split
      · exact Nat.le_refl _
      · rw [putE_len]; omega
    exact Nat.le_trans h0 (ih _)
def keyE (x : EntryD) : ByteArray × Int := (x.1, x.2.1)
theorem isE_key {e x : EntryD} : isE e x = true ↔ keyE x = keyE e := by
  unfold isE keyE
  simp
theorem nodup_sub_len {α : Type} [DecidableEq α] : ∀ (l m : List α), l.Nodup → (∀ x ∈ l, x ∈ m) → l.length ≤ m.length
  | [], m, _, _ => Nat.zero_le _
  | a :: l, m, hn, hs => by
    have hn2 := List.nodup_cons.1 hn
    have ha := hs a List.mem_cons_self
    have h := nodup_sub_len l (m.erase a) hn2.2 (fun x hx => (List.mem_erase_of_ne (fun e => hn2.1 (by rw [← e]; exact hx))).2 (hs x (List.mem_cons_of_mem _ hx)))
    rw [List.length_erase_of_mem ha] at h
    have : 0 < m.length := List.length_pos_of_mem ha
    simp only [List.length_cons]
    omega
theorem join_ge2 {L M : List EntryD} (h : SrtL M) : M.length ≤ (joinE L M).length := by
  have hn : (M.map keyE).Nodup := by
    refine List.pairwise_map.2 (h.imp fun {a b} hab e => ?_)
    have := (isE_not_less (isE_key.2 e.symm)).1
    rw [hab] at this
    cases this
  have := nodup_sub_len (M.map keyE) ((joinE L M).map keyE) hn (fun x hx => by
    obtain ⟨e, he, rfl⟩ := List.mem_map.1 hx
    obtain ⟨y, hy, hq⟩ := List.any_eq_true.1 (join_has M L e he)
    exact List.mem_map.2 ⟨y, hy, isE_key.1 hq⟩)
  simpa using this
set_option maxRecDepth 100000 in
set_option maxHeartbeats 4000000 in
theorem fnMemJoinWalk (a : Option Addr) (c : Nat) (l : List UInt8) (hl : l.length ≤ c) (hc : c ≤ maxLen) {w : World} (h : BytesS w a l) (ht : HashT w) :
    Calls Tryd.prog 7 #[.slice a l.length c] w fun e w' => e = .returned (.bool true) ∧ Below w.heap.size w w' := by
  have hcl := hc
  unfold maxLen at hcl
  have HT := Lib.hid ht
  clear ht
  by_cases hb : (1048576 : Int) < (l.length : Int)
  · go_enter Tryd.func7, Tryd.ntmps7
    go_wp2
    go_ret
    exact ⟨rfl, Below.refl _ _⟩
  have hb' : (l.length : Int) ≤ 1048576 := by omega
  clear hb
  go_enter Tryd.func7, Tryd.ntmps7
  go_wp2_with fail
  refine (drawJoin_any a c l _ hl hc h).mono ?_
  rintro e w1 ⟨b1, cb1, L, b2, cb2, M, rfl, e1, e2, hE, hF, hn1, hn2, B1⟩
  have E1 := Lib.hid e1
  have F1 := Lib.hid e2
  have HE := Lib.hid hE.ok
  have HF := Lib.hid hF.ok
  have G1 := Lib.hid B1
  clear e1 e2 hE hF B1
  obtain ⟨R, hR⟩ : ∃ R, joinL L M = R := ⟨_, rfl⟩
  obtain ⟨RB, hRB⟩ : ∃ RB, joinOk L M = RB := ⟨_, rfl⟩
  have HR := Lib.hid hR
  have HRB := Lib.hid hRB
  have hRn : R.length ≤ 240 := by
    rw [← hR]
    unfold joinL
    split
    · rename_i q
      unfold joinOk at q
      rw [Bool.and_eq_true] at q
      exact (entsB_at q.2).1
    · simp
  have hbb : (RB != RB) = false := by simp
  have hbe : (RB == RB) = true := by simp
  clear hR hRB
  go_wp2_with fail
  refine (implMemJoin_any _ _ _ _ L M _ E1.out F1.out HE.out HF.out (HT.out.below G1.out)).mono ?_
  rintro e w2 ⟨v2, rfl, o2, b2⟩
  rw [HR.out] at o2
  rw [HRB.out]
  obtain ⟨a2, c2, rfl⟩ := own_shape o2
  have O2 := Lib.hid o2
  have E2 := Lib.hid (E1.out.below b2)
  have F2 := Lib.hid (F1.out.below b2)
  have G2 := Lib.hid (G1.out.trans (b2.mono G1.out.size))
  clear o2 b2 E1 F1 G1
  go_wp2_with fail
  refine (specMemJoin_any _ _ _ _ L M _ E2.out F2.out HE.out HF.out).mono ?_
  rintro e w3 ⟨v3, rfl, o3, b3⟩
  rw [HR.out] at o3
  rw [HRB.out]
  obtain ⟨a3, c3, rfl⟩ := own_shape o3
  have X3 := Lib.hid (own_el encEntry_len (by unfold maxLen; omega) (own_below O2.out b3))
  have Y3 := Lib.hid (own_el encEntry_len (by unfold maxLen; omega) o3)
  have E3 := Lib.hid (E2.out.below b3)
  have F3 := Lib.hid (F2.out.below b3)
  have G3 := Lib.hid (G2.out.trans (b3.mono G2.out.size))
  clear o3 b3 E2 F2 G2 O2
  go_wp2_with fail
  refine (wmEnts_any _ _ _ _ R _ (by omega) X3.out Y3.out).mono ?_
  rintro e w4 ⟨rfl, b4⟩
  have X4 := Lib.hid (X3.out.below b4)
  have Y4 := Lib.hid (Y3.out.below b4)
  have E4 := Lib.hid (E3.out.below b4)
  have F4 := Lib.hid (F3.out.below b4)
  have G4 := Lib.hid (G3.out.trans (b4.mono G3.out.size))
  clear b4 X3 Y3 E3 F3 G3
  cases RB with
  | false =>
    go_wp2_with fail
    refine (wmEnts_any _ _ _ _ R _ (by omega) X4.out Y4.out).mono ?_
    rintro e w5 ⟨rfl, b5⟩
    have G5 := Lib.hid (G4.out.trans (b5.mono G4.out.size))
    clear b5
    go_wp2
    go_ret
    exact ⟨rfl, G5.out⟩
  | true =>
    have HXE := Lib.hid (show R = joinE L M by rw [← HR.out]; unfold joinL; rw [HRB.out]; rfl)
    have hpt := HRB.out
    unfold joinOk at hpt
    rw [Bool.and_eq_true, Bool.and_eq_true] at hpt
    have HXO := Lib.hid (show entsB R = true by rw [HXE.out]; exact hpt.2)
    have hg1 : (L.length : Int) ≤ (R.length : Int) := by rw [HXE.out]; have := join_ge M L; omega
    have hg2 : (M.length : Int) ≤ (R.length : Int) := by rw [HXE.out]; have := join_ge2 (L := L) (srt_of hpt.1.2); omega
    have HOK2 := Lib.hid (show joinOk R M = true by
      unfold joinOk
      rw [HXO.out, hpt.1.2, HXE.out, join_twice]
      exact (by rw [← HXE.out, HXO.out]; rfl))
    have HJ2 := Lib.hid (show joinL R M = R by unfold joinL; rw [HOK2.out, if_pos rfl, HXE.out, join_twice])
    have HMem := Lib.hid (show ∀ x ∈ R, x ∈ M ∨ x ∈ L from fun x hx => joinE_mem (by rw [← HXE.out]; exact hx))
    have HRO := Lib.hid (show ∀ x ∈ R, OkEntry x from fun x hx => (HMem.out x hx).elim (HF.out x) (HE.out x))
    clear hpt
    go_wp2
    obtain ⟨wz, hwz⟩ : ∃ W, W = w4 := ⟨_, rfl⟩
    rw [← hwz] at X4 E4 F4 G4 ⊢
    clear hwz Y4
    go_loopg [9, 10, 11, 12] R.length (fun q v9 v10 v11 v12 wr => ∃ i : Nat, i + q = R.length ∧ v9 = .int .i64 i ∧ Below wz.heap.size wz wr)
    case atStart => exact ⟨0, by omega, rfl, Below.refl _ _⟩
    case round =>
      obtain ⟨i, hi, rfl, hbz⟩ := hrel
      have HI := Lib.hid hi
      have BZ := Lib.hid hbz
      clear hi hbz
      by_cases hlt : i < R.length
      · have hR0 : R ≠ [] := fun e => by rw [e] at hlt; simp at hlt
        obtain ⟨bx, ox, rfl, hcx⟩ := X4.out.2.resolve_left hR0
        have KX := Lib.hid (show ∀ W, Below wz.heap.size wz W → _ from fun W hW => cellsEntry hW hcx i hlt)
        obtain ⟨x, hx⟩ : ∃ x, R[i] = x := ⟨_, rfl⟩
        have HIN := Lib.hid (HMem.out x (by rw [← hx]; exact List.getElem_mem _))
        rw [hx] at KX
        have i1 : (i : Int) < (R.length : Int) := by omega
        have i2 : (0 : Int) ≤ (i : Int) := by omega
        clear hx hR0 hcx
        obtain ⟨og, hog⟩ : ∃ og, og = gk := ⟨_, rfl⟩
        have HOG := Lib.hid hog
        clear hog
        go_wp2
        go_loopg [10, 11] L.length (fun q v10 v11 wq => ∃ k : Nat, k + q = L.length ∧ v11 = .int .i64 k ∧ v10 = .bool (fndE (L.take k) x) ∧ Below wz.heap.size wz wq)
        case atStart => exact ⟨0, by omega, rfl, rfl, BZ.out⟩
        case round =>
          clear BZ
          obtain ⟨k, hk, rfl, rfl, hb2⟩ := hrel
          have HK := Lib.hid hk
          have B2 := Lib.hid hb2
          clear hk hb2
          by_cases hkl : k < L.length
          · have hL0 : L ≠ [] := fun e => by rw [e] at hkl; simp at hkl
            obtain ⟨by1, oy, rfl, hcy⟩ := E4.out.2.resolve_left hL0
            obtain ⟨y0, y1, y2, y3⟩ := cellsEntry B2.out hcy k hkl
            obtain ⟨x0, x1, x2, x3⟩ := KX.out _ B2.out
            have hq := eqEnt L[k] x
            have k1 : (k : Int) < (L.length : Int) := by omega
            have k2 : (0 : Int) ≤ (k : Int) := by omega
            have HN := Lib.hid (fnd_next hkl x)
            clear hL0 hcy
            cases hf : fndE (L.take k) x with
            | true =>
              have HN2 := Lib.hid (show fndE (L.take (k + 1)) x = true by rw [HN.out, hf]; rfl)
              clear hf
              go_wp2_with fail
              go_quiet (fail)
              go_wp2
              go_roundg (gk - 1)
              case measure => have := HK.out; omega
              case rel => exact ⟨k + 1, by have := HK.out; omega, by go_num, by rw [HN2.out], below_drewN B2.out nq⟩
            | false =>
              have HN2 := Lib.hid (show fndE (L.take (k + 1)) x = decide (L[k] = x) by rw [HN.out, hf]; rfl)
              clear hf
              obtain ⟨d, hd⟩ : ∃ d, decide (L[k] = x) = d := ⟨_, rfl⟩
              rw [hd] at hq HN2
              clear hd
              go_wp2_with fail
              go_quiet (fail)
              go_wp2
              go_roundg (gk - 1)
              case measure => have := HK.out; omega
              case rel => exact ⟨k + 1, by have := HK.out; omega, by go_num, by rw [HN2.out], below_drewN B2.out nq⟩
          · have hke : k = L.length := by have := HK.out; omega
            have k1 : ¬ (k : Int) < (L.length : Int) := by omega
            obtain ⟨f0, hf0⟩ : ∃ f0, fndE (L.take k) x = f0 := ⟨_, rfl⟩
            have HF0 := Lib.hid (show fndE L x = f0 by rw [← hf0, List.take_of_length_le (by omega)])
            rw [hf0]
            clear hf0 hke
            go_wp2
            go_loopg [10, 12] M.length (fun q v10 v12 wq => ∃ k : Nat, k + q = M.length ∧ v12 = .int .i64 k ∧ v10 = .bool (f0 || fndE (M.take k) x) ∧ Below wz.heap.size wz wq)
            case atStart => exact ⟨0, by omega, rfl, by rw [show fndE (M.take 0) x = false from rfl, Bool.or_false], B2.out⟩
            case round =>
              clear B2
              obtain ⟨k, hk, rfl, rfl, hb2⟩ := hrel
              have HK := Lib.hid hk
              have B2 := Lib.hid hb2
              clear hk hb2
              by_cases hkl : k < M.length
              · have hL0 : M ≠ [] := fun e => by rw [e] at hkl; simp at hkl
                obtain ⟨by1, oy, rfl, hcy⟩ := F4.out.2.resolve_left hL0
                obtain ⟨y0, y1, y2, y3⟩ := cellsEntry B2.out hcy k hkl
                obtain ⟨x0, x1, x2, x3⟩ := KX.out _ B2.out
                have hq := eqEnt M[k] x
                have k1 : (k : Int) < (M.length : Int) := by omega
                have k2 : (0 : Int) ≤ (k : Int) := by omega
                have HN := Lib.hid (fnd_next hkl x)
                clear hL0 hcy
                cases hf : (f0 || fndE (M.take k) x) with
                | true =>
                  have HN2 := Lib.hid (show (f0 || fndE (M.take (k + 1)) x) = true by rw [HN.out, ← Bool.or_assoc, hf]; rfl)
                  clear hf
                  go_wp2_with fail
                  go_quiet (fail)
                  go_wp2
                  go_roundg (gk - 1)
                  case measure => have := HK.out; omega
                  case rel => exact ⟨k + 1, by have := HK.out; omega, by go_num, by rw [HN2.out], below_drewN B2.out nq⟩
                | false =>
                  have HN2 := Lib.hid (show (f0 || fndE (M.take (k + 1)) x) = decide (M[k] = x) by rw [HN.out, ← Bool.or_assoc, hf]; rfl)
                  clear hf
                  obtain ⟨d, hd⟩ : ∃ d, decide (M[k] = x) = d := ⟨_, rfl⟩
                  rw [hd] at hq HN2
                  clear hd
                  go_wp2_with fail
                  go_quiet (fail)
                  go_wp2
                  go_roundg (gk - 1)
                  case measure => have := HK.out; omega
                  case rel => exact ⟨k + 1, by have := HK.out; omega, by go_num, by rw [HN2.out], below_drewN B2.out nq⟩
              · have hke : k = M.length := by have := HK.out; omega
                have k1 : ¬ (k : Int) < (M.length : Int) := by omega
                have HFT := Lib.hid (show (f0 || fndE (M.take k) x) = true by
                  rw [List.take_of_length_le (by omega), ← HF0.out]
                  rcases HIN.out with hq | hq
                  · rw [fnd_mem hq, Bool.or_true]
                  · rw [fnd_mem hq, Bool.true_or])
                rw [HFT.out]
                clear hke
                go_wp2
                go_roundg (og - 1)
                case measure => have := HI.out; have := HOG.out; omega
                case rel => exact ⟨i + 1, by have := HI.out; have := HOG.out; omega, by go_num, B2.out⟩
      · have i1 : ¬ (i : Int) < (R.length : Int) := by omega
        have G5 := Lib.hid (G4.out.trans (BZ.out.mono G4.out.size))
        have X5 := Lib.hid (X4.out.below BZ.out)
        have F5 := Lib.hid (F4.out.below BZ.out)
        clear BZ
        go_wp2_with fail
        refine (implMemJoin_any _ _ _ _ R M _ X5.out F5.out HRO.out HF.out (HT.out.below G5.out)).mono ?_
        rintro e w6 ⟨v6, rfl, o6, b6⟩
        rw [HJ2.out] at o6
        rw [HOK2.out]
        obtain ⟨a6, c6, rfl⟩ := own_shape o6
        have Y6 := Lib.hid (own_el encEntry_len (by unfold maxLen; omega) o6)
        have X6 := Lib.hid (X5.out.below b6)
        have G6 := Lib.hid (G5.out.trans (b6.mono G5.out.size))
        clear o6 b6 X5 F5 G5
        go_wp2_with fail
        refine (implEntries_any _ _ R _ X6.out HRO.out).mono ?_
        rintro e w7 ⟨rfl, b7⟩
        rw [HXO.out]
        have X7 := Lib.hid (X6.out.below b7)
        have Y7 := Lib.hid (Y6.out.below b7)
        have G7 := Lib.hid (G6.out.trans (b7.mono G6.out.size))
        clear b7 X6 Y6 G6
        go_wp2_with fail
        refine (wmEnts_any _ _ _ _ R _ (by omega) Y7.out X7.out).mono ?_
        rintro e w8 ⟨rfl, b8⟩
        have G8 := Lib.hid (G7.out.trans (b8.mono G7.out.size))
        clear b8
        go_wp2
        go_ret
        exact ⟨rfl, G8.out⟩
end Go.Proofs.YteejabpohnfoaaaDoor
