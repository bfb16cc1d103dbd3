import Derived.Test.YtfekpbkcidhbfaaDoorRot
import Derived.Deep.MidRow
import Derived.Handy
import Derived.StillTailTactics
/- The rounds of one block, by the program. -/
namespace Go.Proofs.YtfekpbkcidhbfaaDoor
open Go Go.RowKit

def uvs (l : List W32) : List Value := l.map uv
theorem uvs_len (l : List W32) : (uvs l).length = l.length := by simp [uvs]
def S8.list (s : S8) : List W32 := [s.a, s.b, s.c, s.d, s.e, s.f, s.g, s.h]

theorem run_idx (l : List W32) (hl : l.length = 64) (i : Nat) (hi : i < 64) (W : World) : (Instr.index 105 (.agg (uvs l).toArray) (.int .i64 (i : Int))).run Tryd.prog W = .ok (.int .u32 ((l.getD i 0).toNat : Int)) W := by
  have h2 : (uvs l)[i]? = some (.int .u32 ((l.getD i 0).toNat : Int)) := by
    simp only [uvs, List.getElem?_map, List.getD]
    rw [List.getElem?_eq_getElem (show i < l.length by omega)]
    rfl
  obtain ⟨v, hv⟩ : ∃ v : Value, v = .int .u32 ((l.getD i 0).toNat : Int) := ⟨_, rfl⟩
  rw [← hv] at h2 ⊢
  simp [Instr.index, run_underlying Tryd.underlying105, asIntOf, go_sem, hi, h2]

/-- the first i words have been added -/
def addTo (S T : List W32) (i : Nat) : List W32 := (List.range 8).map fun j => if j < i then S.getD j 0 + T.getD j 0 else S.getD j 0
theorem addTo_get (S T : List W32) (i j : Nat) (h : j < 8) : (uvs (addTo S T i))[j]? = some (uv (if j < i then S.getD j 0 + T.getD j 0 else S.getD j 0)) := by
  simp [uvs, addTo, h]
theorem Box.setH {w : World} {b : Nat} {cs : List Value} (h : Box w b cs) (i : Nat) (v : Value) : Box (w.setCell ⟨b, i, none⟩ v) b (cs.set i v) := by
  intro j u hj
  by_cases e : j = i
  · subst e
    have hl : j < cs.length := by
      have := (List.getElem?_eq_some_iff.1 hj).1
      simpa using this
    rw [List.getElem?_set_self hl] at hj
    cases hj
    obtain ⟨h0, h1⟩ := h j cs[j] (List.getElem?_eq_getElem hl)
    exact ⟨World.cell?_setCell_same' _ _ _ (by rw [h0]; rfl), by rw [World.frozen?_setCell]; exact h1⟩
  · rw [List.getElem?_set_ne (fun q => e q.symm)] at hj
    obtain ⟨h0, h1⟩ := h j u hj
    exact ⟨by rw [World.cell?_setCell_other _ _ _ _ (fun q => e (by simpa using q.symm))]; exact h0, by rw [World.frozen?_setCell]; exact h1⟩
theorem addTo_next (S T : List W32) (i : Nat) (hi : i < 8) : (uvs (addTo S T i)).set i (uv (S.getD i 0 + T.getD i 0)) = uvs (addTo S T (i + 1)) := by
  apply List.ext_getElem?
  intro j
  by_cases hj : j < 8
  · by_cases e : j = i
    · subst e
      rw [List.getElem?_set_self (by simp [uvs, addTo]; omega), addTo_get _ _ _ _ hj]
      simp
    · rw [List.getElem?_set_ne (fun q => e q.symm), addTo_get _ _ _ _ hj, addTo_get _ _ _ _ hj]
      congr 2
      by_cases h1 : j < i
      · rw [if_pos h1, if_pos (by omega)]
      · rw [if_neg h1, if_neg (by omega)]
  · rw [List.getElem?_eq_none (by simp [uvs, addTo]; omega), List.getElem?_eq_none (by simp [uvs, addTo]; omega)]
theorem run_idx8 (l : List Value) (i : Nat) (hi : i < 8) (v : Value) (h2 : l[i]? = some v) (W : World) : (Instr.index 93 (.agg l.toArray) (.int .i64 (i : Int))).run Tryd.prog W = .ok v W := by
  simp [Instr.index, run_underlying Tryd.underlying93, asIntOf, go_sem, hi, h2]

set_option maxRecDepth 100000 in
set_option maxHeartbeats 2000000 in
theorem mix_any (sb : Nat) (s : S8) (ws : List W32) (hw : ws.length = 64) (w : World) (hs : Box w sb (uvs s.list)) (hg : w.rangeAt 3 0 (uvs K64)) :
    Calls Tryd.prog 79 #[.pointer (some ⟨sb, 0, none⟩), .agg (uvs ws).toArray] w fun e w' => e = .returned (.tuple #[]) ∧ Box w' sb (uvs (addS s (rnds ws s 64)).list) ∧ KeptOut (fun b => b = sb) w w' := by
  have hs1 := hs.below (below_alloc w (.cells (uvs ws).toArray 105))
  obtain ⟨a, b, c, d, e, f, g, h⟩ := s
  have x0 : (w.alloc (.cells (uvs ws).toArray 105)).cell? ⟨sb, 0, none⟩ = some (.int .u32 (a.toNat : Int)) := (hs1 0 _ rfl).1
  have x1 : (w.alloc (.cells (uvs ws).toArray 105)).cell? ⟨sb, 1, none⟩ = some (.int .u32 (b.toNat : Int)) := (hs1 1 _ rfl).1
  have x2 : (w.alloc (.cells (uvs ws).toArray 105)).cell? ⟨sb, 2, none⟩ = some (.int .u32 (c.toNat : Int)) := (hs1 2 _ rfl).1
  have x3 : (w.alloc (.cells (uvs ws).toArray 105)).cell? ⟨sb, 3, none⟩ = some (.int .u32 (d.toNat : Int)) := (hs1 3 _ rfl).1
  have x4 : (w.alloc (.cells (uvs ws).toArray 105)).cell? ⟨sb, 4, none⟩ = some (.int .u32 (e.toNat : Int)) := (hs1 4 _ rfl).1
  have x5 : (w.alloc (.cells (uvs ws).toArray 105)).cell? ⟨sb, 5, none⟩ = some (.int .u32 (f.toNat : Int)) := (hs1 5 _ rfl).1
  have x6 : (w.alloc (.cells (uvs ws).toArray 105)).cell? ⟨sb, 6, none⟩ = some (.int .u32 (g.toNat : Int)) := (hs1 6 _ rfl).1
  have x7 : (w.alloc (.cells (uvs ws).toArray 105)).cell? ⟨sb, 7, none⟩ = some (.int .u32 (h.toNat : Int)) := (hs1 7 _ rfl).1
  have hrg : ∀ W : World, Below w.heap.size w W → W.rangeAt 3 0 (uvs K64) := fun W hb j v hv => by
    have h0 := hg j v hv
    rw [hb.cell (by have := World.block_lt_of_cell? w _ h0; simpa using this)]
    exact h0
  have HRG := Lib.hid hrg
  clear hrg
  have f0 : (w.alloc (.cells (uvs ws).toArray 105)).frozen? ⟨sb, 0, none⟩ = false := (hs1 0 _ rfl).2
  have f1 : (w.alloc (.cells (uvs ws).toArray 105)).frozen? ⟨sb, 1, none⟩ = false := (hs1 1 _ rfl).2
  have f2 : (w.alloc (.cells (uvs ws).toArray 105)).frozen? ⟨sb, 2, none⟩ = false := (hs1 2 _ rfl).2
  have f3 : (w.alloc (.cells (uvs ws).toArray 105)).frozen? ⟨sb, 3, none⟩ = false := (hs1 3 _ rfl).2
  have f4 : (w.alloc (.cells (uvs ws).toArray 105)).frozen? ⟨sb, 4, none⟩ = false := (hs1 4 _ rfl).2
  have f5 : (w.alloc (.cells (uvs ws).toArray 105)).frozen? ⟨sb, 5, none⟩ = false := (hs1 5 _ rfl).2
  have f6 : (w.alloc (.cells (uvs ws).toArray 105)).frozen? ⟨sb, 6, none⟩ = false := (hs1 6 _ rfl).2
  have f7 : (w.alloc (.cells (uvs ws).toArray 105)).frozen? ⟨sb, 7, none⟩ = false := (hs1 7 _ rfl).2
  go_enter Tryd.func79, Tryd.ntmps79
  go_wp2
  go_quiet (fail)
  go_wp2
  go_quiet (fail)
  simp only [Exit.then]
  refine ‹∀ (a : Act) (w : World), Code.wp _ _ _ a w → _› _ _ ?_
  repeat (refine wp_seq_k fun K hK => ?_)
  refine wp_region_lit ?_
  refine wpList_load_mid rfl 105 (.global 3) rfl 3 0 (by simp [Act.eval]) (uvs K64) _ (HRG.out _ (by repeat (first | exact below_alloc _ _ | refine belDrewH ?_ _))) Tryd.underlying105 rfl (by kernel_rfl) ?_
  go_wp2
  go_loopw [4, 5, 6, 7, 8, 9, 10, 11, 60] (fun v4 v5 v6 v7 v8 v9 v10 v11 v60 wr => ∃ (i : Nat) (t : S8), i ≤ 64 ∧ v60 = .int .i64 i ∧ t = rnds ws ⟨a, b, c, d, e, f, g, h⟩ i ∧ v4 = .int .u32 (t.a.toNat : Int) ∧ v5 = .int .u32 (t.b.toNat : Int) ∧ v6 = .int .u32 (t.c.toNat : Int) ∧ v7 = .int .u32 (t.d.toNat : Int) ∧ v8 = .int .u32 (t.e.toNat : Int) ∧ v9 = .int .u32 (t.f.toNat : Int) ∧ v10 = .int .u32 (t.g.toNat : Int) ∧ v11 = .int .u32 (t.h.toNat : Int) ∧ ∃ q, wr = (w.alloc (.cells (uvs ws).toArray 105)).drewN q) (fun _ _ _ _ _ _ _ _ v60 _ => 64 - (intOf v60).toNat)
  case atStart => exact ⟨0, ⟨a, b, c, d, e, f, g, h⟩, Nat.zero_le _, rfl, rfl, rfl, rfl, rfl, rfl, rfl, rfl, rfl, rfl, _, rfl⟩
  case round =>
    obtain ⟨i, t, hi, rfl, ht, rfl, rfl, rfl, rfl, rfl, rfl, rfl, rfl, q, rfl⟩ := hrel
    have HT := Lib.hid ht
    clear ht
    obtain ⟨ta, tb, tc, td, te, tf, tg, th⟩ := t
    by_cases hlt : i < 64
    · have hlti : (i : Int) < 64 := by omega
      have hi0 : (0 : Int) ≤ (i : Int) := by omega
      have hki := run_idx K64 rfl i hlt
      have hwi : ∀ n, ((w.alloc (.cells (uvs ws).toArray 105)).drewN n).cell? ⟨w.heap.size, i, none⟩ = some (.int .u32 ((ws.getD i 0).toNat : Int)) := fun n => by
        show (w.alloc (.cells (uvs ws).toArray 105)).cell? ⟨w.heap.size, i, none⟩ = _
        refine (Box.alloc w (uvs ws).toArray 105 i _ ?_).1
        simp only [uvs, List.getElem?_map, List.getD]
        rw [List.getElem?_eq_getElem (show i < ws.length by omega)]
        rfl
      go_wp2_with (go_at_call 93; refine (rot_p _ _ (by decide) _).mono ?_; rintro e w1 ⟨rfl, q1, rfl⟩)
      go_roundw
      case rel =>
        have hwe : ws[i] = ws.getD i 0 := by simp [List.getD, List.getElem?_eq_getElem (show i < ws.length by omega)]
        refine ⟨i + 1, rnd ⟨ta, tb, tc, td, te, tf, tg, th⟩ (K64.getD i 0) (ws.getD i 0), by omega, by go_num, ?_, ?_, rfl, rfl, rfl, ?_, rfl, rfl, rfl, _, rfl⟩
        · show _ = rnd (rnds ws _ i) _ _
          rw [← HT.out]
        · rw [hwe]
          simp only [uv_not', uv_and, uv_xor, uv_add5, uv_addm]
          rfl
        · rw [hwe]
          simp only [uv_not', uv_and, uv_xor, uv_add5, uv_addm]
          rfl
      case measure => simp [intOf]; omega
    · have hix : ∀ j : Nat, j < 8 → ∀ W : World, (Instr.index 93 (.agg #[.int .u32 (ta.toNat : Int), .int .u32 (tb.toNat : Int), .int .u32 (tc.toNat : Int), .int .u32 (td.toNat : Int), .int .u32 (te.toNat : Int), .int .u32 (tf.toNat : Int), .int .u32 (tg.toNat : Int), .int .u32 (th.toNat : Int)]) (.int .i64 (j : Int))).run Tryd.prog W = .ok (.int .u32 (([ta, tb, tc, td, te, tf, tg, th].getD j 0).toNat : Int)) W := fun j hj W =>
        run_idx8 [.int .u32 (ta.toNat : Int), .int .u32 (tb.toNat : Int), .int .u32 (tc.toNat : Int), .int .u32 (td.toNat : Int), .int .u32 (te.toNat : Int), .int .u32 (tf.toNat : Int), .int .u32 (tg.toNat : Int), .int .u32 (th.toNat : Int)] j hj _ (by
          match j, hj with
          | 0, _ | 1, _ | 2, _ | 3, _ | 4, _ | 5, _ | 6, _ | 7, _ => rfl) W
      have HIX := Lib.hid hix
      clear hix
      have HB := Lib.hid (show Box ((w.alloc (.cells (uvs ws).toArray 105)).drewN q) sb (uvs (addTo [a, b, c, d, e, f, g, h] [ta, tb, tc, td, te, tf, tg, th] 0)) from hs1)
      obtain ⟨T, hT⟩ : ∃ T, T = [ta, tb, tc, td, te, tf, tg, th] := ⟨_, rfl⟩
      obtain ⟨S, hS⟩ : ∃ S, S = [a, b, c, d, e, f, g, h] := ⟨_, rfl⟩
      rw [← hT] at HIX HB
      rw [← hS] at HB
      have HTT := Lib.hid hT
      have HSS := Lib.hid hS
      have H64 := Lib.hid (show (⟨ta, tb, tc, td, te, tf, tg, th⟩ : S8) = rnds ws ⟨a, b, c, d, e, f, g, h⟩ 64 by rw [HT.out, show i = 64 by omega])
      clear hT hS
      go_wp2
      go_loopw [133] (fun v wr => ∃ i : Nat, i ≤ 8 ∧ v = .int .i64 i ∧ Box wr sb (uvs (addTo S T i)) ∧ KeptOut (fun b => b = sb) ((w.alloc (.cells (uvs ws).toArray 105)).drewN q) wr) (fun v _ => 8 - (intOf v).toNat)
      case atStart => exact ⟨0, Nat.zero_le _, rfl, HB.out, KeptOut.refl _ _⟩
      case round =>
        obtain ⟨i, hi8, rfl, hbx, hkp⟩ := hrel
        have HX := Lib.hid hbx
        have HP := Lib.hid hkp
        clear hbx hkp
        by_cases hl8 : i < 8
        · have hl8i : (i : Int) < 8 := by omega
          have hl80 : (0 : Int) ≤ (i : Int) := by omega
          have hj := HIX.out i hl8
          have hz : wr.cell? ⟨sb, i, none⟩ = some (.int .u32 ((S.getD i 0).toNat : Int)) ∧ wr.frozen? ⟨sb, i, none⟩ = false := by
            have h0 := addTo_get S T i i hl8
            rw [if_neg (Nat.lt_irrefl i)] at h0
            exact HX.out i _ h0
          obtain ⟨z0, z1⟩ := hz
          obtain ⟨si, hsi⟩ : ∃ si, si = S.getD i 0 := ⟨_, rfl⟩
          obtain ⟨ti, hti⟩ : ∃ ti, ti = T.getD i 0 := ⟨_, rfl⟩
          rw [← hsi] at z0
          rw [← hti] at hj
          have HN := Lib.hid (addTo_next S T i hl8)
          rw [← hsi, ← hti] at HN
          clear hsi hti
          go_wp2
          go_still_tail 11, (by kernel_rfl)
          change wpList _ _ _ _ _ wr.drew
          have y0 : wr.drew.cell? ⟨sb, i, none⟩ = some (.int .u32 (si.toNat : Int)) := z0
          have y1 : wr.drew.frozen? ⟨sb, i, none⟩ = false := z1
          have KD := Lib.hid (show KeptOut (fun b => b = sb) ((w.alloc (.cells (uvs ws).toArray 105)).drewN q) wr.drew from HP.out.trans ⟨rfl, rfl, rfl, Nat.le_refl _, fun _ _ _ => rfl⟩)
          have XD := Lib.hid (show Box wr.drew sb (uvs (addTo S T i)) from HX.out)
          generalize wr.drew = wd at y0 y1 KD XD ⊢
          go_wp2
          go_roundw
          case rel => exact ⟨i + 1, by omega, by go_num, by rw [← HN.out, uv_addm]; exact XD.out.setH i _, KD.out.setCell rfl _⟩
          case measure => simp [intOf]; omega
        · obtain rfl : i = 8 := by omega
          go_wp2
          go_returns
          refine ⟨rfl, ?_, ?_⟩
          · have hx := HX.out
            rw [HTT.out, HSS.out] at hx
            rw [← H64.out]
            exact hx
          · exact (KeptOut.of_below (belDrewH (below_alloc _ _) q)).trans HP.out
end Go.Proofs.YtfekpbkcidhbfaaDoor
