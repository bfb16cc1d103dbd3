import Derived.Test.YtfekpbkcidhbfaaDoorBlock
/- l1Block of the model: a block put into a sum. -/
namespace Go.Proofs.YtfekpbkcidhbfaaDoor
open Go Go.RowKit

theorem turn_q1 (x : W32) (n : Int) (hn : okN n = true) (w : World) (a m : Nat) :
    Calls Tryd.prog 98 #[.int .u32 (x.toNat : Int), .int .i64 n] (w.drewN (a + m)) fun e w'' => e = .returned (.int .u32 ((rotr x n.toNat).toNat : Int)) ∧ ∃ q, w'' = w.drewN (a + q) :=
  quiet_addX (turn_p x n hn _)
theorem WordsS.of {w : World} {base g c n : Nat} {e : TypeId} {l : List W32} (h : w.ownsRow base e 1 (.slice (some ⟨g, 0, none⟩) n c) n (uvs l)) (hl : l.length = n) : WordsS w g 0 l := by
  intro j hj
  rw [Nat.zero_add, h.cellAt j (by omega)]
  simp [uvs, hj]
theorem WordsS.kept {S : Nat → Prop} {w w' : World} {b o : Nat} {l : List W32} (h : WordsS w b o l) (hk : KeptOut S w w') (hs : ¬ S b) : WordsS w' b o l := fun j hj => by
  have h0 := h j hj
  rw [hk.cell (by have := World.block_lt_of_cell? w _ h0; simpa using this) hs]
  exact h0
theorem WordsS.below {w w' : World} {b o : Nat} {l : List W32} (h : WordsS w b o l) (hb : Below w.heap.size w w') : WordsS w' b o l := h.kept (S := fun _ => False) (.of_below hb) (fun h => h)
theorem WordsS.ofM {w : World} {g : Nat} {l : List W32} (h : ∀ j u, (uvs l)[j]? = some u → w.cell? ⟨g, j, none⟩ = some u) : WordsS w g 0 l := by
  intro j hj
  rw [Nat.zero_add]
  exact h j _ (by simp [uvs, hj])
theorem own_addr8 {w : World} {base : Nat} {e : TypeId} {v : Value} {xs : List Value} (h : w.ownsRow base e 1 v 8 xs) : ∃ g c, v = .slice (some ⟨g, 0, none⟩) 8 c := by
  rcases h.2 with ⟨_, hn⟩ | ⟨g, cap, cur, hv, _⟩
  · omega
  · exact ⟨g, cap, hv⟩
theorem one_eq (ta tb tc td te tf tg th kk wk : W32) : (((th.toNat : Int) + bits .xor .u32 (bits .xor .u32 ((rotr te 6).toNat : Int) ((rotr te 11).toNat : Int)) ((rotr te 25).toNat : Int) + bits .xor .u32 (bits .and .u32 (te.toNat : Int) (tf.toNat : Int)) (bits .and .u32 (bits .xor .u32 IntKind.u32.max (te.toNat : Int)) (tg.toNat : Int)) + (kk.toNat : Int)) % 4294967296 + (wk.toNat : Int)) % 4294967296 = ((tOne ⟨ta, tb, tc, td, te, tf, tg, th⟩ kk wk).toNat : Int) := by
  rw [show IntKind.u32.max = 4294967295 from rfl]
  simp only [uv_not, uv_and, uv_xor, uv_add4, uv_addm]
  rfl
theorem sig_eq (ta : W32) : bits .xor .u32 (bits .xor .u32 ((rotr ta 2).toNat : Int) ((rotr ta 13).toNat : Int)) ((rotr ta 22).toNat : Int) = ((big0 ta).toNat : Int) := by
  simp only [uv_xor]; rfl
theorem maj_eq (ta tb tc : W32) : bits .xor .u32 (bits .xor .u32 (bits .and .u32 (ta.toNat : Int) (tb.toNat : Int)) (bits .and .u32 (ta.toNat : Int) (tc.toNat : Int))) (bits .and .u32 (tb.toNat : Int) (tc.toNat : Int)) = ((majW ta tb tc).toNat : Int) := by
  simp only [uv_and, uv_xor]; rfl
theorem add_get (H t : S8) (k : Nat) (h : k < 8) : (addS H t).list.getD k 0 = H.list.getD k 0 + t.list.getD k 0 := by
  match k, h with
  | 0, _ | 1, _ | 2, _ | 3, _ | 4, _ | 5, _ | 6, _ | 7, _ => rfl
theorem OwnsM.mono {w : World} {b b' : Nat} {e : TypeId} {size : Nat} {v : Value} {n : Nat} {xs : List Value} (h : OwnsM w b e size v n xs) (hb : b' ≤ b) : OwnsM w b' e size v n xs :=
  ⟨h.1, h.2.imp id (fun ⟨g, cap, cur, fz, hv, hg, r⟩ => ⟨g, cap, cur, fz, hv, Nat.le_trans hb hg, r⟩)⟩
theorem own_litE (w : World) (e : TypeId) (n : Nat) (h : n = w.heap.size) (base : Nat) (hb : base ≤ w.heap.size) : OwnsM (w.alloc (.cells #[] e)) base e 1 (.slice (some ⟨n, 0, none⟩) 0 0) 0 [] := by
  subst h
  exact .of (World.ownsRow_made w #[] 0 hb (by unfold maxLen; omega) rfl)

set_option maxRecDepth 100000 in
set_option maxHeartbeats 4000000 in
theorem l1Block_any (hb ho0 hc bb bo bc : Nat) (H : S8) (l : List UInt8) (hl : l.length = 64) (w : World) (hh : WordsS w hb ho0 H.list) (hcl : BytesB w bb bo l) :
    Calls Tryd.prog 89 #[.slice (some ⟨hb, ho0, none⟩) 8 hc, .slice (some ⟨bb, bo, none⟩) 64 bc] w (WordsP w (mixS H l).list) := by
  obtain ⟨i0, hi, hz0, hz1, hz2⟩ := info_parts infoU32
  have HH := Lib.hid hh
  have HCL := Lib.hid hcl
  have HL := Lib.hid hl
  clear hh hcl hl
  go_enter Tryd.func89, Tryd.ntmps89
  go_wp2_with fail
  refine (l1Words_any bb bo bc l HL.out _ HCL.out).mono ?_
  rintro e w1 ⟨v1, rfl, o1, b1⟩
  rw [sched_len] at o1
  obtain ⟨gW, cW, rfl, hgW, hgW2, -, -, hcW⟩ := o1.at (by omega)
  have HW1 := Lib.hid (show WordsS w1 gW 0 (sched l 64) from .ofM hcW)
  have B1 := Lib.hid b1
  have z1 := b1.size
  clear o1 hcW b1
  go_wp2_with fail
  refine (l1Consts_any w1).mono ?_
  rintro e w2 ⟨v2, rfl, o2, b2⟩
  have o2' : OwnsM w2 w1.heap.size 92 1 v2 64 (uvs K64) := o2
  clear o2
  obtain ⟨gK, cK, rfl, hgK, hgK2, -, -, hcK⟩ := o2'.at (by omega)
  have HK2 := Lib.hid (show WordsS w2 gK 0 K64 from .ofM hcK)
  have HW2 := Lib.hid (HW1.out.below b2)
  have B2 := Lib.hid (B1.out.trans (b2.mono z1))
  have z2 := b2.size
  have HH2 := Lib.hid (HH.out.below ((B1.out.trans (b2.mono z1))))
  clear o2' hcK b2
  have hhb : hb < w2.heap.size := by have := World.block_lt_of_cell? w2 _ (HH2.out 0 (by show 0 < 8; omega)); simpa using this
  have HSrc := Lib.hid (show SrcS (w2.alloc (.cells #[] 92)) 1 (some ⟨hb, ho0, none⟩) 8 (uvs H.list) from ⟨rfl, .inr ⟨hb, ho0, rfl, fun j u hu => by
    have hj : j < 8 := by have := (List.getElem?_eq_some_iff.1 hu).1; simpa [uvs, S8.list] using this
    have h1 := ((HH2.out.below (below_alloc w2 (.cells #[] 92))) j (by simpa [S8.list] using hj))
    rw [h1, ← hu]
    simp [uvs, List.getElem?_eq_getElem (show j < H.list.length by simpa [S8.list] using hj)]⟩⟩)
  have HOne := Lib.hid (show ∀ u ∈ uvs H.list, u.oneCell' = true from fun u hu => by simp only [uvs, List.mem_map] at hu; obtain ⟨x, _, rfl⟩ := hu; rfl)
  have HMade := Lib.hid (World.ownsRow_made (e := 92) (size := 1) w2 #[] 0 (Nat.le_refl _) (by unfold maxLen; omega) rfl)
  go_wp2_with (at_builtin; refine wpList_append_src _ rfl (.tmp 20) (.tmp 21) 113 rfl w2.heap.size 92 i0 (.int .u32 0) 1 4 Tryd.underlying113 hi hz0 hz1 hz2 rfl (by decide) (.slice (some ⟨w2.heap.size, 0, none⟩) 0 0) 0 [] rfl HMade.out (some ⟨hb, ho0, none⟩) 8 hc (uvs H.list) rfl HSrc.out HOne.out (by unfold maxLen; omega) (by omega) (by simp) ?_; intro v3 w3 o3 g3 at3)
  rw [Nat.zero_add, List.nil_append] at o3
  obtain ⟨gs, cs, rfl⟩ := own_addr8 o3
  have D3 : Below w2.heap.size w2 w3 := (below_alloc w2 _).grown g3 (by simp) (fun k hk => by simp [Value.ownBlock] at hk; omega)
  have hgs : w2.heap.size ≤ gs := (o3.lt gs rfl).1
  have z3 := D3.size
  have HW3 := Lib.hid (HW2.out.below D3)
  have HK3 := Lib.hid (HK2.out.below D3)
  have HH3 := Lib.hid (HH2.out.below D3)
  have B3 := Lib.hid (B2.out.trans (D3.mono (Nat.le_trans (by omega) z2)))
  have O3 := Lib.hid o3
  have HWl := Lib.hid (sched_len l 64)
  clear HW1 HK2 HW2 HH2 B1 B2 HSrc HOne HMade o3 g3 at3 D3
  have HWS := Lib.hid (show mixS H l = addS H (rnds (sched l 64) H 64) from rfl)
  generalize sched l 64 = ws at HW3 HWl HWS
  go_loopg [8] 64 (fun q v8 wr => ∃ (i : Nat) (t : S8), i + q = 64 ∧ Hid (t = rnds ws H i) ∧ v8 = .int .i64 i ∧ wr.ownsRow w2.heap.size 92 1 (.slice (some ⟨gs, 0, none⟩) 8 cs) 8 (uvs t.list) ∧ KeptOut (fun b => b = gs) w3 wr)
  case atStart => exact ⟨0, H, by omega, Lib.hid rfl, rfl, O3.out, KeptOut.refl _ _⟩
  case round =>
    clear O3
    obtain ⟨i, t, hi, HT, rfl, ho, hk⟩ := hrel
    have HO := Lib.hid ho
    have HKP := Lib.hid hk
    have HI := Lib.hid hi
    have hi64 : i ≤ 64 := by omega
    clear ho hk hi
    by_cases hlt : i < 64
    · have hlti : (i : Int) < 64 := by omega
      have hi0 : (0 : Int) ≤ (i : Int) := by omega
      obtain ⟨og, rfl⟩ : ∃ og, og = gk := ⟨_, rfl⟩
      obtain ⟨ta, tb, tc, td, te, tf, tg, th⟩ := t
      have x0 : wr.cell? ⟨gs, 0, none⟩ = some (.int .u32 (ta.toNat : Int)) := HO.out.cellAt 0 (by omega)
      have x1 : wr.cell? ⟨gs, 1, none⟩ = some (.int .u32 (tb.toNat : Int)) := HO.out.cellAt 1 (by omega)
      have x2 : wr.cell? ⟨gs, 2, none⟩ = some (.int .u32 (tc.toNat : Int)) := HO.out.cellAt 2 (by omega)
      have x4 : wr.cell? ⟨gs, 4, none⟩ = some (.int .u32 (te.toNat : Int)) := HO.out.cellAt 4 (by omega)
      have x5 : wr.cell? ⟨gs, 5, none⟩ = some (.int .u32 (tf.toNat : Int)) := HO.out.cellAt 5 (by omega)
      have x6 : wr.cell? ⟨gs, 6, none⟩ = some (.int .u32 (tg.toNat : Int)) := HO.out.cellAt 6 (by omega)
      have x7 : wr.cell? ⟨gs, 7, none⟩ = some (.int .u32 (th.toNat : Int)) := HO.out.cellAt 7 (by omega)
      have yk := (HK3.out.kept HKP.out (by omega)) i (by show i < 64; exact hlt)
      have yw := (HW3.out.kept HKP.out (by omega)) i (by rw [HWl.out]; exact hlt)
      rw [Nat.zero_add] at yk yw
      unfold uv at yk yw
      have EK := Lib.hid (show K64[i]'(by show i < 64; exact hlt) = K64.getD i 0 by simp [List.getD, List.getElem?_eq_getElem (show i < K64.length by show i < 64; exact hlt)])
      have EW := Lib.hid (show ws[i]'(by rw [HWl.out]; exact hlt) = ws.getD i 0 by simp [List.getD, List.getElem?_eq_getElem (show i < ws.length by rw [HWl.out]; exact hlt)])
      rw [EK.out] at yk
      rw [EW.out] at yw
      clear EK EW
      obtain ⟨kk, hkk⟩ : ∃ kk, kk = K64.getD i 0 := ⟨_, rfl⟩
      obtain ⟨wk, hwk⟩ : ∃ wk, wk = ws.getD i 0 := ⟨_, rfl⟩
      rw [← hkk] at yk
      rw [← hwk] at yw
      have HKK := Lib.hid hkk
      have HWK := Lib.hid hwk
      clear hkk hwk
      go_wp2_with fail
      go_quiet ((go_at_call 98; exact turn_q _ _ (by decide) _ _))
      go_wp2_with fail
      go_quiet (fail)
      go_wp2_with fail
      go_quiet (fail)
      go_wp2_with fail
      go_quiet ((go_at_call 98; exact turn_q1 _ _ (by decide) _ _ _))
      go_wp2_with fail
      go_quiet (fail)
      go_wp2_with fail
      rw [one_eq ta tb tc td te tf tg th kk wk, sig_eq ta, maj_eq ta tb tc]
      have HT2 := Lib.hid (show rnds ws H (i + 1) = rnd ⟨ta, tb, tc, td, te, tf, tg, th⟩ kk wk by show rnd (rnds ws H i) _ _ = _; rw [← HT.out, HKK.out, HWK.out])
      have hR := Lib.hid (show rnd ⟨ta, tb, tc, td, te, tf, tg, th⟩ kk wk = ⟨tOne ⟨ta, tb, tc, td, te, tf, tg, th⟩ kk wk + big0 ta + majW ta tb tc, ta, tb, tc, td + tOne ⟨ta, tb, tc, td, te, tf, tg, th⟩ kk wk, te, tf, tg⟩ by unfold rnd tTwo; rw [BitVec.add_assoc])
      generalize tOne ⟨ta, tb, tc, td, te, tf, tg, th⟩ kk wk = A at hR ⊢
      generalize big0 ta = Bg at hR ⊢
      generalize majW ta tb tc = Mj at hR ⊢
      have OD := Lib.hid (show wr.ownsRow w2.heap.size 92 1 (.slice (some ⟨gs, 0, none⟩) 8 cs) 8 (uvs (shiftL [ta, tb, tc, td, te, tf, tg, th] 7)) from HO.out)
      have TL := Lib.hid (show ∃ T, T = [ta, tb, tc, td, te, tf, tg, th] from ⟨_, rfl⟩)
      obtain ⟨T, hT⟩ := TL.out
      rw [← hT] at OD
      have HTT := Lib.hid hT
      clear x0 x1 x2 x4 x5 x6 x7 yk yw hT TL
      go_loopg [14] 7 (fun q v wq => ∃ n : Nat, n = q ∧ n ≤ 7 ∧ v = .int .i64 n ∧ wq.ownsRow w2.heap.size 92 1 (.slice (some ⟨gs, 0, none⟩) 8 cs) 8 (uvs (shiftL T n)) ∧ KeptOut (fun b => b = gs) w3 wq)
      case atStart => exact ⟨7, rfl, by omega, rfl, OD.out, HKP.out.trans ⟨rfl, rfl, rfl, Nat.le_refl _, fun _ _ _ => rfl⟩⟩
      case round =>
        clear OD
        obtain ⟨n, hng, hn7, rfl, ho, hk⟩ := hrel
        have HN := Lib.hid hng
        clear hng
        by_cases hn : 0 < n
        · have hni : (0 : Int) < (n : Int) := by omega
          obtain ⟨m, hm⟩ : ∃ m, m = n - 1 := ⟨_, rfl⟩
          have hmi : (n : Int) - 1 = (m : Int) := by omega
          have hm8 : (m : Int) < 8 := by omega
          have hm0 : (0 : Int) ≤ (m : Int) := by omega
          have hn8 : (n : Int) < 8 := by omega
          have hn0 : (0 : Int) ≤ (n : Int) := by omega
          have y1 : wr.cell? ⟨gs, m, none⟩ = some (.int .u32 ((T.getD m 0).toNat : Int)) := by
            rw [ho.cellAt m (by omega), shiftL_get T n m (by omega), if_neg (by omega)]; rfl
          have y2 : wr.cell? ⟨gs, n, none⟩ = some (uv (T.getD n 0)) := by
            rw [ho.cellAt n (by omega), shiftL_get T n n (by omega), if_neg (by omega)]
          have f2 : wr.frozen? ⟨gs, n, none⟩ = false := ho.frozenAt n
          have ST := ho.stored n (uv (T.getD m 0))
          have S1 := Lib.hid (show (wr.setCell ⟨gs, n, none⟩ (uv (T.getD m 0))).ownsRow w2.heap.size 92 1 (.slice (some ⟨gs, 0, none⟩) 8 cs) 8 (uvs (shiftL T m)) by rw [hm, ← shiftL_next T n hn (by omega), ← hm]; exact ST.1)
          have S2 := Lib.hid (hk.setCell (p := ⟨gs, n, none⟩) rfl (uv (T.getD m 0)))
          have HM := Lib.hid hm
          clear ST ho hk hm
          generalize T.getD m 0 = tm at y1 S1 S2
          unfold uv at S1 S2
          go_wp2
          go_roundg m
          case measure => have := HM.out; have := HN.out; omega
          case rel => exact ⟨m, rfl, by omega, by go_num, S1.out, S2.out⟩
        · obtain rfl : n = 0 := by omega
          have y4 : wr.cell? ⟨gs, 4, none⟩ = some (.int .u32 (td.toNat : Int)) := by
            rw [ho.cellAt 4 (by omega), shiftL_get T 0 4 (by omega), if_pos (by omega), HTT.out]; rfl
          have f4 : wr.frozen? ⟨gs, 4, none⟩ = false := ho.frozenAt 4
          have ST := ho.stored 4 (.int .u32 ((td + A).toNat : Int))
          have y0 : wr.cell? ⟨gs, 0, none⟩ = some (.int .u32 (ta.toNat : Int)) := by
            rw [ho.cellAt 0 (by omega), shiftL_get T 0 0 (by omega), if_neg (by omega), HTT.out]; rfl
          have f0 : wr.frozen? ⟨gs, 0, none⟩ = false := ho.frozenAt 0
          have ST2 := ST.1.stored 0 (.int .u32 ((A + Bg + Mj).toNat : Int))
          have S1 := Lib.hid ST2.1
          have S2 := Lib.hid ((hk.setCell (p := ⟨gs, 4, none⟩) rfl (.int .u32 ((td + A).toNat : Int))).setCell (p := ⟨gs, 0, none⟩) rfl (.int .u32 ((A + Bg + Mj).toNat : Int)))
          have SL := Lib.hid (show ((uvs (shiftL T 0)).set 4 (.int .u32 ((td + A).toNat : Int))).set 0 (.int .u32 ((A + Bg + Mj).toNat : Int)) = uvs (rnd ⟨ta, tb, tc, td, te, tf, tg, th⟩ kk wk).list by rw [hR.out, HTT.out]; rfl)
          have AD := Lib.hid (show ((td.toNat : Int) + (A.toNat : Int)) % 4294967296 = ((td + A).toNat : Int) from uv_addm td A)
          have AM := Lib.hid (show ((A.toNat : Int) + (Bg.toNat : Int) + (Mj.toNat : Int)) % 4294967296 = ((A + Bg + Mj).toNat : Int) from uv_add3 A Bg Mj)
          have AM2 := Lib.hid (show (((A.toNat : Int) + (Bg.toNat : Int)) % 4294967296 + (Mj.toNat : Int)) % 4294967296 = ((A + Bg + Mj).toNat : Int) by rw [uv_addm, uv_addm])
          clear ST ST2 ho hk
          go_wp2
          simp only [AD.out, AM.out]
          go_roundg (og - 1)
          case measure => have := HI.out; omega
          case rel => exact ⟨i + 1, rnd ⟨ta, tb, tc, td, te, tf, tg, th⟩ kk wk, by have := HI.out; omega, Lib.hid HT2.out.symm, by go_num, by rw [← SL.out]; exact S1.out, S2.out⟩
    · obtain rfl : i = 64 := by omega
      have HM := Lib.hid (show mixS H l = addS H t by rw [HWS.out, ← HT.out])
      have BR := Lib.hid (KeptOut.below B3.out (B3.out.size) HKP.out (fun k (e : k = gs) => by omega))
      have HHr := Lib.hid (HH3.out.kept HKP.out (by omega))
      have HTr := Lib.hid (WordsS.of HO.out (by rfl))
      have zr := HKP.out.size
      have hgr : gs < wr.heap.size := (HO.out.lt gs rfl).2
      have AddE := Lib.hid (fun k (h : k < 8) => add_get H t k h)
      have HRl := Lib.hid (show (addS H t).list.length = 8 from rfl)
      clear HO HKP HT HI
      obtain ⟨wo, rfl⟩ : ∃ wo, wo = wr := ⟨_, rfl⟩
      have O0 := Lib.hid (own_litE wo 92 wo.heap.size rfl wo.heap.size (Nat.le_refl _))
      go_wp2
      go_loopg [15, 16] 8 (fun q v v16 wq => ∃ k : Nat, k + q = 8 ∧ v16 = .int .i64 k ∧ OwnsM wq wo.heap.size 92 1 v k (uvs ((addS H t).list.take k)) ∧ Below wo.heap.size wo wq)
      case atStart => exact ⟨0, by omega, rfl, O0.out, below_alloc _ _⟩
      case round =>
        clear O0
        obtain ⟨k, hk, rfl, ho, hbel⟩ := hrel
        obtain ⟨a, c, rfl⟩ := ho.shp
        have HO := Lib.hid ho
        have HB := Lib.hid hbel
        have hbz := hbel.size
        have HK := Lib.hid hk
        have hk8 : k ≤ 8 := by omega
        clear ho hbel hk
        by_cases hlt : k < 8
        · have hki : (k : Int) < 8 := by omega
          have hk0 : (0 : Int) ≤ (k : Int) := by omega
          have yh := (HHr.out.below HB.out) k (by show k < 8; exact hlt)
          have ys := (HTr.out.below HB.out) k (by show k < 8; exact hlt)
          rw [Nat.zero_add] at ys
          unfold uv at yh ys
          have EH := Lib.hid (show H.list[k]'(by show k < 8; exact hlt) = H.list.getD k 0 by simp [List.getD, List.getElem?_eq_getElem (show k < H.list.length by show k < 8; exact hlt)])
          have ET := Lib.hid (show t.list[k]'(by show k < 8; exact hlt) = t.list.getD k 0 by simp [List.getD, List.getElem?_eq_getElem (show k < t.list.length by show k < 8; exact hlt)])
          rw [EH.out] at yh
          rw [ET.out] at ys
          clear EH ET
          have HA := Lib.hid (AddE.out k hlt)
          have HT1 := Lib.hid (show (addS H t).list.take (k + 1) = (addS H t).list.take k ++ [(addS H t).list.getD k 0] by
            rw [List.take_succ_eq_append_getElem (show k < (addS H t).list.length by rw [HRl.out]; exact hlt)]
            simp [List.getD, List.getElem?_eq_getElem (show k < (addS H t).list.length by rw [HRl.out]; exact hlt)])
          generalize H.list.getD k 0 = hx at yh HA
          generalize t.list.getD k 0 = tx at ys HA
          have HV := Lib.hid (show IntKind.u32.wrap ((hx.toNat : Int) + (tx.toNat : Int)) = (((addS H t).list.getD k 0).toNat : Int) by rw [uv_add, HA.out])
          have hbw : hb < wo.heap.size := by omega
          go_wp2
          refine wp_region_held_drew (S := fun W => W.cell? ⟨hb, ho0 + k, none⟩ = some (.int .u32 (hx.toNat : Int)) ∧ W.cell? ⟨gs, k, none⟩ = some (.int .u32 (tx.toNat : Int))) (by kernel_rfl) (⟨yh, ys⟩) (fun hHeld => ?_)
          refine wpAnyH_take (i := 0) (oi := { dst := some 142, op := Op.move (Operand.tmp 15), type := 113, pos := "l1_hash.go:88", after := _, guard := none }) (v := ?_) rfl (by kernel_rfl) (by kernel_rfl) (by kernel_rfl) (fun _ _ _ h => h) (Or.inl ⟨by rfl, ?_⟩) (by assumption) ?_
          rotate_left
          · (intro w hSw; (try dsimp only at hSw); go_simp; (try with_reducible rfl))
          simp only [Act.put, List.setIfInBounds_toArray, List.set_cons_zero, List.set_cons_succ]
          refine wpAnyH_take (i := 1) (oi := { dst := some 143, op := Op.move (Operand.tmp 0), type := 113, pos := "l1_hash.go:88", after := _, guard := none }) (v := ?_) rfl (by kernel_rfl) (by kernel_rfl) (by kernel_rfl) (fun _ _ _ h => h) (Or.inl ⟨by rfl, ?_⟩) (by assumption) ?_
          rotate_left
          · (intro w hSw; (try dsimp only at hSw); go_simp; (try with_reducible rfl))
          simp only [Act.put, List.setIfInBounds_toArray, List.set_cons_zero, List.set_cons_succ]
          refine wpAnyH_take (i := 2) (oi := { dst := some 144, op := Op.move (Operand.tmp 16), type := 3, pos := "l1_hash.go:88", after := _, guard := none }) (v := ?_) rfl (by kernel_rfl) (by kernel_rfl) (by kernel_rfl) (fun _ _ _ h => h) (Or.inl ⟨by rfl, ?_⟩) (by assumption) ?_
          rotate_left
          · (intro w hSw; (try dsimp only at hSw); go_simp; (try with_reducible rfl))
          simp only [Act.put, List.setIfInBounds_toArray, List.set_cons_zero, List.set_cons_succ]
          refine wpAnyH_take (i := 3) (oi := { dst := some 145, op := Op.indexAddr 113 (Operand.tmp 143) (Operand.tmp 144), type := 0, pos := "l1_hash.go:88", after := _, guard := none }) (v := ?_) rfl (by kernel_rfl) (by kernel_rfl) (by kernel_rfl) (fun _ _ _ h => h) (Or.inl ⟨by rfl, ?_⟩) (by assumption) ?_
          rotate_left
          · (intro w hSw; (try dsimp only at hSw); go_simp; (try with_reducible rfl))
          simp only [Act.put, List.setIfInBounds_toArray, List.set_cons_zero, List.set_cons_succ]
          refine wpAnyH_take (i := 4) (oi := { dst := some 146, op := Op.load 92 (Operand.tmp 145), type := 92, pos := "l1_hash.go:88", after := _, guard := none }) (v := ?_) rfl (by kernel_rfl) (by kernel_rfl) (by kernel_rfl) (fun _ _ _ h => h) (Or.inl ⟨by rfl, ?_⟩) (by assumption) ?_
          rotate_left
          · (intro w hSw; (try dsimp only at hSw); go_simp; (try with_reducible rfl))
          simp only [Act.put, List.setIfInBounds_toArray, List.set_cons_zero, List.set_cons_succ]
          refine wpAnyH_take (i := 5) (oi := { dst := some 147, op := Op.move (Operand.tmp 7), type := 113, pos := "l1_hash.go:88", after := _, guard := none }) (v := ?_) rfl (by kernel_rfl) (by kernel_rfl) (by kernel_rfl) (fun _ _ _ h => h) (Or.inl ⟨by rfl, ?_⟩) (by assumption) ?_
          rotate_left
          · (intro w hSw; (try dsimp only at hSw); go_simp; (try with_reducible rfl))
          simp only [Act.put, List.setIfInBounds_toArray, List.set_cons_zero, List.set_cons_succ]
          refine wpAnyH_take (i := 6) (oi := { dst := some 148, op := Op.move (Operand.tmp 16), type := 3, pos := "l1_hash.go:88", after := _, guard := none }) (v := ?_) rfl (by kernel_rfl) (by kernel_rfl) (by kernel_rfl) (fun _ _ _ h => h) (Or.inl ⟨by rfl, ?_⟩) (by assumption) ?_
          rotate_left
          · (intro w hSw; (try dsimp only at hSw); go_simp; (try with_reducible rfl))
          simp only [Act.put, List.setIfInBounds_toArray, List.set_cons_zero, List.set_cons_succ]
          refine wpAnyH_take (i := 7) (oi := { dst := some 149, op := Op.indexAddr 113 (Operand.tmp 147) (Operand.tmp 148), type := 0, pos := "l1_hash.go:88", after := _, guard := none }) (v := ?_) rfl (by kernel_rfl) (by kernel_rfl) (by kernel_rfl) (fun _ _ _ h => h) (Or.inl ⟨by rfl, ?_⟩) (by assumption) ?_
          rotate_left
          · (intro w hSw; (try dsimp only at hSw); go_simp; (try with_reducible rfl))
          simp only [Act.put, List.setIfInBounds_toArray, List.set_cons_zero, List.set_cons_succ]
          refine wpAnyH_take (i := 8) (oi := { dst := some 150, op := Op.load 92 (Operand.tmp 149), type := 92, pos := "l1_hash.go:88", after := _, guard := none }) (v := ?_) rfl (by kernel_rfl) (by kernel_rfl) (by kernel_rfl) (fun _ _ _ h => h) (Or.inl ⟨by rfl, ?_⟩) (by assumption) ?_
          rotate_left
          · (intro w hSw; (try dsimp only at hSw); go_simp; (try with_reducible rfl))
          simp only [Act.put, List.setIfInBounds_toArray, List.set_cons_zero, List.set_cons_succ]
          refine wpAnyH_take (i := 9) (oi := { dst := some 151, op := Op.binOp BinOp.add 92 (Operand.tmp 146) (Operand.tmp 150) 92, type := 92, pos := "l1_hash.go:88", after := _, guard := none }) (v := ?_) rfl (by kernel_rfl) (by kernel_rfl) (by kernel_rfl) (fun _ _ _ h => h) (Or.inl ⟨by rfl, ?_⟩) (by assumption) ?_
          rotate_left
          · (intro w hSw; (try dsimp only at hSw); go_simp; (try with_reducible rfl))
          simp only [Act.put, List.setIfInBounds_toArray, List.set_cons_zero, List.set_cons_succ]
          rw [HV.out]
          refine wpAnyH_ready (rs := [10]) (by kernel_rfl) (by simp) ?_
          refine AllReadyH.cons (o := { dst := some 152, op := Op.buildSlice 113 1 #[(0, Operand.tmp 151)], type := 113, pos := "l1_hash.go:88", after := _, guard := none }) rfl (fun K hK => ?_) AllReadyH.nil
          go_simp
          refine hK.out _ _ ?_ (fun hHeld => ?_)
          · exact ⟨cell_bel (bel_d _ _) yh, cell_bel (bel_d _ _) ys⟩
          clear hK K
          (try simp only [Act.put, List.setIfInBounds_toArray, List.set_cons_zero, List.set_cons_succ])
          refine wpAnyH_ready (rs := [11]) (by kernel_rfl) (by simp) ?_
          refine AllReadyH.cons (o := { dst := some 153, op := Op.call { callee := Callee.builtin Builtin.append, args := #[Operand.tmp 142, Operand.tmp 152], argTypes := #[113, 113] }, type := 113, pos := "l1_hash.go:88", after := _, guard := none }) rfl (fun K hK => ?_) AllReadyH.nil
          refine step_append_ownM _ rfl (.tmp 142) (.tmp 152) 113 rfl wo.heap.size 92 i0 (.int .u32 0) 1 4 Tryd.underlying113 hi hz0 hz1 hz2 rfl (by decide) (.slice a k c) k (uvs ((addS H t).list.take k)) rfl ((HO.out.alloc _).below ((Below.refl _ _).drew)) ⟨wr.heap.size, 0, none⟩ 1 1 [uv ((addS H t).list.getD k 0)] rfl rfl (cells_one _ _ _) (fun u hu => by simp at hu; subst hu; rfl) (by unfold maxLen; omega) (by omega) (by simp; omega) ?_
          intro v2 w2' o2 g2 _
          have hC2 : Below wo.heap.size wo w2' := ((HB.out.alloc hbz _).drew).grown g2 (by simp; omega) (fun q hq => (HO.out.lt q hq).1)
          have B2' := Lib.hid hC2
          have O2 := Lib.hid (ownsM_cast (m := k + 1) (ys := uvs ((addS H t).list.take (k + 1))) o2 rfl (by rw [HT1.out, uvs_snoc]))
          clear o2 g2
          refine hK.out _ _ ?_ (fun hHeld => ?_)
          · exact ⟨cell_two HB.out B2'.out hbw yh, cell_two HB.out B2'.out hgr ys⟩
          clear hK K
          (try simp only [Act.put, List.setIfInBounds_toArray, List.set_cons_zero, List.set_cons_succ])
          refine wpAnyH_take (i := 12) (oi := { dst := some 15, op := Op.assign (Operand.tmp 153), type := 113, pos := "l1_hash.go:88", after := _, guard := none }) (v := ?_) rfl (by kernel_rfl) (by kernel_rfl) (by kernel_rfl) (fun _ _ _ h => h) (Or.inl ⟨by rfl, ?_⟩) (by assumption) ?_
          rotate_left
          · (intro w hSw; (try dsimp only at hSw); go_simp; (try with_reducible rfl))
          simp only [Act.put, List.setIfInBounds_toArray, List.set_cons_zero, List.set_cons_succ]
          refine wpAnyH_done (by kernel_rfl) ?_ _
          clear hHeld
          go_wp2
          go_roundg (gk - 1)
          case measure => have := HK.out; omega
          case rel => exact ⟨k + 1, by have := HK.out; omega, by go_num, O2.out, B2'.out⟩
        · obtain rfl : k = 8 := by omega
          have HE := Lib.hid (show (addS H t).list.take 8 = (mixS H l).list by rw [HM.out]; exact List.take_of_length_le (by rw [HRl.out]; exact Nat.le_refl _))
          go_wp2
          go_ret
          refine ⟨_, rfl, ?_, BR.out.trans (HB.out.mono BR.out.size)⟩
          exact ownsM_cast (HO.out.mono BR.out.size) rfl (by rw [HE.out])
end Go.Proofs.YtfekpbkcidhbfaaDoor
