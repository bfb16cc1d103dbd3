import Derived.Test.YteejabpohnfoaaaDoorSkipP
import Derived.Test.YteejabpohnfoaaaDoorEntsI
import Derived.Test.YteejabpohnfoaaaDoorKept
import Derived.Deep.LoopGhost
/- Linked entries: the last node ahead of an entry's place, at each height. -/
namespace Go.Proofs.YteejabpohnfoaaaDoor
open Go Go.RowKit

def LastOf (P : List Nd) (l q : Nat) : Prop := ∃ A n R, P = A ++ n :: R ∧ n.1 = q ∧ l < n.2.2 ∧ ∀ x ∈ R, lvl l x = false
set_option maxRecDepth 100000 in
set_option maxHeartbeats 2000000 in
theorem ahead_any (hb : Nat) (z : EntryD) (S1 C : List Nd) (x0 : ByteArray) (x1 : Int) (x2 : Bool) (x3 : ByteArray) (w : World) (hS : Skip w (((hb, z, 4) :: S1) ++ C)) (h1 : ∀ n ∈ S1, lessB n.2.1 (x0, x1, x2, x3) = true) (h2 : ∀ n ∈ C, lessB n.2.1 (x0, x1, x2, x3) = false) :
    Calls Tryd.prog 51 #[.pointer (some ⟨hb, 0, none⟩), .agg #[.string x0, .int .i64 x1, .bool x2, .string x3]] w fun en w' => ∃ q0 q1 q2 q3, en = .returned (.agg #[.pointer (some ⟨q0, 0, none⟩), .pointer (some ⟨q1, 0, none⟩), .pointer (some ⟨q2, 0, none⟩), .pointer (some ⟨q3, 0, none⟩)]) ∧ LastOf ((hb, z, 4) :: S1) 0 q0 ∧ LastOf ((hb, z, 4) :: S1) 1 q1 ∧ LastOf ((hb, z, 4) :: S1) 2 q2 ∧ LastOf ((hb, z, 4) :: S1) 3 q3 ∧ Below w.heap.size w w' := by
  have HS := Lib.hid hS
  clear hS
  obtain ⟨w3, hw3⟩ : ∃ W, ((w.alloc (.cells #[.string x0, .int .i64 x1, .bool x2, .string x3] 31)).alloc (.cells #[.pointer none, .pointer none, .pointer none, .pointer none] 74)).alloc (.cells #[.pointer none, .pointer none, .pointer none, .pointer none] 74) = W := ⟨_, rfl⟩
  have BX := Lib.hid (show Box w3 w.heap.size [.string x0, .int .i64 x1, .bool x2, .string x3] by rw [← hw3]; exact ((Box.alloc w #[.string x0, .int .i64 x1, .bool x2, .string x3] 31).below (below_alloc _ _)).below (below_alloc _ _))
  have BR := Lib.hid (show Box w3 (w.heap.size + 1) [.pointer none, .pointer none, .pointer none, .pointer none] by
    have h := (Box.alloc (w.alloc (.cells #[.string x0, .int .i64 x1, .bool x2, .string x3] 31)) #[.pointer none, .pointer none, .pointer none, .pointer none] 74).below (below_alloc _ (.cells #[.pointer none, .pointer none, .pointer none, .pointer none] 74))
    rw [World.size_alloc] at h
    rw [← hw3]; exact h)
  have BL := Lib.hid (show Box w3 (w.heap.size + 1 + 1) [.pointer none, .pointer none, .pointer none, .pointer none] by
    have h := Box.alloc ((w.alloc (.cells #[.string x0, .int .i64 x1, .bool x2, .string x3] 31)).alloc (.cells #[.pointer none, .pointer none, .pointer none, .pointer none] 74)) #[.pointer none, .pointer none, .pointer none, .pointer none] 74
    rw [World.size_alloc, World.size_alloc] at h
    rw [← hw3]; exact h)
  have B3 := Lib.hid (show Below w.heap.size w w3 by rw [← hw3]; exact (((below_alloc w _).alloc (by simp) _).alloc (by simp; omega) _))
  have HS3 := Lib.hid (HS.out.below B3.out)
  have z3 : w3.heap.size = w.heap.size + 3 := by rw [← hw3]; simp
  have HNL := Lib.hid (show ∀ n ∈ ((hb, z, 4) :: S1) ++ C, n.1 < w.heap.size from HS.out.lt)
  have H1 := Lib.hid h1
  have H2 := Lib.hid h2
  have Z3 := Lib.hid z3
  clear HS h1 h2 z3
  go_enter Tryd.func51, Tryd.ntmps51
  go_wp2
  clear hw3
  go_loopg [6, 7] 4 (fun q v6 v7 wr => ∃ (A : List Nd) (n : Nd) (R : List Nd) (cs : List Value) (m : Int), (hb, z, 4) :: S1 = A ++ n :: R ∧ v6 = .pointer (some ⟨n.1, 0, none⟩) ∧ m + 1 = q ∧ q ≤ 4 ∧ v7 = .int .i64 m ∧ q ≤ n.2.2 ∧ Box wr w.heap.size [.string x0, .int .i64 x1, .bool x2, .string x3] ∧ Box wr (w.heap.size + 1) [.pointer none, .pointer none, .pointer none, .pointer none] ∧ Box wr (w.heap.size + 1 + 1) cs ∧ cs.length = 4 ∧ (∀ l, q ≤ l → l < 4 → ∃ q', cs[l]? = some (.pointer (some ⟨q', 0, none⟩)) ∧ LastOf ((hb, z, 4) :: S1) l q') ∧ Skip wr (((hb, z, 4) :: S1) ++ C) ∧ Below w.heap.size w wr)
  case atStart => exact ⟨[], (hb, z, 4), S1, _, 3, rfl, rfl, by decide, by decide, rfl, Nat.le_refl _, BX.out, BR.out, BL.out, rfl, fun l h h' => by omega, HS3.out, B3.out⟩
  case round =>
    clear BX BR BL B3 HS3
    obtain ⟨A, n, R, cs, m, hP, rfl, hmq, hq4, rfl, hqn, bx, br, bl, hcl, hcs, hsk, hbel⟩ := hrel
    have HPA := Lib.hid hP
    have HMQ := Lib.hid hmq
    have BX := Lib.hid bx
    have BR := Lib.hid br
    have BL := Lib.hid bl
    have HCL := Lib.hid hcl
    have HCS := Lib.hid hcs
    have HSK := Lib.hid hsk
    have HB := Lib.hid hbel
    have HQN := Lib.hid hqn
    clear hP hmq bx br bl hcl hcs hsk hbel hqn
    by_cases hm0 : 0 ≤ m
    · obtain ⟨l, rfl⟩ : ∃ l : Nat, m = (l : Int) := ⟨m.toNat, by omega⟩
      have hl4 : (l : Int) < 4 := by have := HMQ.out; omega
      have hl0 : (0 : Int) ≤ (l : Int) := by omega
      have HL := Lib.hid (show gk = l + 1 by have := HMQ.out; omega)
      obtain ⟨og, hog⟩ : ∃ og, og = gk := ⟨_, rfl⟩
      have HOG := Lib.hid hog
      clear hog hq4
      go_wp2
      go_loopg [6] (R.length + 1) (fun q v6 wq => ∃ (A : List Nd) (n : Nd) (R : List Nd), (hb, z, 4) :: S1 = A ++ n :: R ∧ v6 = .pointer (some ⟨n.1, 0, none⟩) ∧ l < n.2.2 ∧ R.length < q ∧ Below wr.heap.size wr wq)
      case atStart => exact ⟨A, n, R, HPA.out, rfl, by have := HQN.out; have := HL.out; omega, Nat.lt_succ_self _, Below.refl _ _⟩
      case round =>
        clear HPA
        obtain ⟨A, n, R, hP, rfl, hln, hRq, hb2⟩ := hrel
        have HPA := Lib.hid hP
        have HRQ := Lib.hid hRq
        have HLN := Lib.hid hln
        have B2 := Lib.hid hb2
        have SK2 := Lib.hid (HSK.out.below hb2)
        have BXq := Lib.hid (BX.out.below hb2)
        have nd := Skip.at (show Skip _ (A ++ n :: (R ++ C)) by have h := SK2.out; rw [HPA.out, List.append_assoc] at h; exact h)
        have c0 := (nd (4 + l) _ (nodeC_get (by omega))).1
        rw [show nx n.2.2 l (R ++ C) = nxt l (R ++ C) by unfold nx; rw [if_pos hln]] at c0
        clear hP hRq hb2 nd hln
        have fL : ∃ c, cs[l]? = some c := ⟨_, List.getElem?_eq_getElem (by rw [HCL.out]; omega)⟩
        obtain ⟨cl, hcl⟩ := fL
        have BLq := Lib.hid (BL.out.below B2.out)
        have BRq := Lib.hid (BR.out.below B2.out)
        have HBq := Lib.hid (HB.out.trans (B2.out.mono HB.out.size))
        cases hf : R.find? (lvl l) with
        | some m =>
          obtain ⟨hm1, X, Y, hR, hX⟩ := List.find?_eq_some_iff_append.1 hf
          rw [show nxt l (R ++ C) = .pointer (some ⟨m.1, 0, none⟩) by unfold nxt; rw [List.find?_append, hf]; rfl] at c0
          have hin : m ∈ S1 := by
            have h := HPA.out
            rw [hR] at h
            cases A with
            | nil =>
              simp only [List.nil_append, List.cons.injEq] at h
              rw [h.2]
              simp
            | cons a A =>
              simp only [List.cons_append, List.cons.injEq] at h
              rw [h.2]
              simp
          have hle := H1.out m hin
          have bm := Skip.at (show Skip _ ((A ++ n :: X) ++ m :: (Y ++ C)) by have h := SK2.out; rw [HPA.out, hR] at h; simpa using h)
          have HM := Lib.hid (show (hb, z, 4) :: S1 = (A ++ n :: X) ++ m :: Y by rw [HPA.out, hR]; simp)
          have HYR := Lib.hid (show Y.length < R.length by rw [hR]; simp; omega)
          have HM1 := Lib.hid (show l < m.2.2 from of_decide_eq_true hm1)
          obtain ⟨mb, ⟨m0, m1, m2, m3⟩, mh⟩ := m
          dsimp only at c0 bm hle HM1
          have HO := Lib.hid (ordI_lt hle)
          clear hf hm1 hR hX hin hle
          obtain ⟨ig, hig⟩ : ∃ ig, ig = gk := ⟨_, rfl⟩
          have HIG := Lib.hid hig
          rw [← hig] at HRQ
          clear hig
          have KS := Lib.hid (show ∀ W, Below wr.heap.size wr W → Below wr.heap.size wr W ∧ W.cell? ⟨n.1, 4 + l, none⟩ = some (.pointer (some ⟨mb, 0, none⟩)) ∧ (W.cell? ⟨mb, 0, none⟩ = some (.string m0) ∧ W.cell? ⟨mb, 1, none⟩ = some (.int .i64 m1) ∧ W.cell? ⟨mb, 2, none⟩ = some (.bool m2) ∧ W.cell? ⟨mb, 3, none⟩ = some (.string m3)) ∧ W.cell? ⟨w.heap.size, 0, none⟩ = some (.string x0) ∧ W.cell? ⟨w.heap.size, 1, none⟩ = some (.int .i64 x1) ∧ W.cell? ⟨w.heap.size, 2, none⟩ = some (.bool x2) ∧ W.cell? ⟨w.heap.size, 3, none⟩ = some (.string x3) from fun W hb => by
            have q0 := (hb.cell (p := ⟨n.1, 4 + l, none⟩) (by have := World.block_lt_of_cell? wr _ c0; simpa using this)).trans c0
            have qm := bm.below hb
            have qx := BXq.out.below hb
            exact ⟨hb, q0, ⟨(qm 0 _ rfl).1, (qm 1 _ rfl).1, (qm 2 _ rfl).1, (qm 3 _ rfl).1⟩, (qx 0 _ rfl).1, (qx 1 _ rfl).1, (qx 2 _ rfl).1, (qx 3 _ rfl).1⟩)
          clear c0 bm
          obtain ⟨o, ho⟩ : ∃ o, ordI (m0, m1, m2, m3) (x0, x1, x2, x3) = o := ⟨_, rfl⟩
          rw [ho] at HO
          have HOO := Lib.hid ho
          have ho0 := HO.out
          clear ho
          go_wp2_with fail
          go_region_held3 (fun W => Below wr.heap.size wr W ∧ W.cell? ⟨n.1, 4 + l, none⟩ = some (.pointer (some ⟨mb, 0, none⟩)) ∧ (W.cell? ⟨mb, 0, none⟩ = some (.string m0) ∧ W.cell? ⟨mb, 1, none⟩ = some (.int .i64 m1) ∧ W.cell? ⟨mb, 2, none⟩ = some (.bool m2) ∧ W.cell? ⟨mb, 3, none⟩ = some (.string m3)) ∧ W.cell? ⟨w.heap.size, 0, none⟩ = some (.string x0) ∧ W.cell? ⟨w.heap.size, 1, none⟩ = some (.int .i64 x1) ∧ W.cell? ⟨w.heap.size, 2, none⟩ = some (.bool x2) ∧ W.cell? ⟨w.heap.size, 3, none⟩ = some (.string x3))
            (first | exact KS.out _ (Below.refl _ _).drew | exact KS.out _ (((Below.refl _ _).drew).trans b4))
            (first
              | (go_at_call 41; refine (order_any _ _ _ _ _ _ _ _ _).mono ?_; rintro e w4 ⟨rfl, b4⟩; rw [HOO.out]))
          rename_i hH
          obtain ⟨hbw, c0, ⟨c1, c2, c3, c4⟩, d1, d2, d3, d4⟩ := hH
          have B4 := Lib.hid hbw
          clear hbw
          go_wp2
          go_roundg (ig - 1)
          case measure => have := HIG.out; have := HRQ.out; omega
          case rel => exact ⟨A ++ n :: X, (mb, (m0, m1, m2, m3), mh), Y, HM.out, rfl, HM1.out, by have := HRQ.out; have := HYR.out; omega, B2.out.trans (B4.out.mono B2.out.size)⟩
        | none =>
          rw [nxt_skip (fun x hx => by have := List.find?_eq_none.1 hf x hx; simpa using this)] at c0
          have HLast := Lib.hid (show LastOf ((hb, z, 4) :: S1) l n.1 from ⟨A, n, R, HPA.out, rfl, HLN.out, fun x hx => by have := List.find?_eq_none.1 hf x hx; simpa using this⟩)
          clear hf
          cases hg : C.find? (lvl l) with
          | none =>
            rw [show nxt l C = .pointer none by unfold nxt; rw [hg]; rfl] at c0
            clear hg
            go_wp2_with fail
            go_quiet (fail)
            have BLs := BLq.out.below (Below.refl _ _)
            have BXs := Lib.hid (BXq.out.below (Below.refl _ _))
            have BRs := Lib.hid (BRq.out.below (Below.refl _ _))
            have SKs := Lib.hid (SK2.out.below (Below.refl _ _))
            have Bs := Lib.hid ((HBq.out).trans ((Below.refl _ _).mono HBq.out.size))
            have BLS := Lib.hid BLs
            obtain ⟨st, sf⟩ := BLs l _ hcl
            clear BLs
            go_wp2
            go_roundg (og - 1)
            case measure => have := HL.out; have := HOG.out; omega
            case rel =>
              have e1 := HL.out
              have e2 := HOG.out
              refine ⟨A, n, R, cs.set l (.pointer (some ⟨n.1, 0, none⟩)), (l : Int) - 1, HPA.out, rfl, by omega, by omega, rfl, by have := HLN.out; omega, Box.otherN _ BXs.out (by show w.heap.size + 1 + 1 ≠ w.heap.size; omega), Box.otherN _ BRs.out (by show w.heap.size + 1 + 1 ≠ w.heap.size + 1; omega), Box.setN _ BLS.out (by rw [HCL.out]; omega), by rw [List.length_set]; exact HCL.out, fun l' h1' h2' => ?_, Skip.kept (show Skip (wr.drewN nq) (((hb, z, 4) :: S1) ++ C) from SKs.out) ((KeptOut.refl (fun b => b = w.heap.size + 1 + 1) (wr.drewN nq)).setCell (p := ⟨w.heap.size + 1 + 1, l, none⟩) rfl _) (fun x hx e => by have := HNL.out x hx; omega), (show Below w.heap.size w (wr.drewN nq) from Bs.out.trans ⟨rfl, rfl, rfl, Nat.le_refl _, fun _ _ => rfl⟩).setCell (p := ⟨w.heap.size + 1 + 1, l, none⟩) (by show w.heap.size ≤ w.heap.size + 1 + 1; omega) _⟩
              by_cases e : l' = l
              · subst e
                exact ⟨n.1, by rw [List.getElem?_set_self (by rw [HCL.out]; omega)], HLast.out⟩
              · rw [List.getElem?_set_ne (fun q => e q.symm)]
                exact HCS.out l' (by omega) h2'
          | some m =>
            obtain ⟨hm1, X, Y, hR, hX⟩ := List.find?_eq_some_iff_append.1 hg
            rw [show nxt l C = .pointer (some ⟨m.1, 0, none⟩) by unfold nxt; rw [hg]; rfl] at c0
            have hle := H2.out m (by rw [hR]; simp)
            have bm := Skip.at (show Skip _ ((A ++ n :: (R ++ X)) ++ m :: Y) by have h := SK2.out; rw [HPA.out, hR] at h; simpa using h)
            obtain ⟨mb, ⟨m0, m1, m2, m3⟩, mh⟩ := m
            dsimp only at c0 bm hle
            have HO := Lib.hid (ordI_ge hle)
            clear hg hm1 hR hX hle
            have KS := Lib.hid (show ∀ W, Below wr.heap.size wr W → Below wr.heap.size wr W ∧ W.cell? ⟨n.1, 4 + l, none⟩ = some (.pointer (some ⟨mb, 0, none⟩)) ∧ (W.cell? ⟨mb, 0, none⟩ = some (.string m0) ∧ W.cell? ⟨mb, 1, none⟩ = some (.int .i64 m1) ∧ W.cell? ⟨mb, 2, none⟩ = some (.bool m2) ∧ W.cell? ⟨mb, 3, none⟩ = some (.string m3)) ∧ W.cell? ⟨w.heap.size, 0, none⟩ = some (.string x0) ∧ W.cell? ⟨w.heap.size, 1, none⟩ = some (.int .i64 x1) ∧ W.cell? ⟨w.heap.size, 2, none⟩ = some (.bool x2) ∧ W.cell? ⟨w.heap.size, 3, none⟩ = some (.string x3) from fun W hb => by
              have q0 := (hb.cell (p := ⟨n.1, 4 + l, none⟩) (by have := World.block_lt_of_cell? wr _ c0; simpa using this)).trans c0
              have qm := bm.below hb
              have qx := BXq.out.below hb
              exact ⟨hb, q0, ⟨(qm 0 _ rfl).1, (qm 1 _ rfl).1, (qm 2 _ rfl).1, (qm 3 _ rfl).1⟩, (qx 0 _ rfl).1, (qx 1 _ rfl).1, (qx 2 _ rfl).1, (qx 3 _ rfl).1⟩)
            clear c0 bm
            obtain ⟨o, ho⟩ : ∃ o, ordI (m0, m1, m2, m3) (x0, x1, x2, x3) = o := ⟨_, rfl⟩
            rw [ho] at HO
            have HOO := Lib.hid ho
            have ho0 := HO.out
            clear ho
            go_wp2_with fail
            go_region_held3 (fun W => Below wr.heap.size wr W ∧ W.cell? ⟨n.1, 4 + l, none⟩ = some (.pointer (some ⟨mb, 0, none⟩)) ∧ (W.cell? ⟨mb, 0, none⟩ = some (.string m0) ∧ W.cell? ⟨mb, 1, none⟩ = some (.int .i64 m1) ∧ W.cell? ⟨mb, 2, none⟩ = some (.bool m2) ∧ W.cell? ⟨mb, 3, none⟩ = some (.string m3)) ∧ W.cell? ⟨w.heap.size, 0, none⟩ = some (.string x0) ∧ W.cell? ⟨w.heap.size, 1, none⟩ = some (.int .i64 x1) ∧ W.cell? ⟨w.heap.size, 2, none⟩ = some (.bool x2) ∧ W.cell? ⟨w.heap.size, 3, none⟩ = some (.string x3))
              (first | exact KS.out _ (Below.refl _ _).drew | exact KS.out _ (((Below.refl _ _).drew).trans b4))
              (first
                | (go_at_call 41; refine (order_any _ _ _ _ _ _ _ _ _).mono ?_; rintro e w4 ⟨rfl, b4⟩; rw [HOO.out]))
            rename_i hH
            obtain ⟨hbw, c0, ⟨c1, c2, c3, c4⟩, d1, d2, d3, d4⟩ := hH
            have B4 := Lib.hid hbw
            clear hbw
            have BLs := BLq.out.below (B4.out)
            have BXs := Lib.hid (BXq.out.below (B4.out))
            have BRs := Lib.hid (BRq.out.below (B4.out))
            have SKs := Lib.hid (SK2.out.below (B4.out))
            have Bs := Lib.hid ((HBq.out).trans ((B4.out).mono HBq.out.size))
            have BLS := Lib.hid BLs
            obtain ⟨st, sf⟩ := BLs l _ hcl
            clear BLs
            go_wp2
            go_roundg (og - 1)
            case measure => have := HL.out; have := HOG.out; omega
            case rel =>
              have e1 := HL.out
              have e2 := HOG.out
              refine ⟨A, n, R, cs.set l (.pointer (some ⟨n.1, 0, none⟩)), (l : Int) - 1, HPA.out, rfl, by omega, by omega, rfl, by have := HLN.out; omega, Box.otherN _ BXs.out (by show w.heap.size + 1 + 1 ≠ w.heap.size; omega), Box.otherN _ BRs.out (by show w.heap.size + 1 + 1 ≠ w.heap.size + 1; omega), Box.setN _ BLS.out (by rw [HCL.out]; omega), by rw [List.length_set]; exact HCL.out, fun l' h1' h2' => ?_, Skip.kept (show Skip w4 (((hb, z, 4) :: S1) ++ C) from SKs.out) ((KeptOut.refl (fun b => b = w.heap.size + 1 + 1) w4).setCell (p := ⟨w.heap.size + 1 + 1, l, none⟩) rfl _) (fun x hx e => by have := HNL.out x hx; omega), Bs.out.setCell (p := ⟨w.heap.size + 1 + 1, l, none⟩) (by show w.heap.size ≤ w.heap.size + 1 + 1; omega) _⟩
              by_cases e : l' = l
              · subst e
                exact ⟨n.1, by rw [List.getElem?_set_self (by rw [HCL.out]; omega)], HLast.out⟩
              · rw [List.getElem?_set_ne (fun q => e q.symm)]
                exact HCS.out l' (by omega) h2'
    · obtain rfl : m = -1 := by have := HMQ.out; omega
      have hq0 : gk = 0 := by have := HMQ.out; omega
      obtain ⟨q0, e0, L0⟩ := HCS.out 0 (by omega) (by decide)
      obtain ⟨q1, e1, L1⟩ := HCS.out 1 (by omega) (by decide)
      obtain ⟨q2, e2, L2⟩ := HCS.out 2 (by omega) (by decide)
      obtain ⟨q3, e3, L3⟩ := HCS.out 3 (by omega) (by decide)
      have HLL := Lib.hid (And.intro L0 (And.intro L1 (And.intro L2 L3)))
      have k0 := (BL.out 0 _ e0).1
      have k1 := (BL.out 1 _ e1).1
      have k2 := (BL.out 2 _ e2).1
      have k3 := (BL.out 3 _ e3).1
      obtain ⟨r0, g0⟩ := BR.out 0 _ rfl
      obtain ⟨r1, g1⟩ := BR.out 1 _ rfl
      obtain ⟨r2, g2⟩ := BR.out 2 _ rfl
      obtain ⟨r3, g3⟩ := BR.out 3 _ rfl
      clear e0 e1 e2 e3 L0 L1 L2 L3 hq0 HPA HQN hq4
      go_wp2
      refine bodyPost_ret (v := .agg #[.pointer (some ⟨q0, 0, none⟩), .pointer (some ⟨q1, 0, none⟩), .pointer (some ⟨q2, 0, none⟩), .pointer (some ⟨q3, 0, none⟩)]) (by simp [results, Tryd.results51, go_sem, r0, r1, r2, r3]) rfl ?_
      exact ⟨q0, q1, q2, q3, rfl, HLL.out.1, HLL.out.2.1, HLL.out.2.2.1, HLL.out.2.2.2, by have b := HB.out; repeat (first | exact b | refine Below.setCell ?_ (by show w.heap.size ≤ w.heap.size + 1; omega) _)⟩
end Go.Proofs.YteejabpohnfoaaaDoor
