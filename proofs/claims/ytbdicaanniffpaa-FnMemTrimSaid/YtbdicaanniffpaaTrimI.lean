import Derived.Test.YtbdicaanniffpaaTrim
/- MemTrim of the program. -/
namespace Go.Proofs.Ytbdicaanniffpaa
open Go Go.RowKit

theorem hid_zero {l : List EntryD} {floor : Int} {k : Nat} (h : k = 0) : hidB l k floor = false := by subst h; simp [hidB]
theorem hid_succ {l : List EntryD} {floor : Int} {k m : Nat} (hk : k < l.length) (hm : k = m + 1) : hidB l k floor = (decide ((l[m]'(by omega)).1 = l[k].1) && decide ((l[m]'(by omega)).2.1 ≤ floor)) := by
  subst hm
  simp [hidB, List.getElem?_eq_getElem (show m < l.length by omega), List.getElem?_eq_getElem hk]

theorem own_drewN {w : World} {base : Nat} {e : TypeId} {m : Nat} {v : Value} {n : Nat} {xs : List Value} (h : w.ownsRow base e m v n xs) (q : Nat) : (w.drewN q).ownsRow base e m v n xs := own_below h (bel_drewN (Below.refl _ _) q)
theorem cellsNew3 (w : World) (o : Obj) (n : Nat) (cs : List Value) (e : TypeId) : ∀ j u, cs[j]? = some u → (((w.alloc o).drewN n).alloc (.cells cs.toArray e)).cell? ((⟨w.heap.size + 1, 0, none⟩ : Addr).add j) = some u := by
  have h := cellsNew ((w.alloc o).drewN n) cs e
  simpa using h

set_option maxRecDepth 100000 in
set_option maxHeartbeats 1600000 in
theorem trim_any (a : Option Addr) (ca : Nat) (l : List EntryD) (floor : Int) (bottom : Bool) (w : World) (hl : ElS 4 encEntry w a l) (hok : ∀ x ∈ l, OkEntry x) (hn : l.length ≤ 240) :
    Calls Try.prog 34 #[.slice a l.length ca, .int .i64 floor, .bool bottom] w (OwnE w (trimL l floor bottom)) := by
  obtain ⟨i0, hi, hz0, hz1, hz2⟩ := info_parts infoEntry
  have HX := Lib.hid hl
  clear hl
  have b1 : Below w.heap.size w w := Below.refl _ _
  go_enter Try.func34, Try.ntmps34
  go_wp2
  go_loopw [7, 13] (fun v7 v9 wr => ∃ (k : Nat), k ≤ l.length ∧ v9 = .int .i64 k ∧ wr.ownsRow w.heap.size 32 4 v7 (trimTo l floor bottom k).length ((trimTo l floor bottom k).flatMap encEntry) ∧ Below w.heap.size w wr) (fun _ v9 _ => l.length - (intOf v9).toNat)
  case atStart => exact ⟨0, Nat.zero_le _, rfl, World.ownsRow_nil _ _ _ _, b1⟩
  case round =>
    obtain ⟨k, hk, rfl, hown, hbel⟩ := hrel
    obtain ⟨av, cv, rfl⟩ := own_shape hown
    have HO := Lib.hid hown
    have hzs := hbel.size
    clear hown
    by_cases hlt : k < l.length
    · obtain ⟨ba, oa, rfl, hca⟩ := HX.out.2.resolve_left (by intro e; subst e; simp at hlt)
      have HC := Lib.hid hca
      clear hca
      obtain ⟨c0, c1, c2, c3⟩ := cellsEntry hbel HC.out k hlt
      have hk0 : (0 : Int) ≤ (k : Int) := by omega
      have hkn : (k : Int) < (l.length : Int) := by omega
      have HK := Lib.hid (keepB_eq (l := l) (floor := floor) (bottom := bottom) hlt)
      have htl := trimTo_len l floor bottom k (by omega)
      have B0 : Below w.heap.size w (wr.alloc (.cells #[.string l[k].1, .int .i64 l[k].2.1, .bool l[k].2.2.1, .string l[k].2.2.2] 32)) := hbel.alloc hbel.size _
      by_cases h0 : k = 0
      · have HH := Lib.hid (hid_zero (l := l) (floor := floor) h0)
        have h0i : decide (0 < k) = false := decide_eq_false (by omega)
        clear h0
        cases bottom with
        | false =>
          have HT := Lib.hid (trim_take (floor := floor) (bottom := false) hlt (by rw [HK.out, HH.out]; simp))
          go_wp2
          go_quiet (fail)
          go_wp2_with (at_builtin; refine wpList_append_own _ rfl _ _ 23 rfl w.heap.size 32 i0 (.agg #[.string ⟨#[]⟩, .int .i64 0, .bool false, .string ⟨#[]⟩]) 4 48 Try.underlying23 hi hz0 hz1 hz2 rfl (by decide) _ _ _ rfl ((own_drewN (HO.out.alloc _) _).alloc _) ⟨wr.heap.size + 1, 0, none⟩ 1 1 [.string l[k].1, .int .i64 l[k].2.1, .bool l[k].2.2.1, .string l[k].2.2.2] rfl rfl (cellsNew3 _ _ _ _ _) (by simp [Value.oneCell']) (by unfold maxLen; omega) (by omega) (by simp; omega) ?_; intro v2 w2 o2 g2 _)
          have hb2 : Below w.heap.size w w2 := ((bel_drewN B0 _).alloc B0.size _).grown g2 (by simp; omega) (fun q hq => (HO.out.lt q hq).1)
          have ho2 : w2.ownsRow w.heap.size 32 4 v2 (trimTo l floor false (k + 1)).length ((trimTo l floor false (k + 1)).flatMap encEntry) := by rw [HT.out]; simpa [encEntry] using o2
          clear o2 g2
          go_roundw
          case rel => exact ⟨k + 1, by omega, by go_num, ho2, hb2⟩
          case measure => simp [intOf]; omega
        | true =>
          cases hd : l[k].2.2.1 with
          | false =>
            have HD := Lib.hid hd
            rw [hd] at c2 B0
            clear hd
            have HT := Lib.hid (trim_take (floor := floor) (bottom := true) hlt (by rw [HK.out, HH.out, HD.out]; simp))
            go_wp2
            go_quiet (fail)
            go_wp2_with (at_builtin; refine wpList_append_own _ rfl _ _ 23 rfl w.heap.size 32 i0 (.agg #[.string ⟨#[]⟩, .int .i64 0, .bool false, .string ⟨#[]⟩]) 4 48 Try.underlying23 hi hz0 hz1 hz2 rfl (by decide) _ _ _ rfl ((own_drewN (HO.out.alloc _) _).alloc _) ⟨wr.heap.size + 1, 0, none⟩ 1 1 [.string l[k].1, .int .i64 l[k].2.1, .bool false, .string l[k].2.2.2] rfl rfl (cellsNew3 _ _ _ _ _) (by simp [Value.oneCell']) (by unfold maxLen; omega) (by omega) (by simp; omega) ?_; intro v2 w2 o2 g2 _)
            have hb2 : Below w.heap.size w w2 := ((bel_drewN B0 _).alloc B0.size _).grown g2 (by simp; omega) (fun q hq => (HO.out.lt q hq).1)
            have ho2 : w2.ownsRow w.heap.size 32 4 v2 (trimTo l floor true (k + 1)).length ((trimTo l floor true (k + 1)).flatMap encEntry) := by rw [HT.out]; simpa [encEntry, HD.out] using o2
            clear o2 g2
            go_roundw
            case rel => exact ⟨k + 1, by omega, by go_num, ho2, hb2⟩
            case measure => simp [intOf]; omega
          | true =>
            have HD := Lib.hid hd
            rw [hd] at c2 B0
            clear hd
            by_cases g : l[k].2.1 ≤ floor
            · have HG := Lib.hid (decide_eq_true g)
              have g1 : decide (l[k].2.1 ≤ floor) = true := decide_eq_true g
              have HT := Lib.hid (trim_skip (floor := floor) (bottom := true) hlt (by rw [HK.out, HH.out, HD.out, HG.out]; simp))
              go_wp2
              go_quiet (fail)
              go_wp2
              go_roundw
              case rel => exact ⟨k + 1, by omega, by go_num, by rw [HT.out]; exact own_drewN (HO.out.alloc _) _, bel_drewN B0 _⟩
              case measure => simp [intOf]; omega
            · have HG := Lib.hid (decide_eq_false g)
              have g1 : decide (l[k].2.1 ≤ floor) = false := decide_eq_false g
              have HT := Lib.hid (trim_take (floor := floor) (bottom := true) hlt (by rw [HK.out, HH.out, HD.out, HG.out]; simp))
              go_wp2
              go_quiet (fail)
              go_wp2_with (at_builtin; refine wpList_append_own _ rfl _ _ 23 rfl w.heap.size 32 i0 (.agg #[.string ⟨#[]⟩, .int .i64 0, .bool false, .string ⟨#[]⟩]) 4 48 Try.underlying23 hi hz0 hz1 hz2 rfl (by decide) _ _ _ rfl ((own_drewN (HO.out.alloc _) _).alloc _) ⟨wr.heap.size + 1, 0, none⟩ 1 1 [.string l[k].1, .int .i64 l[k].2.1, .bool true, .string l[k].2.2.2] rfl rfl (cellsNew3 _ _ _ _ _) (by simp [Value.oneCell']) (by unfold maxLen; omega) (by omega) (by simp; omega) ?_; intro v2 w2 o2 g2 _)
              have hb2 : Below w.heap.size w w2 := ((bel_drewN B0 _).alloc B0.size _).grown g2 (by simp; omega) (fun q hq => (HO.out.lt q hq).1)
              have ho2 : w2.ownsRow w.heap.size 32 4 v2 (trimTo l floor true (k + 1)).length ((trimTo l floor true (k + 1)).flatMap encEntry) := by rw [HT.out]; simpa [encEntry, HD.out] using o2
              clear o2 g2
              go_roundw
              case rel => exact ⟨k + 1, by omega, by go_num, ho2, hb2⟩
              case measure => simp [intOf]; omega
      · obtain ⟨m, hm⟩ : ∃ m, k = m + 1 := ⟨k - 1, by omega⟩
        have h0i : decide (0 < k) = true := decide_eq_true (by omega)
        have h0p : (0 : Int) < (k : Int) := by omega
        have hkm : (k : Int) - 1 = (m : Int) := by omega
        have hkw : IntKind.i64.wrap (m : Int) = (m : Int) := wrap_len (by omega)
        have hml : m < l.length := by omega
        have hm0 : (0 : Int) ≤ (m : Int) := by omega
        have hmn : (m : Int) < (l.length : Int) := by omega
        obtain ⟨d0, d1, d2, d3⟩ := cellsEntry hbel HC.out m hml
        have HH := Lib.hid (show hidB l k floor = (decide (l[m].1 = l[k].1) && decide (l[m].2.1 ≤ floor)) from hid_succ hlt hm)
        obtain ⟨e0, e1, e2, e3⟩ := cellsEntry B0 HC.out m hml
        clear hm h0 d0 d1 d2 d3
        by_cases e : l[m].1 = l[k].1
        · have q1 : (l[m].1.toList == l[k].1.toList) = true := by rw [e]; simp
          have HE := Lib.hid (decide_eq_true e)
          clear e
          by_cases gm : l[m].2.1 ≤ floor
          · have HM := Lib.hid (decide_eq_true gm)
            have gm1 : decide (l[m].2.1 ≤ floor) = true := decide_eq_true gm
            have HT := Lib.hid (trim_skip (floor := floor) (bottom := bottom) hlt (by rw [HK.out, HH.out, HE.out, HM.out]; simp))
            go_wp2
            go_quiet (fail)
            go_wp2
            go_roundw
            case rel => exact ⟨k + 1, by omega, by go_num, by rw [HT.out]; exact own_drewN (HO.out.alloc _) _, bel_drewN B0 _⟩
            case measure => simp [intOf]; omega
          · have HM := Lib.hid (decide_eq_false gm)
            have gm1 : decide (l[m].2.1 ≤ floor) = false := decide_eq_false gm
            cases bottom with
            | false =>
              have HT := Lib.hid (trim_take (floor := floor) (bottom := false) hlt (by rw [HK.out, HH.out, HE.out, HM.out]; simp))
              go_wp2
              go_quiet (fail)
              go_wp2_with (at_builtin; refine wpList_append_own _ rfl _ _ 23 rfl w.heap.size 32 i0 (.agg #[.string ⟨#[]⟩, .int .i64 0, .bool false, .string ⟨#[]⟩]) 4 48 Try.underlying23 hi hz0 hz1 hz2 rfl (by decide) _ _ _ rfl ((own_drewN (HO.out.alloc _) _).alloc _) ⟨wr.heap.size + 1, 0, none⟩ 1 1 [.string l[k].1, .int .i64 l[k].2.1, .bool l[k].2.2.1, .string l[k].2.2.2] rfl rfl (cellsNew3 _ _ _ _ _) (by simp [Value.oneCell']) (by unfold maxLen; omega) (by omega) (by simp; omega) ?_; intro v2 w2 o2 g2 _)
              have hb2 : Below w.heap.size w w2 := ((bel_drewN B0 _).alloc B0.size _).grown g2 (by simp; omega) (fun q hq => (HO.out.lt q hq).1)
              have ho2 : w2.ownsRow w.heap.size 32 4 v2 (trimTo l floor false (k + 1)).length ((trimTo l floor false (k + 1)).flatMap encEntry) := by rw [HT.out]; simpa [encEntry] using o2
              clear o2 g2
              go_roundw
              case rel => exact ⟨k + 1, by omega, by go_num, ho2, hb2⟩
              case measure => simp [intOf]; omega
            | true =>
              cases hd : l[k].2.2.1 with
              | false =>
                have HD := Lib.hid hd
                rw [hd] at c2 B0 e0 e1 e2 e3
                clear hd
                have HT := Lib.hid (trim_take (floor := floor) (bottom := true) hlt (by rw [HK.out, HH.out, HE.out, HM.out, HD.out]; simp))
                go_wp2
                go_quiet (fail)
                go_wp2_with (at_builtin; refine wpList_append_own _ rfl _ _ 23 rfl w.heap.size 32 i0 (.agg #[.string ⟨#[]⟩, .int .i64 0, .bool false, .string ⟨#[]⟩]) 4 48 Try.underlying23 hi hz0 hz1 hz2 rfl (by decide) _ _ _ rfl ((own_drewN (HO.out.alloc _) _).alloc _) ⟨wr.heap.size + 1, 0, none⟩ 1 1 [.string l[k].1, .int .i64 l[k].2.1, .bool false, .string l[k].2.2.2] rfl rfl (cellsNew3 _ _ _ _ _) (by simp [Value.oneCell']) (by unfold maxLen; omega) (by omega) (by simp; omega) ?_; intro v2 w2 o2 g2 _)
                have hb2 : Below w.heap.size w w2 := ((bel_drewN B0 _).alloc B0.size _).grown g2 (by simp; omega) (fun q hq => (HO.out.lt q hq).1)
                have ho2 : w2.ownsRow w.heap.size 32 4 v2 (trimTo l floor true (k + 1)).length ((trimTo l floor true (k + 1)).flatMap encEntry) := by rw [HT.out]; simpa [encEntry, HD.out] using o2
                clear o2 g2
                go_roundw
                case rel => exact ⟨k + 1, by omega, by go_num, ho2, hb2⟩
                case measure => simp [intOf]; omega
              | true =>
                have HD := Lib.hid hd
                rw [hd] at c2 B0 e0 e1 e2 e3
                clear hd
                by_cases g : l[k].2.1 ≤ floor
                · have HG := Lib.hid (decide_eq_true g)
                  have g1 : decide (l[k].2.1 ≤ floor) = true := decide_eq_true g
                  have HT := Lib.hid (trim_skip (floor := floor) (bottom := true) hlt (by rw [HK.out, HH.out, HE.out, HM.out, HD.out, HG.out]; simp))
                  go_wp2
                  go_quiet (fail)
                  go_wp2
                  go_roundw
                  case rel => exact ⟨k + 1, by omega, by go_num, by rw [HT.out]; exact own_drewN (HO.out.alloc _) _, bel_drewN B0 _⟩
                  case measure => simp [intOf]; omega
                · have HG := Lib.hid (decide_eq_false g)
                  have g1 : decide (l[k].2.1 ≤ floor) = false := decide_eq_false g
                  have HT := Lib.hid (trim_take (floor := floor) (bottom := true) hlt (by rw [HK.out, HH.out, HE.out, HM.out, HD.out, HG.out]; simp))
                  go_wp2
                  go_quiet (fail)
                  go_wp2_with (at_builtin; refine wpList_append_own _ rfl _ _ 23 rfl w.heap.size 32 i0 (.agg #[.string ⟨#[]⟩, .int .i64 0, .bool false, .string ⟨#[]⟩]) 4 48 Try.underlying23 hi hz0 hz1 hz2 rfl (by decide) _ _ _ rfl ((own_drewN (HO.out.alloc _) _).alloc _) ⟨wr.heap.size + 1, 0, none⟩ 1 1 [.string l[k].1, .int .i64 l[k].2.1, .bool true, .string l[k].2.2.2] rfl rfl (cellsNew3 _ _ _ _ _) (by simp [Value.oneCell']) (by unfold maxLen; omega) (by omega) (by simp; omega) ?_; intro v2 w2 o2 g2 _)
                  have hb2 : Below w.heap.size w w2 := ((bel_drewN B0 _).alloc B0.size _).grown g2 (by simp; omega) (fun q hq => (HO.out.lt q hq).1)
                  have ho2 : w2.ownsRow w.heap.size 32 4 v2 (trimTo l floor true (k + 1)).length ((trimTo l floor true (k + 1)).flatMap encEntry) := by rw [HT.out]; simpa [encEntry, HD.out] using o2
                  clear o2 g2
                  go_roundw
                  case rel => exact ⟨k + 1, by omega, by go_num, ho2, hb2⟩
                  case measure => simp [intOf]; omega
        · have q1 := eqL_no e
          have HE := Lib.hid (decide_eq_false e)
          clear e
          cases bottom with
          | false =>
            have HT := Lib.hid (trim_take (floor := floor) (bottom := false) hlt (by rw [HK.out, HH.out, HE.out]; simp))
            go_wp2
            go_quiet (fail)
            go_wp2_with (at_builtin; refine wpList_append_own _ rfl _ _ 23 rfl w.heap.size 32 i0 (.agg #[.string ⟨#[]⟩, .int .i64 0, .bool false, .string ⟨#[]⟩]) 4 48 Try.underlying23 hi hz0 hz1 hz2 rfl (by decide) _ _ _ rfl ((own_drewN (HO.out.alloc _) _).alloc _) ⟨wr.heap.size + 1, 0, none⟩ 1 1 [.string l[k].1, .int .i64 l[k].2.1, .bool l[k].2.2.1, .string l[k].2.2.2] rfl rfl (cellsNew3 _ _ _ _ _) (by simp [Value.oneCell']) (by unfold maxLen; omega) (by omega) (by simp; omega) ?_; intro v2 w2 o2 g2 _)
            have hb2 : Below w.heap.size w w2 := ((bel_drewN B0 _).alloc B0.size _).grown g2 (by simp; omega) (fun q hq => (HO.out.lt q hq).1)
            have ho2 : w2.ownsRow w.heap.size 32 4 v2 (trimTo l floor false (k + 1)).length ((trimTo l floor false (k + 1)).flatMap encEntry) := by rw [HT.out]; simpa [encEntry] using o2
            clear o2 g2
            go_roundw
            case rel => exact ⟨k + 1, by omega, by go_num, ho2, hb2⟩
            case measure => simp [intOf]; omega
          | true =>
            cases hd : l[k].2.2.1 with
            | false =>
              have HD := Lib.hid hd
              rw [hd] at c2 B0 e0 e1 e2 e3
              clear hd
              have HT := Lib.hid (trim_take (floor := floor) (bottom := true) hlt (by rw [HK.out, HH.out, HE.out, HD.out]; simp))
              go_wp2
              go_quiet (fail)
              go_wp2_with (at_builtin; refine wpList_append_own _ rfl _ _ 23 rfl w.heap.size 32 i0 (.agg #[.string ⟨#[]⟩, .int .i64 0, .bool false, .string ⟨#[]⟩]) 4 48 Try.underlying23 hi hz0 hz1 hz2 rfl (by decide) _ _ _ rfl ((own_drewN (HO.out.alloc _) _).alloc _) ⟨wr.heap.size + 1, 0, none⟩ 1 1 [.string l[k].1, .int .i64 l[k].2.1, .bool false, .string l[k].2.2.2] rfl rfl (cellsNew3 _ _ _ _ _) (by simp [Value.oneCell']) (by unfold maxLen; omega) (by omega) (by simp; omega) ?_; intro v2 w2 o2 g2 _)
              have hb2 : Below w.heap.size w w2 := ((bel_drewN B0 _).alloc B0.size _).grown g2 (by simp; omega) (fun q hq => (HO.out.lt q hq).1)
              have ho2 : w2.ownsRow w.heap.size 32 4 v2 (trimTo l floor true (k + 1)).length ((trimTo l floor true (k + 1)).flatMap encEntry) := by rw [HT.out]; simpa [encEntry, HD.out] using o2
              clear o2 g2
              go_roundw
              case rel => exact ⟨k + 1, by omega, by go_num, ho2, hb2⟩
              case measure => simp [intOf]; omega
            | true =>
              have HD := Lib.hid hd
              rw [hd] at c2 B0 e0 e1 e2 e3
              clear hd
              by_cases g : l[k].2.1 ≤ floor
              · have HG := Lib.hid (decide_eq_true g)
                have g1 : decide (l[k].2.1 ≤ floor) = true := decide_eq_true g
                have HT := Lib.hid (trim_skip (floor := floor) (bottom := true) hlt (by rw [HK.out, HH.out, HE.out, HD.out, HG.out]; simp))
                go_wp2
                go_quiet (fail)
                go_wp2
                go_roundw
                case rel => exact ⟨k + 1, by omega, by go_num, by rw [HT.out]; exact own_drewN (HO.out.alloc _) _, bel_drewN B0 _⟩
                case measure => simp [intOf]; omega
              · have HG := Lib.hid (decide_eq_false g)
                have g1 : decide (l[k].2.1 ≤ floor) = false := decide_eq_false g
                have HT := Lib.hid (trim_take (floor := floor) (bottom := true) hlt (by rw [HK.out, HH.out, HE.out, HD.out, HG.out]; simp))
                go_wp2
                go_quiet (fail)
                go_wp2_with (at_builtin; refine wpList_append_own _ rfl _ _ 23 rfl w.heap.size 32 i0 (.agg #[.string ⟨#[]⟩, .int .i64 0, .bool false, .string ⟨#[]⟩]) 4 48 Try.underlying23 hi hz0 hz1 hz2 rfl (by decide) _ _ _ rfl ((own_drewN (HO.out.alloc _) _).alloc _) ⟨wr.heap.size + 1, 0, none⟩ 1 1 [.string l[k].1, .int .i64 l[k].2.1, .bool true, .string l[k].2.2.2] rfl rfl (cellsNew3 _ _ _ _ _) (by simp [Value.oneCell']) (by unfold maxLen; omega) (by omega) (by simp; omega) ?_; intro v2 w2 o2 g2 _)
                have hb2 : Below w.heap.size w w2 := ((bel_drewN B0 _).alloc B0.size _).grown g2 (by simp; omega) (fun q hq => (HO.out.lt q hq).1)
                have ho2 : w2.ownsRow w.heap.size 32 4 v2 (trimTo l floor true (k + 1)).length ((trimTo l floor true (k + 1)).flatMap encEntry) := by rw [HT.out]; simpa [encEntry, HD.out] using o2
                clear o2 g2
                go_roundw
                case rel => exact ⟨k + 1, by omega, by go_num, ho2, hb2⟩
                case measure => simp [intOf]; omega
    · have HE := Lib.hid (show trimL l floor bottom = trimTo l floor bottom k by unfold trimL; rw [show l.length = k by omega])
      go_wp2
      go_ret
      exact ⟨_, rfl, by rw [HE.out]; exact HO.out, hbel⟩
theorem implTrim_any (a : Option Addr) (ca : Nat) (l : List EntryD) (floor : Int) (bottom : Bool) (w : World) (hl : ElS 4 encEntry w a l) (hok : ∀ x ∈ l, OkEntry x) :
    Calls Try.prog 17 #[.slice a l.length ca, .int .i64 floor, .bool bottom] w (OwnE w (trimV l floor bottom)) := by
  have HX := Lib.hid hl
  clear hl
  cases h : entsB l with
  | false =>
    rw [trimV_no h]
    have H := Lib.hid h
    clear h
    go_enter Try.func17, Try.ntmps17
    go_wp2_with fail
    refine (implEntries_any _ _ l _ HX.out hok).mono ?_
    rintro e w1 ⟨rfl, b1⟩
    rw [H.out]
    go_wp2
    go_ret
    exact ⟨_, rfl, World.ownsRow_nil _ _ _ _, b1⟩
  | true =>
    rw [trimV_yes h]
    have H := Lib.hid h
    have hn := (entsB_at h).1
    clear h
    go_enter Try.func17, Try.ntmps17
    go_wp2_with fail
    refine (implEntries_any _ _ l _ HX.out hok).mono ?_
    rintro e w1 ⟨rfl, b1⟩
    rw [H.out]
    go_wp2_with fail
    refine (trim_any _ _ l floor bottom w1 (HX.out.below b1) hok hn).mono ?_
    rintro e w2 ⟨v, rfl, o2, b2⟩
    go_wp2
    go_ret
    exact ⟨_, rfl, own_mono b1.size o2, b1.trans (b2.mono b1.size)⟩
theorem trimV_len (l : List EntryD) (floor : Int) (bottom : Bool) : (trimV l floor bottom).length ≤ 240 := by
  unfold trimV
  split
  · next h =>
    have h1 := trimTo_len l floor bottom l.length (Nat.le_refl _)
    have h2 := (entsB_at h).1
    unfold trimL; omega
  · simp
theorem trimV_mem {l : List EntryD} {floor : Int} {bottom : Bool} {x : EntryD} (h : x ∈ trimV l floor bottom) : x ∈ l := by
  unfold trimV at h
  split at h
  · unfold trimL trimTo at h
    rw [List.mem_flatMap] at h
    obtain ⟨j, hj, hx⟩ := h
    split at hx
    · rw [Option.mem_toList] at hx
      exact List.mem_of_getElem? hx
    · simp at hx
  · simp at h
end Go.Proofs.Ytbdicaanniffpaa
