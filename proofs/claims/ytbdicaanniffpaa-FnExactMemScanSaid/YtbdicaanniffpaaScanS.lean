import Derived.Test.YtbdicaanniffpaaScanP
import Derived.WalkSpells
/- MemScan of the specification; how a text begins. -/
namespace Go.Proofs.Ytbdicaanniffpaa
open Go Go.RowKit

theorem starts_cut {s pre : ByteArray} : ((s.extract 0 pre.size).toList == pre.toList) = startsB s pre := by
  rw [ByteArray.toList_eq, ByteArray.toList_eq, Lib.extract_data]
  by_cases h : s.data.toList.take pre.size = pre.data.toList <;> simp [startsB, h]
theorem starts_short {s pre : ByteArray} (h : ¬ pre.size ≤ s.size) : startsB s pre = false := by
  unfold startsB
  rw [decide_eq_false_iff_not]
  intro e
  have := congrArg List.length e
  simp at this
  omega

set_option maxHeartbeats 800000 in
theorem specStarts_any (s pre : ByteArray) (w : World) :
    Calls Try.prog 45 #[.string s, .string pre] w fun e w' => e = .returned (.bool (startsB s pre)) ∧ w = w' := by
  by_cases h : pre.size ≤ s.size
  · have hi : (pre.size : Int) ≤ (s.size : Int) := by omega
    have HX := Lib.hid (starts_cut (s := s) (pre := pre))
    go_enter Try.func45, Try.ntmps45
    go_wp2
    go_ret
    exact ⟨ret_bool HX.out, rfl⟩
  · have HX := Lib.hid (starts_short h)
    go_enter Try.func45, Try.ntmps45
    go_wp2
    go_ret
    exact ⟨ret_bool (by rw [HX.out]), rfl⟩
set_option maxHeartbeats 800000 in
theorem prefix1_any (s pre : ByteArray) (w : World) :
    Calls Try.prog 60 #[.string s, .string pre] w fun e w' => e = .returned (.bool (startsB s pre)) ∧ w = w' := by
  by_cases h : pre.size ≤ s.size
  · have hi : (pre.size : Int) ≤ (s.size : Int) := by omega
    have HX := Lib.hid (starts_cut (s := s) (pre := pre))
    go_enter Try.func60, Try.ntmps60
    go_wp2
    go_ret
    exact ⟨ret_bool HX.out, rfl⟩
  · have HX := Lib.hid (starts_short h)
    go_enter Try.func60, Try.ntmps60
    go_wp2
    go_ret
    exact ⟨ret_bool (by rw [HX.out]), rfl⟩
set_option maxHeartbeats 800000 in
theorem prefix_any (s pre : ByteArray) (w : World) :
    Calls Try.prog 44 #[.string s, .string pre] w fun e w' => e = .returned (.bool (startsB s pre)) ∧ w = w' := by
  go_enter Try.func44, Try.ntmps44
  go_wp2_with (go_at_call 60; refine (prefix1_any _ _ _).mono ?_; rintro e w1 ⟨rfl, rfl⟩)
  go_ret
  exact ⟨rfl, rfl⟩

theorem flat_snoc {l : List EntryD} (e : EntryD) : (l ++ [e]).flatMap encEntry = l.flatMap encEntry ++ encEntry e := by rw [List.flatMap_append]; simp

/-- what is told ahead of the rest -/
theorem scan_step_no {pre : ByteArray} {seq : Int} {told : ByteArray} {l out : List EntryD} {k : Nat} (hk : k < l.length) (h : (decide (seq < l[k].2.1) || decide (l[k].1 = told) || !startsB l[k].1 pre) = true)
    (he : out ++ scanR pre seq told (l.drop k) = scanR pre seq ⟨#[]⟩ l) : out ++ scanR pre seq told (l.drop (k + 1)) = scanR pre seq ⟨#[]⟩ l := by
  rw [List.drop_eq_getElem_cons hk, scan_no h] at he; exact he
theorem scan_step_dead {pre : ByteArray} {seq : Int} {told : ByteArray} {l out : List EntryD} {k : Nat} (hk : k < l.length) (h : (decide (seq < l[k].2.1) || decide (l[k].1 = told) || !startsB l[k].1 pre) = false) (hd : l[k].2.2.1 = true)
    (he : out ++ scanR pre seq told (l.drop k) = scanR pre seq ⟨#[]⟩ l) : out ++ scanR pre seq l[k].1 (l.drop (k + 1)) = scanR pre seq ⟨#[]⟩ l := by
  rw [List.drop_eq_getElem_cons hk, scan_yes (by rw [h]; exact Bool.false_ne_true), if_pos hd] at he; exact he
theorem scan_step_live {pre : ByteArray} {seq : Int} {told : ByteArray} {l out : List EntryD} {k : Nat} (hk : k < l.length) (h : (decide (seq < l[k].2.1) || decide (l[k].1 = told) || !startsB l[k].1 pre) = false) (hd : l[k].2.2.1 = false)
    (he : out ++ scanR pre seq told (l.drop k) = scanR pre seq ⟨#[]⟩ l) : (out ++ [l[k]]) ++ scanR pre seq l[k].1 (l.drop (k + 1)) = scanR pre seq ⟨#[]⟩ l := by
  rw [List.drop_eq_getElem_cons hk, scan_yes (by rw [h]; exact Bool.false_ne_true), if_neg (by rw [hd]; exact Bool.false_ne_true)] at he
  rw [List.append_assoc]; exact he

set_option maxRecDepth 100000 in
set_option maxHeartbeats 1600000 in
theorem specScanL_any (a : Option Addr) (ca : Nat) (l : List EntryD) (pre : ByteArray) (seq : Int) (w : World) (hn : l.length ≤ 240) (hl : ElS 4 encEntry w a l) :
    Calls Try.prog 29 #[.slice a l.length ca, .string pre, .int .i64 seq] w (OwnE w (scanR pre seq ⟨#[]⟩ l)) := by
  obtain ⟨i0, hi, hz0, hz1, hz2⟩ := info_parts infoEntry
  have HX := Lib.hid hl
  clear hl
  go_enter Try.func29, Try.ntmps29
  go_wp2
  go_loopw [8, 7, 9] (fun v8 v7 v9 wr => ∃ (k : Nat) (told : ByteArray) (out : List EntryD), k ≤ l.length ∧ v9 = .int .i64 k ∧ v8 = .string told ∧ out.length ≤ k ∧ out ++ scanR pre seq told (l.drop k) = scanR pre seq ⟨#[]⟩ l ∧ wr.ownsRow w.heap.size 32 4 v7 out.length (out.flatMap encEntry) ∧ Below w.heap.size w wr) (fun _ _ v9 _ => l.length - (intOf v9).toNat)
  case atStart => exact ⟨0, ⟨#[]⟩, [], Nat.zero_le _, rfl, rfl, Nat.le_refl _, rfl, World.ownsRow_lit w #[] 0 (Nat.le_refl _) (Nat.zero_le _) rfl, (by repeat (first | exact Below.refl _ _ | (refine Below.alloc ?_ (by first | (simp; done) | (simp; omega)) _) | (refine Below.setCell ?_ (by first | (simp; done) | (simp; omega)) _) | (refine Below.drew ?_)))⟩
  case round =>
    obtain ⟨k, told, out, hk, rfl, rfl, htl, ht, hown, hbel⟩ := hrel
    obtain ⟨av, cv, rfl⟩ := own_shape hown
    have HO := Lib.hid hown
    have HT := Lib.hid ht
    have hzs := hbel.size
    clear hown ht
    by_cases hlt : k < l.length
    · obtain ⟨ba, oa, rfl, hca⟩ := HX.out.2.resolve_left (by intro e; subst e; simp at hlt)
      have HC := Lib.hid hca
      clear hca
      obtain ⟨c0, c1, c2, c3⟩ := cellsEntry hbel HC.out k hlt
      have hk0 : (0 : Int) ≤ (k : Int) := by omega
      have hkn : (k : Int) < (l.length : Int) := by omega
      have B0 : Below w.heap.size w (wr.alloc (.cells #[.string l[k].1, .int .i64 l[k].2.1, .bool l[k].2.2.1, .string l[k].2.2.2] 32)) := hbel.alloc hbel.size _
      have B1 : Below w.heap.size w ((wr.alloc (.cells #[.string l[k].1, .int .i64 l[k].2.1, .bool l[k].2.2.1, .string l[k].2.2.2] 32)).alloc (.cells #[.string l[k].1, .int .i64 l[k].2.1, .bool l[k].2.2.1, .string l[k].2.2.2] 32)) := B0.alloc B0.size _
      by_cases g : seq < l[k].2.1
      · have g1 : decide (seq < l[k].2.1) = true := decide_eq_true g
        have HN := Lib.hid (scan_step_no hlt (by rw [g1]; rfl) HT.out)
        go_wp2
        go_roundw
        case rel => exact ⟨k + 1, told, out, by omega, by go_num, rfl, by omega, HN.out, HO.out.alloc _, B0⟩
        case measure => simp [intOf]; omega
      · have g1 : decide (seq < l[k].2.1) = false := decide_eq_false g
        by_cases e : l[k].1 = told
        · have q1 : (l[k].1.toList == told.toList) = true := by rw [e]; simp
          have HN := Lib.hid (scan_step_no hlt (by rw [decide_eq_true e]; simp) HT.out)
          clear e
          go_wp2
          go_roundw
          case rel => exact ⟨k + 1, told, out, by omega, by go_num, rfl, by omega, HN.out, HO.out.alloc _, B0⟩
          case measure => simp [intOf]; omega
        · have q1 := eqL_no e
          have HE := Lib.hid (decide_eq_false e)
          cases hp : startsB l[k].1 pre with
          | false =>
            have HP := Lib.hid hp
            have HN := Lib.hid (scan_step_no hlt (by rw [hp]; simp) HT.out)
            clear e hp
            go_wp2_with (go_at_call 45; refine (specStarts_any _ _ _).mono ?_; rintro e w1 ⟨rfl, rfl⟩; rw [HP.out])
            go_roundw
            case rel => exact ⟨k + 1, told, out, by omega, by go_num, rfl, by omega, HN.out, HO.out.alloc _, B0⟩
            case measure => simp [intOf]; omega
          | true =>
            have HP := Lib.hid hp
            have HNO := Lib.hid (show (decide (seq < l[k].2.1) || decide (l[k].1 = told) || !startsB l[k].1 pre) = false by rw [hp, g1, HE.out]; rfl)
            clear e hp
            cases hd : l[k].2.2.1 with
            | true =>
              have HN := Lib.hid (scan_step_dead hlt HNO.out hd HT.out)
              rw [hd] at c2 B0 B1
              clear hd
              go_wp2_with (go_at_call 45; refine (specStarts_any _ _ _).mono ?_; rintro e w1 ⟨rfl, rfl⟩; rw [HP.out])
              go_roundw
              case rel => exact ⟨k + 1, l[k].1, out, by omega, by go_num, rfl, by omega, HN.out, HO.out.alloc _, B0⟩
              case measure => simp [intOf]; omega
            | false =>
              have HD := Lib.hid hd
              have HN := Lib.hid (scan_step_live hlt HNO.out hd HT.out)
              rw [hd] at c2 B0 B1
              clear hd
              go_wp2_with (first
                | (go_at_call 45; refine (specStarts_any _ _ _).mono ?_; rintro e w1 ⟨rfl, rfl⟩; rw [HP.out])
                | (at_builtin; refine wpList_append_own _ rfl _ _ 23 rfl w.heap.size 32 i0 (.agg #[.string ⟨#[]⟩, .int .i64 0, .bool false, .string ⟨#[]⟩]) 4 48 Try.underlying23 hi hz0 hz1 hz2 rfl (by decide) _ _ _ rfl ((HO.out.alloc _).alloc _) ⟨wr.heap.size + 1, 0, none⟩ 1 1 [.string l[k].1, .int .i64 l[k].2.1, .bool false, .string l[k].2.2.2] rfl rfl (cellsNew2 _ _ _ _) (by simp [Value.oneCell']) (by unfold maxLen; omega) (by omega) (by simp; omega) ?_; intro v2 w2 o2 g2 _))
              have hb2 : Below w.heap.size w w2 := (B1).grown g2 (by simp; omega) (fun q hq => (HO.out.lt q hq).1)
              have ho2 : w2.ownsRow w.heap.size 32 4 v2 (out ++ [l[k]]).length ((out ++ [l[k]]).flatMap encEntry) := by rw [flat_snoc]; simpa [encEntry, HD.out] using o2
              clear o2 g2
              go_roundw
              case rel => exact ⟨k + 1, l[k].1, out ++ [l[k]], by omega, by go_num, rfl, by simp; omega, HN.out, ho2, hb2⟩
              case measure => simp [intOf]; omega
    · have HE := Lib.hid (show scanR pre seq ⟨#[]⟩ l = out by rw [← HT.out, show l.drop k = [] from List.drop_of_length_le (by omega)]; simp [scanR])
      go_wp2
      go_ret
      exact ⟨_, rfl, by rw [HE.out]; exact HO.out, hbel⟩

set_option maxHeartbeats 800000 in
theorem specScan_any (a : Option Addr) (ca : Nat) (l : List EntryD) (pre : ByteArray) (seq : Int) (w : World) (hl : ElS 4 encEntry w a l) (hok : ∀ x ∈ l, OkEntry x) :
    Calls Try.prog 12 #[.slice a l.length ca, .string pre, .int .i64 seq] w (OwnE w (scanV l pre seq)) := by
  have HX := Lib.hid hl
  clear hl
  cases h : entsB l with
  | false =>
    rw [scanV_no h]
    have H := Lib.hid h
    clear h
    go_enter Try.func12, Try.ntmps12
    go_wp2_with fail
    refine (specEntries_any _ _ l _ HX.out hok).mono ?_
    rintro e w1 ⟨rfl, b1⟩
    rw [H.out]
    go_wp2
    go_ret
    exact ⟨_, rfl, World.ownsRow_lit w1 #[] 0 b1.size (Nat.zero_le _) rfl, b1.alloc b1.size _⟩
  | true =>
    rw [scanV_yes h]
    have H := Lib.hid h
    have hn := (entsB_at h).1
    clear h
    go_enter Try.func12, Try.ntmps12
    go_wp2_with fail
    refine (specEntries_any _ _ l _ HX.out hok).mono ?_
    rintro e w1 ⟨rfl, b1⟩
    rw [H.out]
    go_wp2_with fail
    refine (specScanL_any _ _ l pre seq _ hn (HX.out.below b1)).mono ?_
    rintro e w2 ⟨v, rfl, o2, b2⟩
    have O2 := Lib.hid o2
    clear o2
    go_wp2
    go_ret
    exact ⟨_, rfl, own_mono b1.size O2.out, b1.trans (b2.mono b1.size)⟩
end Go.Proofs.Ytbdicaanniffpaa
