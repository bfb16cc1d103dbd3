import Derived.Test.YtbdicaanniffpaaGetJ
import Derived.Test.YtbdicaanniffpaaShape
import Derived.OwnWalk
import Derived.Laws.OwnMore
/- MemTrim of the specification. -/
namespace Go.Proofs.Ytbdicaanniffpaa
open Go Go.RowKit

theorem cellsNew (w : World) (cs : List Value) (e : TypeId) : ∀ j u, cs[j]? = some u → (w.alloc (.cells cs.toArray e)).cell? ((⟨w.heap.size, 0, none⟩ : Addr).add j) = some u := by
  intro j u h
  rw [addr_add, Nat.zero_add]
  exact (Box.alloc w cs.toArray e j u (by simpa using h)).1
theorem cellsNew2 (w : World) (o : Obj) (cs : List Value) (e : TypeId) : ∀ j u, cs[j]? = some u → ((w.alloc o).alloc (.cells cs.toArray e)).cell? ((⟨w.heap.size + 1, 0, none⟩ : Addr).add j) = some u := by
  have h := cellsNew (w.alloc o) cs e
  simpa using h
theorem lastOk_zero (l : List EntryD) (floor : Int) : lastOk l floor 0 ⟨#[]⟩ := by simp [lastOk]
theorem entB_key {e : EntryD} (h : entB e = true) : e.1 ≠ ⟨#[]⟩ := by
  intro q
  have : e = (e.1, e.2.1, e.2.2.1, e.2.2.2) := rfl
  rw [this, entB_eq, q] at h
  simp only [Bool.and_eq_true, keyB, inB, decide_eq_true_eq] at h
  have h1 := h.1.1.1.2.1
  exact absurd h1 (by decide)
theorem ents_ne {l : List EntryD} (h : entsB l = true) : ∀ j (hj : j < l.length), l[j].1 ≠ ⟨#[]⟩ := fun j hj => entB_key ((entsB_at h).2.1 j hj)
theorem trim_skip {l : List EntryD} {floor : Int} {bottom : Bool} {k : Nat} (h : k < l.length) (hk : keepB l floor bottom k = false) : trimTo l floor bottom (k + 1) = trimTo l floor bottom k := by
  rw [trimTo_succ l floor bottom k h, hk]; simp
theorem trim_take {l : List EntryD} {floor : Int} {bottom : Bool} {k : Nat} (h : k < l.length) (hk : keepB l floor bottom k = true) : trimTo l floor bottom (k + 1) = trimTo l floor bottom k ++ [l[k]] := by
  rw [trimTo_succ l floor bottom k h, hk]; simp
theorem keepB_eq {l : List EntryD} {floor : Int} {bottom : Bool} {k : Nat} (h : k < l.length) : keepB l floor bottom k = (!hidB l k floor && !(bottom && l[k].2.2.1 && decide (l[k].2.1 ≤ floor))) := by
  simp [keepB, List.getElem?_eq_getElem h]
theorem enc_len (l : List EntryD) : (l.flatMap encEntry).length = l.length * 4 := flat_len encEntry_len l

set_option maxRecDepth 100000 in
set_option maxHeartbeats 1600000 in
theorem specTrimL_any (a : Option Addr) (ca : Nat) (l : List EntryD) (floor : Int) (bottom : Bool) (w : World) (hn : l.length ≤ 240) (hl : ElS 4 encEntry w a l)
    (hs : ∀ j (hj : j + 1 < l.length), lessB (l[j]'(by omega)) l[j+1] = true) (hne : ∀ j (hj : j < l.length), l[j].1 ≠ ⟨#[]⟩) :
    Calls Try.prog 35 #[.slice a l.length ca, .int .i64 floor, .bool bottom] w fun e w' =>
      ∃ v, e = .returned v ∧ w'.ownsRow w.heap.size 32 4 v (trimL l floor bottom).length ((trimL l floor bottom).flatMap encEntry) ∧ Below w.heap.size w w' := by
  obtain ⟨i0, hi, hz0, hz1, hz2⟩ := info_parts infoEntry
  have HX := Lib.hid hl
  have HS := Lib.hid hs
  have HN := Lib.hid hne
  clear hl hs hne
  go_enter Try.func35, Try.ntmps35
  go_wp2
  go_loopw [8, 7, 9] (fun v8 v7 v9 wr => ∃ (k : Nat) (last : ByteArray), k ≤ l.length ∧ v9 = .int .i64 k ∧ v8 = .string last ∧ lastOk l floor k last ∧ wr.ownsRow w.heap.size 32 4 v7 (trimTo l floor bottom k).length ((trimTo l floor bottom k).flatMap encEntry) ∧ Below w.heap.size w wr) (fun _ _ v9 _ => l.length - (intOf v9).toNat)
  case atStart => exact ⟨0, ⟨#[]⟩, Nat.zero_le _, rfl, rfl, lastOk_zero _ _, World.ownsRow_lit w #[] 0 (Nat.le_refl _) (Nat.zero_le _) rfl, (by repeat (first | exact Below.refl _ _ | (refine Below.alloc ?_ (by first | (simp; done) | (simp; omega)) _) | (refine Below.setCell ?_ (by first | (simp; done) | (simp; omega)) _) | (refine Below.drew ?_)))⟩
  case round =>
    obtain ⟨k, last, hk, rfl, rfl, hlo, hown, hbel⟩ := hrel
    obtain ⟨av, cv, rfl⟩ := own_shape hown
    have HO := Lib.hid hown
    have HL := Lib.hid hlo
    have hzs := hbel.size
    clear hlo hown
    by_cases hlt : k < l.length
    · obtain ⟨ba, oa, rfl, hca⟩ := HX.out.2.resolve_left (by intro e; subst e; simp at hlt)
      have HC := Lib.hid hca
      clear hca
      obtain ⟨c0, c1, c2, c3⟩ := cellsEntry hbel HC.out k hlt
      have hk0 : (0 : Int) ≤ (k : Int) := by omega
      have hkn : (k : Int) < (l.length : Int) := by omega
      have HQ := Lib.hid (last_next HS.out HN.out hlt HL.out)
      have HH := Lib.hid (last_hid HS.out HN.out hlt HL.out)
      have HK := Lib.hid (keepB_eq (l := l) (floor := floor) (bottom := bottom) hlt)
      have htl := trimTo_len l floor bottom k (by omega)
      have B0 : Below w.heap.size w (wr.alloc (.cells #[.string l[k].1, .int .i64 l[k].2.1, .bool l[k].2.2.1, .string l[k].2.2.2] 32)) := hbel.alloc hbel.size _
      have B1 : Below w.heap.size w ((wr.alloc (.cells #[.string l[k].1, .int .i64 l[k].2.1, .bool l[k].2.2.1, .string l[k].2.2.2] 32)).alloc (.cells #[.string l[k].1, .int .i64 l[k].2.1, .bool l[k].2.2.1, .string l[k].2.2.2] 32)) := B0.alloc B0.size _
      by_cases e : l[k].1 = last
      · have q1 : (l[k].1.toList == last.toList) = true := by rw [e]; simp
        have HT := Lib.hid (trim_skip (floor := floor) (bottom := bottom) hlt (by rw [HK.out, HH.out, decide_eq_true e]; rfl))
        have HLn := Lib.hid (show lastOk l floor (k + 1) last by have := HQ.out; rwa [if_pos e] at this)
        clear e
        go_wp2
        go_roundw
        case rel => exact ⟨k + 1, last, by omega, by go_num, rfl, HLn.out, by rw [HT.out]; exact HO.out.alloc _, B0⟩
        case measure => simp [intOf]; omega
      · have q1 := eqL_no e
        have HE := Lib.hid (decide_eq_false e)
        by_cases g : l[k].2.1 ≤ floor
        · have HG := Lib.hid (decide_eq_true g)
          have HLn := Lib.hid (show lastOk l floor (k + 1) l[k].1 by have := HQ.out; rwa [if_neg e, if_pos g] at this)
          clear e
          cases bottom with
          | false =>
            have HT := Lib.hid (trim_take (floor := floor) (bottom := false) hlt (by rw [HK.out, HH.out, HE.out]; rfl))
            go_wp2_with (at_builtin; refine wpList_append_own _ rfl _ _ 23 rfl w.heap.size 32 i0 (.agg #[.string ⟨#[]⟩, .int .i64 0, .bool false, .string ⟨#[]⟩]) 4 48 Try.underlying23 hi hz0 hz1 hz2 rfl (by decide) _ _ _ rfl ((HO.out.alloc _).alloc _) ⟨wr.heap.size + 1, 0, none⟩ 1 1 [.string l[k].1, .int .i64 l[k].2.1, .bool l[k].2.2.1, .string l[k].2.2.2] rfl rfl (cellsNew2 _ _ _ _) (by simp [Value.oneCell']) (by unfold maxLen; omega) (by omega) (by simp; omega) ?_; intro v2 w2 o2 g2 _)
            have hb2 : Below w.heap.size w w2 := (B1).grown g2 (by simp; omega) (fun q hq => (HO.out.lt q hq).1)
            have ho2 : w2.ownsRow w.heap.size 32 4 v2 (trimTo l floor false (k + 1)).length ((trimTo l floor false (k + 1)).flatMap encEntry) := by rw [HT.out]; simpa [encEntry] using o2
            clear o2 g2
            go_roundw
            case rel => exact ⟨k + 1, l[k].1, by omega, by go_num, rfl, HLn.out, ho2, hb2⟩
            case measure => simp [intOf]; omega
          | true =>
            cases hd : l[k].2.2.1 with
            | true =>
              have HT := Lib.hid (trim_skip (floor := floor) (bottom := true) hlt (by rw [HK.out, HH.out, HE.out, HG.out, hd]; rfl))
              have HD := Lib.hid hd
              rw [hd] at c2 B0 B1
              clear hd
              go_wp2
              go_roundw
              case rel => exact ⟨k + 1, l[k].1, by omega, by go_num, rfl, HLn.out, by rw [HT.out]; exact HO.out.alloc _, B0⟩
              case measure => simp [intOf]; omega
            | false =>
              have HD := Lib.hid hd
              have HT := Lib.hid (trim_take (floor := floor) (bottom := true) hlt (by rw [HK.out, HH.out, HE.out, HD.out]; rfl))
              rw [hd] at c2 B0 B1
              clear hd
              go_wp2_with (at_builtin; refine wpList_append_own _ rfl _ _ 23 rfl w.heap.size 32 i0 (.agg #[.string ⟨#[]⟩, .int .i64 0, .bool false, .string ⟨#[]⟩]) 4 48 Try.underlying23 hi hz0 hz1 hz2 rfl (by decide) _ _ _ rfl ((HO.out.alloc _).alloc _) ⟨wr.heap.size + 1, 0, none⟩ 1 1 [.string l[k].1, .int .i64 l[k].2.1, .bool false, .string l[k].2.2.2] rfl rfl (cellsNew2 _ _ _ _) (by simp [Value.oneCell']) (by unfold maxLen; omega) (by omega) (by simp; omega) ?_; intro v2 w2 o2 g2 _)
              have hb2 : Below w.heap.size w w2 := (B1).grown g2 (by simp; omega) (fun q hq => (HO.out.lt q hq).1)
              have ho2 : w2.ownsRow w.heap.size 32 4 v2 (trimTo l floor true (k + 1)).length ((trimTo l floor true (k + 1)).flatMap encEntry) := by rw [HT.out]; simpa [encEntry, HD.out] using o2
              clear o2 g2
              go_roundw
              case rel => exact ⟨k + 1, l[k].1, by omega, by go_num, rfl, HLn.out, ho2, hb2⟩
              case measure => simp [intOf]; omega
        · have HG := Lib.hid (decide_eq_false g)
          have HLn := Lib.hid (show lastOk l floor (k + 1) last by have := HQ.out; rwa [if_neg e, if_neg g] at this)
          clear e
          have HT := Lib.hid (trim_take (floor := floor) (bottom := bottom) hlt (by rw [HK.out, HH.out, HE.out, HG.out]; simp))
          go_wp2_with (at_builtin; refine wpList_append_own _ rfl _ _ 23 rfl w.heap.size 32 i0 (.agg #[.string ⟨#[]⟩, .int .i64 0, .bool false, .string ⟨#[]⟩]) 4 48 Try.underlying23 hi hz0 hz1 hz2 rfl (by decide) _ _ _ rfl ((HO.out.alloc _).alloc _) ⟨wr.heap.size + 1, 0, none⟩ 1 1 [.string l[k].1, .int .i64 l[k].2.1, .bool l[k].2.2.1, .string l[k].2.2.2] rfl rfl (cellsNew2 _ _ _ _) (by simp [Value.oneCell']) (by unfold maxLen; omega) (by omega) (by simp; omega) ?_; intro v2 w2 o2 g2 _)
          have hb2 : Below w.heap.size w w2 := (B1).grown g2 (by simp; omega) (fun q hq => (HO.out.lt q hq).1)
          have ho2 : w2.ownsRow w.heap.size 32 4 v2 (trimTo l floor bottom (k + 1)).length ((trimTo l floor bottom (k + 1)).flatMap encEntry) := by rw [HT.out]; simpa [encEntry] using o2
          clear o2 g2
          go_roundw
          case rel => exact ⟨k + 1, last, by omega, by go_num, rfl, HLn.out, ho2, hb2⟩
          case measure => simp [intOf]; omega
    · have HE := Lib.hid (show trimL l floor bottom = trimTo l floor bottom k by unfold trimL; rw [show l.length = k by omega])
      go_wp2
      go_ret
      exact ⟨_, rfl, by rw [HE.out]; exact HO.out, hbel⟩

/-- what MemTrim answers, of entries that may be not ok -/
def trimV (l : List EntryD) (floor : Int) (bottom : Bool) : List EntryD := if entsB l = true then trimL l floor bottom else []
theorem trimV_no {l : List EntryD} {floor : Int} {bottom : Bool} (h : entsB l = false) : trimV l floor bottom = [] := by unfold trimV; rw [h]; rfl
theorem trimV_yes {l : List EntryD} {floor : Int} {bottom : Bool} (h : entsB l = true) : trimV l floor bottom = trimL l floor bottom := by unfold trimV; rw [if_pos h]

/-- A list of entries that a call hands back, in memory of its own. -/
def OwnE (w : World) (L : List EntryD) (e : Ending) (w' : World) : Prop := ∃ v, e = .returned v ∧ w'.ownsRow w.heap.size 32 4 v L.length (L.flatMap encEntry) ∧ Below w.heap.size w w'

set_option maxHeartbeats 800000 in
theorem specTrim_any (a : Option Addr) (ca : Nat) (l : List EntryD) (floor : Int) (bottom : Bool) (w : World) (hl : ElS 4 encEntry w a l) (hok : ∀ x ∈ l, OkEntry x) :
    Calls Try.prog 18 #[.slice a l.length ca, .int .i64 floor, .bool bottom] w (OwnE w (trimV l floor bottom)) := by
  have HX := Lib.hid hl
  clear hl
  cases h : entsB l with
  | false =>
    rw [trimV_no h]
    have H := Lib.hid h
    clear h
    go_enter Try.func18, Try.ntmps18
    go_wp2_with fail
    refine (specEntries_any _ _ l _ HX.out hok).mono ?_
    rintro e w1 ⟨rfl, b1⟩
    rw [H.out]
    go_wp2
    go_ret
    exact ⟨_, rfl, World.ownsRow_lit w1 #[] 0 b1.size (Nat.zero_le _) rfl, b1.alloc b1.size _⟩
  | true =>
    rw [trimV_yes h]
    have H := Lib.hid h
    have hn := (entsB_at h).1
    have HS := Lib.hid (entsB_at h).2.2
    have HN := Lib.hid (ents_ne h)
    clear h
    go_enter Try.func18, Try.ntmps18
    go_wp2_with fail
    refine (specEntries_any _ _ l _ HX.out hok).mono ?_
    rintro e w1 ⟨rfl, b1⟩
    rw [H.out]
    go_wp2_with fail
    refine (specTrimL_any _ _ l floor bottom _ hn (HX.out.below b1) HS.out HN.out).mono ?_
    rintro e w2 ⟨v, rfl, o2, b2⟩
    have O2 := Lib.hid o2
    clear o2
    go_wp2
    go_ret
    exact ⟨_, rfl, own_mono b1.size O2.out, b1.trans (b2.mono b1.size)⟩
end Go.Proofs.Ytbdicaanniffpaa
