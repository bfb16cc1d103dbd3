import Derived.Test.YtfekpbkcidhbfaaDoorTabI
import Derived.Test.YtfekpbkcidhbfaaDoorSpoilAll
/- The walk of FnTableSmall. -/
namespace Go.Proofs.YtfekpbkcidhbfaaDoor
open Go Go.RowKit

theorem neT {s : ByteArray} (h : s ≠ ⟨#[]⟩) : s.toList.isEmpty = false := by
  cases q : s.toList.isEmpty with
  | false => rfl
  | true => exact absurd (toList_inj (y := ⟨#[]⟩) (by rw [List.isEmpty_iff.1 q]; simp)) h
def TmPost (w : World) (e : Ending) (w' : World) : Prop :=
  ∃ (b : Option Addr) (cb : Nat) (L : List EntryD), e = .returned (.slice b L.length cb) ∧ ElS 4 encEntry w' b L ∧ AnyE L ∧ L.length ≤ 241 ∧ Below w.heap.size w w'
set_option maxRecDepth 100000 in
set_option maxHeartbeats 1600000 in
theorem drawTM_any (a : Option Addr) (c : Nat) (l : List UInt8) (w : World) (hl : l.length ≤ c) (hc : c ≤ maxLen) (h : BytesS w a l) :
    Calls Tryd.prog 10 #[.slice a l.length c] w (TmPost w) := by
  go_enter Tryd.func10, Tryd.ntmps10
  go_wp2_with fail
  refine (open_any a c l _ hl hc h).mono ?_
  rintro e w1 ⟨c1, l1, rfl, h1, b1⟩
  have z1 : w.heap.size < w1.heap.size := h1.lt
  have H1 := Lib.hid h1
  clear h1
  go_wp2_with fail
  refine (anyE_any _ w.heap.size a c1 l1 0 (by omega) H1.out).mono ?_
  rintro e w2 ⟨b, cb, L, p2, rfl, e2, hcb, hb, hE, hn, h2, hp2, k2⟩
  have E2 := Lib.hid e2
  have HE := Lib.hid hE
  have K2 := Lib.hid k2
  clear e2 hb hE h2 k2 H1
  go_wp2
  go_ret
  exact ⟨b, cb, L, rfl, E2.out, HE.out, hn, K2.out.below b1 b1.size (fun k hk => by omega)⟩
def mostTo (l : List EntryD) : Nat → Nat
  | 0 => 40
  | k + 1 => mostTo l k + (l.getD k (⟨#[]⟩, 0, false, ⟨#[]⟩)).1.size + (l.getD k (⟨#[]⟩, 0, false, ⟨#[]⟩)).2.2.2.size + 20
theorem mostTo_next {l : List EntryD} {k : Nat} (h : k < l.length) : mostTo l (k + 1) = mostTo l k + l[k].1.size + l[k].2.2.2.size + 20 := by
  rw [mostTo]
  simp [List.getD_eq_getElem?_getD, h]
theorem mostTo_le {l : List EntryD} (h : AnyE l) : ∀ k, k ≤ l.length → mostTo l k ≤ 40 + 6020 * k
  | 0, _ => Nat.le_refl _
  | k + 1, hk => by
    have ih := mostTo_le h k (by omega)
    rw [mostTo_next hk]
    have := h l[k] (List.getElem_mem _)
    omega
theorem lines_most {l : List EntryD} (h : entsB l = true) : ∀ k, k ≤ l.length → (linesTo l k).size + 40 ≤ mostTo l k
  | 0, _ => by unfold linesTo mostTo; exact Nat.le_refl _
  | k + 1, hk => by
    have ih := lines_most h k (by omega)
    rw [mostTo_next hk, linesTo_next hk, ByteArray.size_append]
    have := lineB_size (lastK l k) ((entsB_at h).2.1 k hk)
    omega
theorem table_most {l : List EntryD} (h : tableV l ≠ ⟨#[]⟩) : (tableV l).size ≤ mostTo l l.length := by
  cases he : entsB l with
  | false => exact absurd (tableV_no he) h
  | true =>
    by_cases hb : (tableB l).size ≤ 7000
    · rw [tableV_yes he hb]
      unfold tableB
      rw [ByteArray.size_append]
      have h1 := headB_size (entsB_at he).1
      have h2 := lines_most he l.length (Nat.le_refl _)
      omega
    · exact absurd (tableV_long he hb) h
set_option maxRecDepth 100000 in
set_option maxHeartbeats 2000000 in
theorem fnTableSmallWalk (a : Option Addr) (c : Nat) (l : List UInt8) (hl : l.length ≤ c) (hc : c ≤ maxLen) {w : World} (h : BytesS w a l) (ht : HashT w) (htab : Lib.TabIs Tryd.prog w "internal/strconv.uint64pow10" .u64 Lib.pow10Tab) :
    Calls Tryd.prog 4 #[.slice a l.length c] w fun e w' => e = .returned (.bool true) ∧ Below w.heap.size w w' := by
  have hcl := hc
  unfold maxLen at hcl
  have HT := Lib.hid ht
  have HP := Lib.hid htab
  clear ht htab
  by_cases hb : (1048576 : Int) < (l.length : Int)
  · go_enter Tryd.func4, Tryd.ntmps4
    go_wp2
    go_ret
    exact ⟨rfl, Below.refl _ _⟩
  have hb' : (l.length : Int) ≤ 1048576 := by omega
  clear hb
  go_enter Tryd.func4, Tryd.ntmps4
  go_wp2_with fail
  refine (drawTM_any a c l _ hl hc h).mono ?_
  rintro e w1 ⟨b, cb, L, rfl, e1, hE, hn, b1⟩
  have E1 := Lib.hid e1
  have HE := Lib.hid hE
  have B1 := Lib.hid b1
  clear e1 hE b1
  obtain ⟨T, hT⟩ : ∃ T, tableV L = T := ⟨_, rfl⟩
  have HTV := Lib.hid hT
  clear hT
  go_wp2_with fail
  refine (implTable_any _ _ L _ E1.out HE.out.ok (HT.out.below B1.out) (tab_below HP.out B1.out)).mono ?_
  rw [HTV.out]
  rintro e w2 ⟨rfl, b⟩
  have E2 := Lib.hid (E1.out.below b)
  have B2 := Lib.hid (B1.out.trans (b.mono B1.out.size))
  clear b E1 B1
  go_wp2_with fail
  refine (specTable_any _ _ L _ E2.out HE.out.ok).mono ?_
  rw [HTV.out]
  rintro e w3 ⟨rfl, b⟩
  have E3 := Lib.hid (E2.out.below b)
  have B3 := Lib.hid (B2.out.trans (b.mono B2.out.size))
  clear b E2 B2
  have q0 : (T.toList == T.toList) = true := by simp
  by_cases hTe : T = ⟨#[]⟩
  · have q1 : T.toList.isEmpty = true := by rw [hTe]; simp
    clear hTe
    go_wp2_with fail
    refine (specTable_any _ _ L _ E3.out HE.out.ok).mono ?_
    rw [HTV.out]
    rintro e w4 ⟨rfl, b⟩
    have B4 := Lib.hid (B3.out.trans (b.mono B3.out.size))
    clear b
    go_wp2
    go_ret
    exact ⟨rfl, B4.out⟩
  · have q1 : T.toList.isEmpty = false := neT hTe
    have HM := Lib.hid (show T.size ≤ mostTo L L.length by rw [← HTV.out]; exact table_most (by rw [HTV.out]; exact hTe))
    clear hTe
    go_wp2
    go_loopg [5, 6] L.length (fun q v5 v6 wr => ∃ k : Nat, k + q = L.length ∧ v6 = .int .i64 k ∧ v5 = .int .i64 (mostTo L k : Nat) ∧ Below w3.heap.size w3 wr)
    case atStart => exact ⟨0, by omega, rfl, rfl, Below.refl _ _⟩
    case round =>
      obtain ⟨k, hk, rfl, rfl, hb⟩ := hrel
      have HK := Lib.hid hk
      have HB := Lib.hid hb
      clear hk hb
      by_cases hlt : k < L.length
      · have hl0 : L ≠ [] := fun e => by rw [e] at hlt; simp at hlt
        obtain ⟨ba, oa, rfl, hcc⟩ := E3.out.2.resolve_left hl0
        obtain ⟨c0, c1, c2, c3⟩ := cellsEntry HB.out hcc k hlt
        have i1 : (k : Int) < (L.length : Int) := by omega
        have i2 : (0 : Int) ≤ (k : Int) := by omega
        have HN := Lib.hid (mostTo_next hlt)
        have hmo := mostTo_le HE.out k (by omega)
        have hsz := HE.out L[k] (List.getElem_mem _)
        obtain ⟨M, hM⟩ : ∃ M, mostTo L k = M := ⟨_, rfl⟩
        rw [hM] at HN hmo
        rw [hM]
        clear hM hl0 hcc
        go_wp2_with fail
        go_quiet (fail)
        go_wp2
        go_roundg (gk - 1)
        case measure => have := HK.out; omega
        case rel => exact ⟨k + 1, by have := HK.out; omega, by go_num, by rw [HN.out]; go_num, below_drewN HB.out nq⟩
      · have hke : k = L.length := by have := HK.out; omega
        have i1 : ¬ (k : Int) < (L.length : Int) := by omega
        have i2 : (T.size : Int) ≤ ((mostTo L k : Nat) : Int) := by have := HM.out; rw [hke]; omega
        clear hke
        go_wp2
        go_ret
        exact ⟨rfl, B3.out.trans (HB.out.mono B3.out.size)⟩
end Go.Proofs.YtfekpbkcidhbfaaDoor
