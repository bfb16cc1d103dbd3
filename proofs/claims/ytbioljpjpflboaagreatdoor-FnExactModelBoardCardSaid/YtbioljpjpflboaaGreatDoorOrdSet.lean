import Derived.Test.YtbioljpjpflboaaGreatDoorStrOrd
import Derived.Test.YtbioljpjpflboaaGreatDoorName
import Derived.Test.YtbioljpjpflboaaGreatDoorApp
import Derived.Test.YtbioljpjpflboaaGreatDoorShape
import Derived.RangeFuncBox
import Derived.WalkSpells
import Derived.WalkSmall
import Derived.Lib.SliceRun
import Derived.Deep.QuietTactic
import Derived.BigQuiet
/- A set of marks, in order; copies of lists of texts. -/
namespace Go.Proofs.YtbioljpjpflboaaGreatDoor
open Go Go.RowKit

theorem infoStrO : (Tryz.prog.info? 9).map (fun i => (i.zero, i.size, i.bytes)) = some (some (.string ⟨#[]⟩), 1, 16) := by kernel_rfl
def ClonePost (w : World) (l : List ByteArray) (e : Ending) (w' : World) : Prop := ∃ v, e = .returned v ∧ w'.ownsRow w.heap.size 9 1 v l.length (l.map .string) ∧ Below w.heap.size w w'
set_option maxRecDepth 100000 in
set_option maxHeartbeats 1000000 in
theorem cloneStr_any (a : Option Addr) (c : Nat) (l : List ByteArray) (w : World) (hl : StrS w a l) (hlen : l.length ≤ 1048576) (hn : a = none → l.length = 0 ∧ c = 0) :
    Calls Tryz.prog 146 #[.slice a l.length c] w (ClonePost w l) := by
  obtain ⟨i0, hi, hz0, hz1, hz2⟩ := info_parts infoStrO
  have HX := Lib.hid (src_str hl)
  cases a with
  | none =>
    obtain ⟨h0, rfl⟩ := hn rfl
    have HL := Lib.hid (show l = [] from List.eq_nil_of_length_eq_zero h0)
    obtain rfl : l = [] := HL.out
    clear h0 hn hl
    have hnil : (binOp .eql 55 (.slice none ([] : List ByteArray).length 0) (.slice none 0 0)).run Tryz.prog w = .ok (.bool true) w := Lib.run_eql_slice_nil w _ _ _ _ _ _ _ Tryz.underlying55
    simp only [List.length_nil] at hnil
    go_enter Tryz.func146, Tryz.ntmps146
    go_wp2
    go_ret
    exact ⟨_, rfl, World.ownsRow_nil _ _ _ _, Below.refl _ _⟩
  | some x =>
    obtain ⟨b, o, sp⟩ := x
    clear hl hn
    have hnil : (binOp .eql 55 (.slice (some ⟨b, o, sp⟩) l.length c) (.slice none 0 0)).run Tryz.prog w = .ok (.bool false) w := Lib.run_eql_slice_nil w _ _ _ _ _ _ _ Tryz.underlying55
    have O0 := Lib.hid (World.ownsRow_made (e := 9) (size := 1) w #[] 0 (Nat.le_refl _) (by unfold maxLen; omega) rfl)
    go_enter Tryz.func146, Tryz.ntmps146
    go_wp2_with (at_builtin; refine wpList_append_src _ rfl _ _ 55 rfl w.heap.size 9 i0 (.string ⟨#[]⟩) 1 16 Tryz.underlying55 hi hz0 hz1 hz2 rfl (by decide) _ 0 [] rfl O0.out (some ⟨b, o, sp⟩) l.length c (l.map .string) rfl (HX.out.below (below_alloc w _)) (fun u hu => by obtain ⟨y, _, rfl⟩ := List.mem_map.1 hu; rfl) (by unfold maxLen; omega) (by omega) (by simp) ?_; intro v2 w2 o2 g2 _)
    have B2 := Lib.hid (show Below w.heap.size w w2 from (below_alloc w _).grown g2 (by simp) (fun k hk => (O0.out.lt k hk).1))
    have O2 := Lib.hid (show w2.ownsRow w.heap.size 9 1 v2 l.length (l.map .string) by have h := o2; rwa [Nat.zero_add, List.nil_append] at h)
    clear o2 g2 hnil
    go_wp2
    go_ret
    exact ⟨_, rfl, O2.out, B2.out⟩

attribute [local go_sem] run_geqS
/-- an ordered set of texts of one's own -/
def OrdPost (w : World) (l : List ByteArray) (e : Ending) (w' : World) : Prop :=
  (ascTo l l.length = false ∧ e = .returned (.tuple #[.agg #[.slice none 0 0], .bool false]) ∧ Below w.heap.size w w') ∨
  (ascTo l l.length = true ∧ ∃ v, e = .returned (.tuple #[.agg #[v], .bool true]) ∧ w'.ownsRow w.heap.size 9 1 v l.length (l.map .string) ∧ Below w.heap.size w w')
theorem ascTo_one (l : List ByteArray) : ascTo l (min 1 l.length) = true := by
  rcases Nat.eq_zero_or_pos l.length with h | h
  · rw [h]; rfl
  · rw [Nat.min_eq_left h]; rfl

set_option maxRecDepth 100000 in
set_option maxHeartbeats 1000000 in
theorem orderSetOf_any (a : Option Addr) (c : Nat) (l : List ByteArray) (w : World) (hl : StrS w a l) (hlen : l.length ≤ 1048576) (hn : a = none → l.length = 0 ∧ c = 0) :
    Calls Tryz.prog 126 #[.slice a l.length c] w (OrdPost w l) := by
  have HX := Lib.hid hl
  have HN := Lib.hid hn
  obtain ⟨hl1, _, hl⟩ := hl
  clear hn
  go_enter Tryz.func126, Tryz.ntmps126
  go_wp2
  go_loopw [4] (fun i wr => ∃ k : Nat, 1 ≤ k ∧ i = .int .i64 k ∧ ascTo l (min k l.length) = true ∧ Below w.heap.size w wr ∧ Boxed wr w.heap.size 161 (.slice none 0 0)) (fun i _ => l.length - (intOf i).toNat)
  case atStart => exact ⟨1, Nat.le_refl _, rfl, ascTo_one l, below_alloc _ _, Boxed.new w _ _⟩
  case round =>
    obtain ⟨k, hk, rfl, hasc, hbel, hbx⟩ := hrel
    have HA := Lib.hid hasc
    have HB := Lib.hid hbel
    have HBX := Lib.hid hbx
    have cb := hbx.cell
    have fb := hbx.frozen
    clear hasc hbel hbx
    by_cases hlt : k < l.length
    · obtain ⟨b, o, rfl, hcell⟩ := hl.resolve_left (fun e => by subst e; simp at hlt)
      have hbl : b < w.heap.size := by have := World.block_lt_of_cell? w _ (hcell k hlt); simpa using this
      have hk1 : (k : Int) < (l.length : Int) := by omega
      obtain ⟨m, hm⟩ : ∃ m, m + 1 = k := ⟨k - 1, by omega⟩
      have hml : m < l.length := by omega
      have c1 : wr.cell? ⟨b, o + k, none⟩ = some (.string l[k]) := (HB.out.cell (by simpa using hbl)).trans (hcell k hlt)
      have c0 : wr.cell? ⟨b, o + m, none⟩ = some (.string l[m]) := (HB.out.cell (by simpa using hbl)).trans (hcell m hml)
      have hki := wrap_sub hm.symm (by omega)
      have hm0 : (m : Int) < (l.length : Int) := by omega
      have hm1 : (0 : Int) ≤ (m : Int) := by omega
      have hkm : (k : Int) - 1 = (m : Int) := by omega
      have hwm : IntKind.i64.wrap (m : Int) = (m : Int) := by have h := hki; rw [hkm] at h; exact h
      have hk0 : (0 : Int) ≤ (k : Int) := by omega
      have HKS := Lib.hid (show ascTo l (min (k + 1) l.length) = (decide (k = 0) || ltS l[m] l[k]) by
        have e1 : min (k + 1) l.length = k + 1 := by omega
        have e2 : min k l.length = k := by omega
        have h0 := HA.out
        rw [e2] at h0
        rw [e1, ascTo_succ, h0, getD_at hlt, show k - 1 = m by omega, getD_at hml]; rfl)
      have HKN := Lib.hid (show ltS l[m] l[k] = false → ascTo l l.length = false from fun h => ascTo_no hlt (by rw [getD_at hlt, show k - 1 = m by omega, getD_at hml, h]; simp; omega))
      have HM := Lib.hid hm
      clear hcell
      cases hlt2 : ltS l[m] l[k] with
      | true =>
        have q : Op.bytesLess l[m].toList l[k].toList = true := hlt2
        have HS := Lib.hid (show ascTo l (min (k + 1) l.length) = true by rw [HKS.out, hlt2]; simp)
        clear hlt2
        go_wp2
        go_quiet (fail)
        go_wp2
        go_roundw
        case rel => exact ⟨k + 1, by omega, by go_num, HS.out, below_drewN HB.out _, HBX.out⟩
        case measure => simp [intOf]; omega
      | false =>
        have q : Op.bytesLess l[m].toList l[k].toList = false := hlt2
        have HS := Lib.hid (HKN.out hlt2)
        clear hlt2
        go_wp2
        go_quiet (fail)
        go_wp2
        refine bodyPost_ret (v := .tuple #[.agg #[.slice none 0 0], .bool false]) (by simp [results, Tryz.results126, go_sem, cb]) rfl (.inl ⟨HS.out, rfl, ?_⟩)
        exact (below_drewN HB.out _).setCell (Nat.le_refl _) _
    · have HS := Lib.hid (show ascTo l l.length = true by have h := HA.out; rwa [Nat.min_eq_right (by omega)] at h)
      go_wp2_with fail
      refine (cloneStr_any a c l _ (HX.out.below HB.out) hlen HN.out).mono ?_
      rintro e w2 ⟨v, rfl, o2, b2⟩
      have O2 := Lib.hid o2
      have B2 := Lib.hid (HB.out.trans (b2.mono HB.out.size))
      have hz := b2.size
      have hzw := HB.out.size
      obtain ⟨va, vc, rfl⟩ := own_shape o2
      have cb2 := (HBX.out.kept (grown_of_below b2) (by simp)).cell
      have fb2 := (HBX.out.kept (grown_of_below b2) (by simp)).frozen
      clear o2 b2 cb fb
      go_wp2
      refine bodyPost_ret (v := .tuple #[.agg #[.slice va l.length vc], .bool true]) (by simp [results, Tryz.results126, go_sem, cb2]) rfl (.inr ⟨HS.out, _, rfl, ?_, B2.out.setCell (Nat.le_refl _) _⟩)
      exact own_mono HB.out.size (own_kept O2.out (S := fun b => b = w.heap.size) ((KeptOut.refl (fun b => b = w.heap.size) w2).setCell (p := ⟨w.heap.size, 0, none⟩) rfl _) (fun k hk e => by have := (O2.out.lt k hk).1; have := HBX.out.lt; omega))
end Go.Proofs.YtbioljpjpflboaaGreatDoor
