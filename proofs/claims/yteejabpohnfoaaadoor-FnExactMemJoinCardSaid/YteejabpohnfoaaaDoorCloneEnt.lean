import Derived.Test.YteejabpohnfoaaaDoorEntry
import Derived.Test.YteejabpohnfoaaaDoorApp
import Derived.Test.YteejabpohnfoaaaDoorShape
import Derived.WalkSpells
import Derived.WalkSmall
import Derived.Lib.SliceRun
/- slices.Clone of a list of Entry. -/
namespace Go.Proofs.YteejabpohnfoaaaDoor
open Go Go.RowKit

theorem oneEntC {l : List EntryD} : ∀ u ∈ l.flatMap encEntry, u.oneCell' = true := by
  intro u hu
  obtain ⟨x, _, hx⟩ := List.mem_flatMap.1 hu
  simp only [encEntry, List.mem_cons, List.not_mem_nil, or_false] at hx
  rcases hx with rfl | rfl | rfl | rfl <;> rfl
set_option maxRecDepth 100000 in
set_option maxHeartbeats 1000000 in
theorem cloneEnt_any (a : Option Addr) (c : Nat) (l : List EntryD) (w : World) (hl : ElS 4 encEntry w a l) (hlen : l.length ≤ 1048576) (hn : a = none → l.length = 0 ∧ c = 0) :
    Calls Tryd.prog 29 #[.slice a l.length c] w (fun e w' => ∃ v, e = .returned v ∧ w'.ownsRow w.heap.size 31 4 v l.length (l.flatMap encEntry) ∧ Below w.heap.size w w') := by
  obtain ⟨i0, hi, hz0, hz1, hz2⟩ := info_parts infoEntry
  have HX := Lib.hid (src_el encEntry_len (by decide) hl)
  cases a with
  | none =>
    obtain ⟨h0, rfl⟩ := hn rfl
    have HL := Lib.hid (show l = [] from List.eq_nil_of_length_eq_zero h0)
    obtain rfl : l = [] := HL.out
    clear h0 hn hl
    have hnil : (binOp .eql 27 (.slice none ([] : List EntryD).length 0) (.slice none 0 0)).run Tryd.prog w = .ok (.bool true) w := Lib.run_eql_slice_nil w _ _ _ _ _ _ _ Tryd.underlying27
    simp only [List.length_nil] at hnil
    go_enter Tryd.func29, Tryd.ntmps29
    go_wp2
    go_ret
    exact ⟨_, rfl, World.ownsRow_nil _ _ _ _, Below.refl _ _⟩
  | some x =>
    obtain ⟨b, o, sp⟩ := x
    clear hl hn
    have hnil : (binOp .eql 27 (.slice (some ⟨b, o, sp⟩) l.length c) (.slice none 0 0)).run Tryd.prog w = .ok (.bool false) w := Lib.run_eql_slice_nil w _ _ _ _ _ _ _ Tryd.underlying27
    have O0 := Lib.hid (World.ownsRow_made (e := 31) (size := 4) w #[] 0 (Nat.le_refl _) (by unfold maxLen; omega) rfl)
    go_enter Tryd.func29, Tryd.ntmps29
    go_wp2_with (at_builtin; refine wpList_append_src _ rfl _ _ 27 rfl w.heap.size 31 i0 (.agg #[.string ⟨#[]⟩, .int .i64 0, .bool false, .string ⟨#[]⟩]) 4 48 Tryd.underlying27 hi hz0 hz1 hz2 rfl (by decide) _ 0 [] rfl O0.out (some ⟨b, o, sp⟩) l.length c (l.flatMap encEntry) rfl (HX.out.below (below_alloc w _)) oneEntC (by unfold maxLen; omega) (by omega) (by simp) ?_; intro v2 w2 o2 g2 _)
    have B2 := Lib.hid (show Below w.heap.size w w2 from (below_alloc w _).grown g2 (by simp) (fun k hk => (O0.out.lt k hk).1))
    have O2 := Lib.hid (show w2.ownsRow w.heap.size 31 4 v2 l.length (l.flatMap encEntry) by have h := o2; rwa [Nat.zero_add, List.nil_append] at h)
    clear o2 g2 hnil
    go_wp2
    go_ret
    exact ⟨_, rfl, O2.out, B2.out⟩
end Go.Proofs.YteejabpohnfoaaaDoor
