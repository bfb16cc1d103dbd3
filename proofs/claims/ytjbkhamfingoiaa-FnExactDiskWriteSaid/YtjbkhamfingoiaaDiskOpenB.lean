import Derived.Test.YtjbkhamfingoiaaDiskD
/- How an argument that is a disk is opened: with the bounds of its count. -/
namespace Go.Proofs.Ytjbkhamfingoiaa
open Go Go.RowKit Go.ChangeShapes Go.WideShapes

theorem i64_hi {n : Int} (h : (Lit.int .i64 n).wf = true) : n ≤ 9223372036854775807 := by
  simp only [Lit.wf, Bool.and_eq_true, decide_eq_true_eq] at h
  have h2 : IntKind.i64.max = 9223372036854775807 := by decide
  omega

set_option maxRecDepth 100000 in
theorem open_diskB {H : Type} {enc : TypeId × Value → H} {w : World} {r : Reach} {b0 : Nat} {v : Value} {d : DataW H} {p : List MemPlace} (hv : Value.okWide Try.prog w r b0 51 v) (h : DataW.Trod enc Try.prog w 0 (fun _ => true) true 51 v d p) :
    ∃ x : DiskD, DiskR w v x ∧ x.2.2 ≤ 9223372036854775807 := by
  obtain ⟨v0, v1, v2, y0, y1, y2, n, rfl, _, _, h0, h1, h2⟩ := Joins.open_agg3 Try.underlying51 (by kernel_rfl) (by kernel_rfl) hv h
  obtain ⟨a, l, c, e0, hs⟩ := open_strS Try.underlying23 Try.underlying9 (by kernel_rfl) h0
  obtain ⟨b, m, c', e1, hw, hok⟩ := open_elS encWait_len (by decide) Try.underlying49 (by kernel_rfl) openWait h1
  obtain ⟨z, e2, _, hz⟩ := DataW.trod_int Try.underlying3 h2
  rw [(List.cons_eq_cons.1 e0).1, (List.cons_eq_cons.1 e1).1, (List.cons_eq_cons.1 e2).1]
  exact ⟨(l, m, z), ⟨a, c, b, c', rfl, hs, hw, hok⟩, i64_hi hz⟩
end Go.Proofs.Ytjbkhamfingoiaa
