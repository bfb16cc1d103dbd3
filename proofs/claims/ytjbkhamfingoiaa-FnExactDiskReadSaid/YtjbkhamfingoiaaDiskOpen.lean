import Derived.Test.YtjbkhamfingoiaaDiskD
/- How an argument that is a disk is opened. -/
namespace Go.Proofs.Ytjbkhamfingoiaa
open Go Go.RowKit Go.ChangeShapes Go.WideShapes

set_option maxRecDepth 100000 in
theorem open_disk {H : Type} {enc : TypeId × Value → H} {w : World} {r : Reach} {b0 : Nat} {v : Value} {d : DataW H} {p : List MemPlace} (hv : Value.okWide Try.prog w r b0 51 v) (h : DataW.Trod enc Try.prog w 0 (fun _ => true) true 51 v d p) :
    ∃ x : DiskD, DiskR w v x := by
  obtain ⟨v0, v1, v2, y0, y1, y2, n, rfl, _, _, h0, h1, h2⟩ := Joins.open_agg3 Try.underlying51 (by kernel_rfl) (by kernel_rfl) hv h
  obtain ⟨a, l, c, e0, hs⟩ := open_strS Try.underlying23 Try.underlying9 (by kernel_rfl) h0
  obtain ⟨b, m, c', e1, hw, hok⟩ := open_elS encWait_len (by decide) Try.underlying49 (by kernel_rfl) openWait h1
  obtain ⟨z, e2, _, _⟩ := DataW.trod_int Try.underlying3 h2
  rw [(List.cons_eq_cons.1 e0).1, (List.cons_eq_cons.1 e1).1, (List.cons_eq_cons.1 e2).1]
  exact ⟨(l, m, z), a, c, b, c', rfl, hs, hw, hok⟩
end Go.Proofs.Ytjbkhamfingoiaa
