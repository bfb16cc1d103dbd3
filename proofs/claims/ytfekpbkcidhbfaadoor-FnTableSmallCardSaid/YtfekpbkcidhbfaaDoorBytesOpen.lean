import Derived.Test.YtfekpbkcidhbfaaDoorPick
import Derived.Test.YtfekpbkcidhbfaaDoorOpen
/- How an argument that is a list of bytes is opened. -/
namespace Go.Proofs.YtfekpbkcidhbfaaDoor
open Go Go.RowKit Go.ChangeShapes Go.WideShapes

set_option maxRecDepth 100000 in
theorem open_bytesV {H : Type} {enc : TypeId × Value → H} {w : World} {r : Reach} {b0 : Nat} {v : Value} {d : DataW H} {p : List MemPlace} (hv : Value.okWide Tryd.prog w r b0 29 v) (h : DataW.Trod enc Tryd.prog w 0 (fun _ => true) true 29 v d p) :
    ∃ a c l, v = .slice a (List.length l) c ∧ l.length ≤ c ∧ c ≤ maxLen ∧ BytesS w a l := by
  obtain ⟨a0, len0, cap0, rfl⟩ := okWide_slice Tryd.underlying29 hv
  obtain ⟨fuel, hf⟩ := h
  rcases open_ints Tryd.underlying29 Tryd.underlying5 (by kernel_rfl) hf with ⟨hcs, _⟩ | ⟨x, len, cap, zs, hcs, _, hl, hm, hz, _, hcell, hwz⟩
  · simp [Value.cells] at hcs
    obtain ⟨rfl, rfl, rfl⟩ := hcs
    exact ⟨none, 0, [], rfl, by simp, by simp [maxLen], .inl rfl⟩
  · simp [Value.cells] at hcs
    obtain ⟨rfl, rfl, rfl⟩ := hcs
    have hz' : zs.length = cap0 := by simpa using hz
    have hln : ((zs.take len0).map fun z => UInt8.ofNat z.toNat).length = len0 := by rw [List.length_map, List.length_take]; omega
    refine ⟨some x, cap0, (zs.take len0).map fun z => UInt8.ofNat z.toNat, by rw [hln], by rw [hln]; exact hl, hm, ?_⟩
    by_cases h0 : len0 = 0
    · exact .inl (by rw [h0]; rfl)
    · have hsp := add_spot (hcell 0 (by omega))
      refine .inr ⟨x.block, x.off, ?_, fun j hj => ?_⟩
      · obtain ⟨b, o, sp⟩ := x
        simp only at hsp
        rw [hsp]
      · rw [hln] at hj
        rw [add_at hsp (hcell j (by omega))]
        have hw := hwz zs[j] (List.getElem_mem _)
        have hb := bounds_u8 hw
        have hg : zs.getD j 0 = zs[j] := by simp [List.getD, List.getElem?_eq_getElem (show j < zs.length by omega)]
        rw [hg]
        simp only [List.getElem_map, List.getElem_take, UInt8.toNat_ofNat']
        congr 2
        omega
end Go.Proofs.YtfekpbkcidhbfaaDoor
