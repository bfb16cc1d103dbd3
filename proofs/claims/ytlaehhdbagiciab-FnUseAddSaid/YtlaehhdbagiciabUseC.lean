import Derived.Test.YtlaehhdbagiciabUseMayI
import Derived.Test.YtlaehhdbagiciabUseAddI
import Derived.Test.YtlaehhdbagiciabKitSpaceS
import Derived.Test.YtlaehhdbagiciabKitUseS
/- What spaces use: the contracts as the exact laws want them. -/
namespace Go.Proofs.Ytlaehhdbagiciab
open Go Go.RowKit

theorem specUseMay_c {v0 v1 : Value} {l : List SpaceD} {u : List UseD} (name : ByteArray) (more : Int) {w : World} (h0 : VwSpaceS w v0 l) (h1 : VwUseS w v1 u) (hn : (bulkSpaceS l : Int) ≤ 1048576) :
    Calls Try.prog 21 #[v0, v1, .string name, .int .i64 more] w fun e w' => e = .returned (.string (mayO l u name more)) ∧ Below w.heap.size w w' := by
  obtain ⟨a, c, rfl, hl, hok⟩ := h0
  obtain ⟨b, d, rfl, hu, -⟩ := h1
  exact specUseMay_any a b c d l u name more w hl hok (bulkSpaceS_len hn) hu
theorem implUseMay_c {v0 v1 : Value} {l : List SpaceD} {u : List UseD} (name : ByteArray) (more : Int) {w : World} (h0 : VwSpaceS w v0 l) (h1 : VwUseS w v1 u) :
    Calls Try.prog 23 #[v0, v1, .string name, .int .i64 more] w fun e w' => e = .returned (.string (mayO l u name more)) ∧ Below w.heap.size w w' := by
  obtain ⟨a, c, rfl, hl, hok⟩ := h0
  obtain ⟨b, d, rfl, hu, -⟩ := h1
  exact implUseMay_any a b c d l u name more w hl hok hu
theorem specUseAdd_c {v0 v1 : Value} {l : List SpaceD} {u : List UseD} (name : ByteArray) (more : Int) {w : World} (h0 : VwSpaceS w v0 l) (h1 : VwUseS w v1 u) (hn : (bulkSpaceS l : Int) ≤ 1048576) :
    Calls Try.prog 25 #[v0, v1, .string name, .int .i64 more] w (AddPost w (addO l u name more)) := by
  obtain ⟨a, c, rfl, hl, hok⟩ := h0
  obtain ⟨b, d, rfl, hu, huk⟩ := h1
  exact specUseAdd_any a b c d l u name more w hl hok (bulkSpaceS_len hn) hu huk
theorem implUseAdd_c {v0 v1 : Value} {l : List SpaceD} {u : List UseD} (name : ByteArray) (more : Int) {w : World} (h0 : VwSpaceS w v0 l) (h1 : VwUseS w v1 u) :
    Calls Try.prog 26 #[v0, v1, .string name, .int .i64 more] w (AddPost w (addO l u name more)) := by
  obtain ⟨a, c, rfl, hl, hok⟩ := h0
  obtain ⟨b, d, rfl, hu, huk⟩ := h1
  exact implUseAdd_any a b c d l u name more w hl hok hu huk
theorem addO_small (l : List SpaceD) (u : List UseD) (name : ByteArray) (more : Int) : numUseS (addO l u name more) ≤ 68719476736 := by
  unfold numUseS addO
  split
  · next h =>
    unfold addOk at h
    simp only [Bool.and_eq_true] at h
    have h1 := (usesB_ub h.2.1).2.1
    have h2 := (sps_len h.1).2.1
    simp [addU]
    omega
  · simp
end Go.Proofs.Ytlaehhdbagiciab
