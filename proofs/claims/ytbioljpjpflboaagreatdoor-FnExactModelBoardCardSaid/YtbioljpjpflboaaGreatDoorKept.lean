import Derived.Test.YtbioljpjpflboaaGreatDoorPick
import Derived.Handy
/- What calls leave as it was: more words. -/
namespace Go.Proofs.YtbioljpjpflboaaGreatDoor
open Go Go.RowKit

theorem KeptOut.alloc {S : Nat → Prop} {w0 w : World} (h : KeptOut S w0 w) (o : Obj) : KeptOut S w0 (w.alloc o) := h.trans (.of_below (below_alloc w o))
theorem KeptOut.drew {S : Nat → Prop} {w0 w : World} (h : KeptOut S w0 w) : KeptOut S w0 w.drew := h.trans (.of_below ((Below.refl _ _).drew))
theorem own_blk {g n c k : Nat} (h : (Value.slice (some ⟨g, 0, none⟩) n c).ownBlock = some k) : k = g := (Option.some.inj h).symm
theorem kept_of_grown {w w' : World} {o : Option Nat} (h : w.grownBy w' o) : KeptOut (fun k => o = some k) w w' :=
  ⟨h.os, h.tape, h.output, h.size, fun k hk hn => h.block k hk (fun e => hn e.symm)⟩
theorem KeptOut.step {S T : Nat → Prop} {w w1 w2 : World} (h : KeptOut S w w1) (k : KeptOut T w1 w2) (hT : ∀ b, T b → w.heap.size ≤ b ∨ S b) : KeptOut S w w2 :=
  ⟨k.os.trans h.os, k.tape.trans h.tape, k.output.trans h.output, Nat.le_trans h.size k.size, fun b hb hs => (k.block b (Nat.lt_of_lt_of_le hb h.size) (fun e => (hT b e).elim (fun g => by omega) hs)).trans (h.block b hb hs)⟩
theorem ElS.kept {S : Nat → Prop} {α : Type} {m : Nat} {enc : α → List Value} {w w' : World} {a : Option Addr} {l : List α} (hk : KeptOut S w w') (hs : ∀ k, a.map Addr.block = some k → ¬ S k) (h : ElS m enc w a l) : ElS m enc w' a l := by
  refine ⟨h.1, ?_⟩
  rcases h.2 with h | ⟨b, o, rfl, hc⟩
  · exact .inl h
  · refine .inr ⟨b, o, rfl, fun j hj i v hv => ?_⟩
    have h0 := hc j hj i v hv
    rw [hk.cell (by have := World.block_lt_of_cell? w _ h0; simpa using this) (hs b rfl)]
    exact h0
theorem blk_map {a : Option Addr} {n c k : Nat} (h : a.map Addr.block = some k) : (Value.slice a n c).ownBlock = some k := by
  cases a with
  | none => cases h
  | some p => exact h
theorem Rd.kept2 {S : Nat → Prop} {w w' : World} {r : Nat} {a : Option Addr} {c : Nat} {l : List UInt8} {p : Nat} (hk : KeptOut S w w') (hr : ¬ S r) (ha : l ≠ [] → ∀ x, a = some x → ¬ S x.block) (h : Rd w r a c l p) : Rd w' r a c l p := by
  obtain ⟨hb, hn, hl⟩ := h
  refine ⟨hb.kept hk hr, hn, ?_⟩
  rcases hl with hl | ⟨b, o, hab, hbr, hc⟩
  · exact .inl hl
  · by_cases h0 : l = []
    · exact .inl h0
    · refine .inr ⟨b, o, hab, hbr, fun j hj => ?_⟩
      have h1 := hc j hj
      rw [hk.cell (p := ⟨b, o + j, none⟩) (by have := World.block_lt_of_cell? w _ h1; simpa using this) (show ¬ S b from ha h0 ⟨b, o, none⟩ hab)]
      exact h1
theorem bytes_har {w : World} {a : Option Addr} {l : List UInt8} (h : BytesS w a l) : l ≠ [] → ∀ x, a = some x → x.block < w.heap.size := by
  intro hn x hx
  rcases h with h | ⟨b, o, rfl, hc⟩
  · exact absurd h hn
  · cases hx
    exact bytes_lt hn hc
theorem bytes_below {w w' : World} {a : Option Addr} {l : List UInt8} (hb : Below w.heap.size w w') (h : BytesS w a l) : BytesS w' a l := by
  rcases h with h | ⟨b, o, rfl, hc⟩
  · exact .inl h
  · refine .inr ⟨b, o, rfl, fun j hj => ?_⟩
    have h0 := hc j hj
    rw [hb.cell (by have := World.block_lt_of_cell? w _ h0; simpa using this)]
    exact h0
theorem rd_har {w : World} {r : Nat} {a : Option Addr} {c : Nat} {l : List UInt8} {p : Nat} (h : Rd w r a c l p) : l ≠ [] → ∀ x, a = some x → x.block < w.heap.size := by
  intro hn x hx
  rcases h.2.2 with h | ⟨b, o, rfl, _, hc⟩
  · exact absurd h hn
  · cases hx
    exact bytes_lt hn hc
end Go.Proofs.YtbioljpjpflboaaGreatDoor
