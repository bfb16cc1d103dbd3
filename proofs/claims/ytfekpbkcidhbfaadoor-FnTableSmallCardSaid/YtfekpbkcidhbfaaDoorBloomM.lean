import Derived.Test.YtfekpbkcidhbfaaDoorBloomI
/- Bits of keys, of the program: BloomMake. -/
namespace Go.Proofs.YtfekpbkcidhbfaaDoor
open Go Go.RowKit

theorem add_is {P : Nat} {f g : Nat → Bool} {x u : ByteArray} (hu : shaS x = u) (hg : stepF f u 3 = g) (hm : x.size ≤ 549755813888) (w : World) (ht : HashT w) (hbx : Box w P (figV f)) :
    Calls Tryd.prog 16 #[.pointer (some ⟨P, 0, none⟩), .string x] w fun e w' => (∃ v, e = .returned v) ∧ Box w' P (figV g) ∧ KeptOut (fun b => b = P) w w' := by
  subst hg
  exact add_any P f x u hu hm w ht hbx
end Go.Proofs.YtfekpbkcidhbfaaDoor
