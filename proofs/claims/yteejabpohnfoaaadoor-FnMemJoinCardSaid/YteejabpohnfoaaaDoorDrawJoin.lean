import Derived.Test.YteejabpohnfoaaaDoorDrawList
/- Two drawn lists of entries. -/
namespace Go.Proofs.YteejabpohnfoaaaDoor
open Go Go.RowKit

def JoinPost (w : World) (e : Ending) (w' : World) : Prop :=
  ∃ (b : Option Addr) (cb : Nat) (L : List EntryD) (b2 : Option Addr) (cb2 : Nat) (M : List EntryD), e = .returned (.tuple #[.slice b L.length cb, .slice b2 M.length cb2]) ∧ ElS 4 encEntry w' b L ∧ ElS 4 encEntry w' b2 M ∧ AnyE L ∧ AnyE M ∧ L.length ≤ 241 ∧ M.length ≤ 240 ∧ Below w.heap.size w w'
set_option maxRecDepth 100000 in
set_option maxHeartbeats 1600000 in
theorem drawJoin_any (a : Option Addr) (c : Nat) (l : List UInt8) (w : World) (hl : l.length ≤ c) (hc : c ≤ maxLen) (h : BytesS w a l) :
    Calls Tryd.prog 24 #[.slice a l.length c] w (JoinPost w) := by
  go_enter Tryd.func24, Tryd.ntmps24
  go_wp2_with fail
  refine (open_any a c l _ hl hc h).mono ?_
  rintro e w1 ⟨c1, l1, rfl, h1, b1⟩
  have z1 : w.heap.size < w1.heap.size := h1.lt
  have H1 := Lib.hid h1
  clear h1
  go_wp2_with fail
  refine (anyE_any _ w.heap.size a c1 l1 0 (by omega) H1.out).mono ?_
  rintro e w2 ⟨b, cb, L, p2, rfl, e2, hcb, hb, hE, hn, h2, hp2, k2⟩
  have z2 := k2.size
  have E2 := Lib.hid e2
  have HB := Lib.hid hb
  have HE := Lib.hid hE
  have H2 := Lib.hid h2
  have K2 := Lib.hid k2
  clear e2 hb hE h2 k2 H1
  go_wp2_with fail
  refine (l12Entries_any _ w.heap.size a c1 l1 p2 (by omega) H2.out).mono ?_
  rintro e w3 ⟨b3, cb3, M, p3, rfl, e3, hcb3, hb3, hE3, hn3, h3, hp3, k3⟩
  have E3 := Lib.hid e3
  have HE3 := Lib.hid hE3
  have EL := Lib.hid (E2.out.kept k3 (fun k hk e => by have := HB.out k hk; omega))
  have K3 := Lib.hid (K2.out.trans k3)
  clear e3 hE3 h3 k3 E2 H2 K2
  go_wp2
  go_returns
  exact ⟨b, cb, L, b3, cb3, M, rfl, EL.out, E3.out, HE.out, HE3.out, hn, hn3, K3.out.below b1 b1.size (fun k hk => by omega)⟩
end Go.Proofs.YteejabpohnfoaaaDoor
