import Derived.Test.YtbdicaanniffpaaSpoilEnts
/- Drawn lists of entries with a moment, and with a beginning. -/
namespace Go.Proofs.Ytbdicaanniffpaa
open Go Go.RowKit

def TrimPost (w : World) (e : Ending) (w' : World) : Prop :=
  ∃ (b : Option Addr) (cb : Nat) (L : List EntryD) (q : Int) (z : Bool), e = .returned (.tuple #[.slice b L.length cb, .int .i64 q, .bool z]) ∧ ElS 4 encEntry w' b L ∧ L.length ≤ cb ∧ AnyE L ∧ L.length ≤ 241 ∧ 0 ≤ q ∧ q < 11 ∧ Below w.heap.size w w'
def ScanPost (w : World) (e : Ending) (w' : World) : Prop :=
  ∃ (b : Option Addr) (cb : Nat) (L : List EntryD) (s : ByteArray) (q : Int), e = .returned (.tuple #[.slice b L.length cb, .string s, .int .i64 q]) ∧ ElS 4 encEntry w' b L ∧ L.length ≤ cb ∧ AnyE L ∧ L.length ≤ 241 ∧ s.size ≤ 24 ∧ 0 ≤ q ∧ q < 11 ∧ Below w.heap.size w w'

set_option maxRecDepth 100000 in
set_option maxHeartbeats 1600000 in
theorem drawTrim_any (a : Option Addr) (c : Nat) (l : List UInt8) (w : World) (hl : l.length ≤ c) (hc : c ≤ maxLen) (h : BytesS w a l) :
    Calls Try.prog 16 #[.slice a l.length c] w (TrimPost w) := by
  go_enter Try.func16, Try.ntmps16
  go_wp2_with fail
  refine (open_any a c l _ hl hc h).mono ?_
  rintro e w1 ⟨c1, l1, rfl, h1, b1⟩
  have z1 : w.heap.size < w1.heap.size := h1.lt
  have H1 := Lib.hid h1
  clear h1
  go_wp2_with fail
  refine (anyE_any _ w.heap.size a c1 l1 0 (by omega) H1.out).mono ?_
  rintro e w2 ⟨b, cb, L, p2, rfl, e2, hcb, hb, hE, hn, h2, hp2, k2⟩
  have z2 := k2.size
  have E2 := Lib.hid e2
  have HB := Lib.hid hb
  have HE := Lib.hid hE
  have H2 := Lib.hid h2
  have K2 := Lib.hid k2
  clear e2 hb hE h2 k2 H1
  go_wp2_with fail
  refine (pick_any 11 _ w.heap.size a c1 l1 p2 (by omega) (by omega) (by omega) H2.out).mono ?_
  rintro e w3 ⟨q3, rfl, q30, q31, h3, k3⟩
  have q31' := q31 (by omega)
  have z3 := k3.size
  have H3 := Lib.hid h3
  have E3 := Lib.hid (E2.out.kept k3 (fun k hk e => by have := HB.out k hk; omega))
  have K3 := Lib.hid (K2.out.trans k3)
  clear h3 k3 q31 E2 K2 H2
  go_wp2_with fail
  refine (pick_any 2 _ w.heap.size a c1 l1 (p2 + 1) (by omega) (by omega) (by omega) H3.out).mono ?_
  rintro e w4 ⟨q4, rfl, q40, q41, h4, k4⟩
  have q41' := q41 (by omega)
  have z4 := k4.size
  have H4 := Lib.hid h4
  have E4 := Lib.hid (E3.out.kept k4 (fun k hk e => by have := HB.out k hk; omega))
  have K4 := Lib.hid (K3.out.trans k4)
  clear h4 k4 q41 E3 K3 H3
  go_wp2
  go_returns
  exact ⟨b, cb, L, q3, _, rfl, E4.out, hcb, HE.out, hn, q30, q31', K4.out.below b1 b1.size (fun k hk => by omega)⟩
set_option maxRecDepth 100000 in
set_option maxHeartbeats 1600000 in
theorem drawScan_any (a : Option Addr) (c : Nat) (l : List UInt8) (w : World) (hl : l.length ≤ c) (hc : c ≤ maxLen) (h : BytesS w a l) :
    Calls Try.prog 9 #[.slice a l.length c] w (ScanPost w) := by
  go_enter Try.func9, Try.ntmps9
  go_wp2_with fail
  refine (open_any a c l _ hl hc h).mono ?_
  rintro e w1 ⟨c1, l1, rfl, h1, b1⟩
  have z1 : w.heap.size < w1.heap.size := h1.lt
  have H1 := Lib.hid h1
  clear h1
  go_wp2_with fail
  refine (anyE_any _ w.heap.size a c1 l1 0 (by omega) H1.out).mono ?_
  rintro e w2 ⟨b, cb, L, p2, rfl, e2, hcb, hb, hE, hn, h2, hp2, k2⟩
  have z2 := k2.size
  have E2 := Lib.hid e2
  have HB := Lib.hid hb
  have HE := Lib.hid hE
  have H2 := Lib.hid h2
  have K2 := Lib.hid k2
  clear e2 hb hE h2 k2 H1
  go_wp2_with fail
  refine (of_any _ w.heap.size a c1 l1 p2 (by omega) (H2.out.below (below_alloc w2 _)) w2.heap.size 0 6 litP (by decide) (by decide) (by omega) (lit_cells w2 litP _)).mono ?_
  rintro e w3 ⟨s, hs, rfl, h3, k3⟩
  have z3 := k3.size
  simp only [World.size_alloc] at z3
  have H3 := Lib.hid h3
  have E3 := Lib.hid ((E2.out.below (below_alloc w2 _)).kept k3 (fun k hk e => by have := HB.out k hk; omega))
  have K3 := Lib.hid ((K2.out.trans (KeptOut.of_below (S := fun b => b = w.heap.size) (below_alloc w2 _))).trans k3)
  clear h3 k3 E2 K2 H2
  go_wp2_with fail
  refine (pick_any 11 _ w.heap.size a c1 l1 (p2 + 1) (by omega) (by omega) (by omega) H3.out).mono ?_
  rintro e w4 ⟨q4, rfl, q40, q41, h4, k4⟩
  have q41' := q41 (by omega)
  have z4 := k4.size
  have H4 := Lib.hid h4
  have E4 := Lib.hid (E3.out.kept k4 (fun k hk e => by have := HB.out k hk; omega))
  have K4 := Lib.hid (K3.out.trans k4)
  clear h4 k4 q41 E3 K3 H3
  go_wp2
  go_returns
  exact ⟨b, cb, L, s, q4, rfl, E4.out, hcb, HE.out, hn, litP_size s hs, q40, q41', K4.out.below b1 b1.size (fun k hk => by omega)⟩
end Go.Proofs.Ytbdicaanniffpaa
