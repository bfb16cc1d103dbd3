import Derived.Test.YtgjfflfldddebaaDoorBloomI
/- Bits of keys, of the program: BloomMake. -/
namespace Go.Proofs.YtgjfflfldddebaaDoor
open Go Go.RowKit

theorem add_is {P : Nat} {f g : Nat → Bool} {x u : ByteArray} (hu : shaS x = u) (hg : stepF f u 3 = g) (hm : x.size ≤ 549755813888) (w : World) (ht : HashT w) (hbx : Box w P (figV f)) :
    Calls Tryd.prog 39 #[.pointer (some ⟨P, 0, none⟩), .string x] w fun e w' => (∃ v, e = .returned v) ∧ Box w' P (figV g) ∧ KeptOut (fun b => b = P) w w' := by
  subst hg
  exact add_any P f x u hu hm w ht hbx
set_option maxRecDepth 100000 in
set_option maxHeartbeats 4000000 in
theorem implBloomMake_any (a : Option Addr) (c : Nat) (l : List ByteArray) (w : World) (hl : StrS w a l) (hs : ∀ s ∈ l, s.size ≤ 549755813888) (hlen : l.length ≤ 1048576) (ht : HashT w) :
    Calls Tryd.prog 16 #[.slice a l.length c] w fun e w' => e = .returned (.string (bloomB (bitK l))) ∧ Below w.heap.size w w' := by
  have HX := Lib.hid hl
  have HS := Lib.hid hs
  have HT := Lib.hid ht
  clear hl hs ht
  have X0 := Lib.hid (show Box (w.alloc (.cells #[.int .u8 0, .int .u8 0, .int .u8 0, .int .u8 0, .int .u8 0, .int .u8 0, .int .u8 0, .int .u8 0, .int .u8 0, .int .u8 0, .int .u8 0, .int .u8 0, .int .u8 0, .int .u8 0, .int .u8 0, .int .u8 0] 60)) w.heap.size (figV (bitK (l.take 0))) from
    Box.alloc w #[.int .u8 0, .int .u8 0, .int .u8 0, .int .u8 0, .int .u8 0, .int .u8 0, .int .u8 0, .int .u8 0, .int .u8 0, .int .u8 0, .int .u8 0, .int .u8 0, .int .u8 0, .int .u8 0, .int .u8 0, .int .u8 0] 60)
  go_enter Tryd.func16, Tryd.ntmps16
  go_wp2
  go_loopw [8] (fun i wr => ∃ k : Nat, k ≤ l.length ∧ i = .int .i64 k ∧ Box wr w.heap.size (figV (bitK (l.take k))) ∧ Below w.heap.size w wr) (fun i _ => l.length - (intOf i).toNat)
  case atStart => exact ⟨0, Nat.zero_le _, rfl, X0.out, below_alloc _ _⟩
  case round =>
    obtain ⟨k, hk, rfl, hbx, hbel⟩ := hrel
    have HBX := Lib.hid hbx
    have HB := Lib.hid hbel
    clear hbx
    by_cases hlt : k < l.length
    · obtain ⟨b, o, rfl, hcell⟩ := HX.out.2.2.resolve_left (fun e => by rw [e] at hlt; simp at hlt)
      have hbl : b < w.heap.size := by have := World.block_lt_of_cell? w _ (hcell k hlt); simpa using this
      have ck : wr.cell? ⟨b, o + k, none⟩ = some (.string l[k]) := (hbel.cell (by simpa using hbl)).trans (hcell k hlt)
      have hki : (k : Int) < (l.length : Int) := by omega
      have hk0 : (0 : Int) ≤ (k : Int) := by omega
      have hls := HS.out _ (List.getElem_mem hlt)
      have HN := Lib.hid (bitK_next hlt)
      clear hcell hbel
      go_wp2_with fail
      refine (add_is rfl HN.out hls _ (HT.out.below HB.out) HBX.out).mono ?_
      rintro e w2 ⟨⟨v, rfl⟩, x2, k2⟩
      have B2 := Lib.hid (show Below w.heap.size w w2 from k2.below HB.out HB.out.size (fun b hb => by omega))
      have X2 := Lib.hid x2
      clear x2 k2 ck
      go_wp2
      go_roundw
      case rel => exact ⟨k + 1, by omega, by go_num, X2.out, B2.out⟩
      case measure => simp [intOf]; omega
    · obtain rfl : k = l.length := by omega
      rw [List.take_length] at HBX
      go_wp2_with fail
      refine (bloomText_any _ _ _ HBX.out).mono ?_
      rintro e w2 ⟨rfl, b2⟩
      go_wp2
      go_ret
      exact ⟨rfl, HB.out.trans (b2.mono HB.out.size)⟩
end Go.Proofs.YtgjfflfldddebaaDoor
