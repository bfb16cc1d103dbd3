import Derived.Test.YtfekpbkcidhbfaaDoorBloomP
import Derived.Test.YtfekpbkcidhbfaaDoorHashI
import Derived.Test.YtfekpbkcidhbfaaDoorHashEnd
import Derived.Test.YtfekpbkcidhbfaaDoorShelf
import Derived.Test.YtfekpbkcidhbfaaDoorBuild
import Derived.WalkSpells
import Derived.Deep.QuietTactic
import Derived.BigQuiet
import Derived.Lib.Hide
/- Bits of keys, of the program: bloomKey, add, text, BloomMake, bloomRead, may, BloomMay. -/
namespace Go.Proofs.YtfekpbkcidhbfaaDoor
open Go Go.RowKit

theorem idxFig_is {c : UInt8} {v : Int} (h : vfig c = v) (w : World) : Calls Tryd.prog 50 #[.string ⟨#[48, 49, 50, 51, 52, 53, 54, 55, 56, 57, 97, 98, 99, 100, 101, 102]⟩, .int .u8 (c.toNat : Int)] w fun e w' => e = .returned (.int .i64 v) ∧ w' = w := by
  subst h
  have h := Tryd.strings_IndexByte hexF (c.toNat : Int) w
  have e : ((c.toNat : Int)).toNat.toUInt8 = c := by simp
  rw [e, idx_fig] at h
  exact h
theorem implHash_isI {s u : ByteArray} (hu : shaS s = u) (hm : s.size ≤ 549755813888) (w : World) (ht : HashT w) :
    Calls Tryd.prog 49 #[.string s] w fun e w' => e = .returned (.string u) ∧ Below w.heap.size w w' := by
  subst hu
  exact implHash_any s w hm ht
theorem Box.setI {w : World} {b : Nat} {cs : List Value} (h : Box w b cs) (i : Nat) (v : Value) : Box (w.setCell ⟨b, i, none⟩ v) b (cs.set i v) := by
  intro j u hj
  by_cases e : j = i
  · subst e
    have hl : j < cs.length := by
      have := (List.getElem?_eq_some_iff.1 hj).1
      simpa using this
    rw [List.getElem?_set_self hl] at hj
    cases hj
    obtain ⟨h1, h2⟩ := h j cs[j] (List.getElem?_eq_getElem hl)
    exact ⟨by simp [go_sem, h1], by simp [go_sem, h2]⟩
  · rw [List.getElem?_set_ne (fun q => e q.symm)] at hj
    obtain ⟨h1, h2⟩ := h j u hj
    have e2 : ¬ i = j := fun q => e q.symm
    exact ⟨by simp [go_sem, h1], by simp [go_sem, h2]⟩
def spotC (u : ByteArray) (k : Nat) : List Value := (List.range 3).map fun i => .int .i64 (if i < k then spotU u i else 0 : Nat)
theorem spotC_next (u : ByteArray) {k : Nat} (h : k < 3) : (spotC u k).set k (.int .i64 (spotU u k : Nat)) = spotC u (k + 1) := by
  have : k = 0 ∨ k = 1 ∨ k = 2 := by omega
  rcases this with rfl | rfl | rfl <;> rfl
set_option maxRecDepth 100000 in
set_option maxHeartbeats 4000000 in
theorem bloomKey_any (x u : ByteArray) (hu : shaS x = u) (hm : x.size ≤ 549755813888) (w : World) (ht : HashT w) :
    Calls Tryd.prog 32 #[.string x] w fun e w' => e = .returned (.agg #[.int .i64 (spotU u 0 : Nat), .int .i64 (spotU u 1 : Nat), .int .i64 (spotU u 2 : Nat)]) ∧ Below w.heap.size w w' := by
  have hus : u.size = 64 := by rw [← hu]; exact shaS_size x
  have hf : FigB u := by rw [← hu]; exact shaS_fig x
  have HU := Lib.hid hu
  have HT := Lib.hid ht
  have HF := Lib.hid hf
  have HUS := Lib.hid hus
  clear hu ht hf hus
  go_enter Tryd.func32, Tryd.ntmps32
  go_wp2_with fail
  refine (implHash_isI HU.out hm _ (HT.out.below (below_alloc w _))).mono ?_
  rintro e w2 ⟨rfl, b2⟩
  have B2 := Lib.hid (show Below w.heap.size w w2 from (below_alloc w _).trans (b2.mono (by rw [World.size_alloc]; omega)))
  have RB := Lib.hid ((Box.alloc w #[.int .i64 0, .int .i64 0, .int .i64 0] 63).below b2)
  have zr : w.heap.size < w2.heap.size := by have := b2.size; rw [World.size_alloc] at this; omega
  clear b2
  go_wp2_with fail
  have X0 := Lib.hid (show Box (w2.alloc (.cells #[.int .i64 0, .int .i64 0, .int .i64 0] 63)) w2.heap.size (spotC u 0) from Box.alloc w2 #[.int .i64 0, .int .i64 0, .int .i64 0] 63)
  go_loopw [10] (fun i wr => ∃ k : Nat, k ≤ 3 ∧ i = .int .i64 k ∧ Box wr w2.heap.size (spotC u k) ∧ Below w2.heap.size w2 wr ∧ w2.heap.size < wr.heap.size) (fun i _ => 3 - (intOf i).toNat)
  case atStart => exact ⟨0, Nat.zero_le _, rfl, X0.out, below_alloc _ _, by rw [World.size_alloc]; omega⟩
  case round =>
    obtain ⟨k, hk, rfl, hbx, hbel, hrz⟩ := hrel
    have HBX := Lib.hid hbx
    have HB := Lib.hid hbel
    by_cases hlt : k < 3
    · have hus := HUS.out
      obtain ⟨j, hj⟩ : ∃ j, 2 * k = j := ⟨_, rfl⟩
      obtain ⟨j1, hj1⟩ : ∃ j1, j + 1 = j1 := ⟨_, rfl⟩
      have hju : j < u.size := by omega
      have hj1u : j1 < u.size := by omega
      have i1 : (2 : Int) * (k : Int) = (j : Int) := by omega
      have i2 : IntKind.i64.wrap (j : Int) = (j : Int) := by rw [IntKind.wrap_i64]; omega
      have i3 : (j : Int) + 1 = (j1 : Int) := by omega
      have i4 : IntKind.i64.wrap (j1 : Int) = (j1 : Int) := by rw [IntKind.wrap_i64]; omega
      have i5 : (0 : Int) ≤ (j : Int) := by omega
      have i6 : (j : Int) < (u.size : Int) := by omega
      have i7 : (0 : Int) ≤ (j1 : Int) := by omega
      have i8 : (j1 : Int) < (u.size : Int) := by omega
      obtain ⟨a, ha⟩ : ∃ a, vN u j = a := ⟨_, rfl⟩
      obtain ⟨b, hb⟩ : ∃ b, vN u j1 = b := ⟨_, rfl⟩
      have ha15 : a ≤ 15 := by rw [← ha]; exact vN_le _ _
      have hb15 : b ≤ 15 := by rw [← hb]; exact vN_le _ _
      have VA := Lib.hid (show vfig u[j] = (a : Int) by rw [vN_int hju HF.out, ha])
      have VB := Lib.hid (show vfig u[j1] = (b : Int) by rw [vN_int hj1u HF.out, hb])
      obtain ⟨q, hq⟩ : ∃ q, spotU u k = q := ⟨_, rfl⟩
      have hqe : (16 * a + b) % 64 = q := by rw [← hq, ← ha, ← hb, ← hj1, ← hj]; rfl
      have i9 : (IntKind.i64.wrap (IntKind.i64.wrap (16 * (a : Int)) + (b : Int))).tmod 64 = (q : Int) := by
        rw [show IntKind.i64.wrap (16 * (a : Int)) = 16 * (a : Int) by rw [IntKind.wrap_i64]; omega, show IntKind.i64.wrap (16 * (a : Int) + (b : Int)) = 16 * (a : Int) + (b : Int) by rw [IntKind.wrap_i64]; omega, Int.tmod_eq_emod_of_nonneg (by omega)]
        omega
      have i10 : (16 * (a : Int) + (b : Int)) % 64 = (q : Int) := by omega
      have HQ := Lib.hid hq
      obtain ⟨bc, bf⟩ := hbx k (.int .i64 (0 : Nat)) (by
        have : k = 0 ∨ k = 1 ∨ k = 2 := by omega
        rcases this with rfl | rfl | rfl <;> rfl)
      have hk0 : (0 : Int) ≤ (k : Int) := by omega
      have hk3 : (k : Int) < 3 := by omega
      have HJ := Lib.hid hj
      have HJ1 := Lib.hid hj1
      clear hbx hbel ha hb hq hqe hus hj hj1
      go_wp2_with fail
      refine (idxFig_is VA.out _).mono ?_
      rintro e w3 ⟨rfl, rfl⟩
      go_wp2_with fail
      refine (idxFig_is VB.out _).mono ?_
      rintro e w3 ⟨rfl, rfl⟩
      go_wp2
      go_roundw
      case rel =>
        refine ⟨k + 1, by omega, by go_num, ?_, HB.out.setCell (Nat.le_refl _) _, by rw [World.size_setCell]; exact hrz⟩
        rw [← spotC_next u hlt, HQ.out]
        exact Box.setI HBX.out k _
      case measure => simp [intOf]; omega
    · obtain rfl : k = 3 := by omega
      obtain ⟨⟨c0, _⟩, ⟨c1, _⟩, c2, _⟩ := show _ ∧ _ ∧ _ from ⟨hbx 0 _ rfl, hbx 1 _ rfl, hbx 2 _ rfl⟩
      have RB2 := RB.out.below hbel
      obtain ⟨⟨r0, f0⟩, ⟨r1, f1⟩, r2, f2⟩ := show _ ∧ _ ∧ _ from ⟨RB2 0 _ rfl, RB2 1 _ rfl, RB2 2 _ rfl⟩
      clear hbx hbel RB2
      go_wp2
      refine bodyPost_ret (v := .agg #[.int .i64 (spotU u 0 : Nat), .int .i64 (spotU u 1 : Nat), .int .i64 (spotU u 2 : Nat)]) (by simp [results, Tryd.results32, go_sem, r0, r1, r2]) rfl ⟨rfl, ?_⟩
      exact (((B2.out.trans (HB.out.mono B2.out.size)).setCell (Nat.le_refl _) _).setCell (Nat.le_refl _) _).setCell (Nat.le_refl _) _
theorem kept_dr {S : Nat → Prop} {w w' : World} (h : KeptOut S w w') : KeptOut S w w'.drew := ⟨h.os, h.tape, h.output, h.size, h.block⟩
theorem idx3 (u : ByteArray) {k : Nat} (h : k < 3) (W : World) : (Instr.index 63 (.agg #[.int .i64 (spotU u 0 : Nat), .int .i64 (spotU u 1 : Nat), .int .i64 (spotU u 2 : Nat)]) (.int .i64 (k : Int))).run Tryd.prog W = .ok (.int .i64 (spotU u k : Nat)) W := by
  have : k = 0 ∨ k = 1 ∨ k = 2 := by omega
  rcases this with rfl | rfl | rfl <;> simp [go_sem, Instr.index]
set_option maxRecDepth 100000 in
set_option maxHeartbeats 4000000 in
theorem add_any (P : Nat) (f : Nat → Bool) (x u : ByteArray) (hu : shaS x = u) (hm : x.size ≤ 549755813888) (w : World) (ht : HashT w) (hbx : Box w P (figV f)) :
    Calls Tryd.prog 16 #[.pointer (some ⟨P, 0, none⟩), .string x] w fun e w' => (∃ v, e = .returned v) ∧ Box w' P (figV (stepF f u 3)) ∧ KeptOut (fun b => b = P) w w' := by
  have HBX := Lib.hid hbx
  clear hbx
  go_enter Tryd.func16, Tryd.ntmps16
  go_wp2_with fail
  refine (bloomKey_any x u hu hm _ ht).mono ?_
  rintro e w2 ⟨rfl, b2⟩
  have X2 := Lib.hid (HBX.out.below b2)
  have K2 := Lib.hid (KeptOut.of_below (S := fun b => b = P) b2)
  clear b2 ht hu
  go_wp2_with fail
  go_loopw [8] (fun i wr => ∃ k : Nat, k ≤ 3 ∧ i = .int .i64 k ∧ Box wr P (figV (stepF f u k)) ∧ KeptOut (fun b => b = P) w wr) (fun i _ => 3 - (intOf i).toNat)
  case atStart => exact ⟨0, Nat.zero_le _, rfl, X2.out, K2.out⟩
  case round =>
    obtain ⟨k, hk, rfl, hbx, hkp⟩ := hrel
    have HBQ := Lib.hid hbx
    have HKQ := Lib.hid hkp
    by_cases hlt : k < 3
    · obtain ⟨q, hq⟩ : ∃ q, spotU u k = q := ⟨_, rfl⟩
      have hq64 : q < 64 := by rw [← hq]; exact spotU_lt u k
      obtain ⟨g, hg⟩ : ∃ g, stepF f u k = g := ⟨_, rfl⟩
      rw [hg] at hbx
      obtain ⟨d, hd⟩ : ∃ d, q / 4 = d := ⟨_, rfl⟩
      obtain ⟨r, hr⟩ : ∃ r, q % 4 = r := ⟨_, rfl⟩
      have hd16 : d < 16 := by omega
      have hr4 : r < 4 := by omega
      obtain ⟨n, hn⟩ : ∃ n, nib g d = n := ⟨_, rfl⟩
      have hn16 : n < 16 := by rw [← hn]; exact nib_lt _ _
      obtain ⟨y0, f0⟩ := hbx d _ (figV_at g hd16)
      rw [hn] at y0
      have q1 : (q : Int).tdiv 4 = (d : Int) := by rw [Int.tdiv_eq_ediv_of_nonneg (by omega)]; omega
      have q2 : (q : Int) / 4 = (d : Int) := by omega
      have q3 : (q : Int).tmod 4 = (r : Int) := by rw [Int.tmod_eq_emod_of_nonneg (by omega)]; omega
      have q4 : (q : Int) % 4 = (r : Int) := by omega
      have q5 : (0 : Int) ≤ (d : Int) := by omega
      have q6 : (d : Int) < 16 := by omega
      have q7 : (0 : Int) ≤ (r : Int) := by omega
      have q8 : IntKind.i64.wrap (d : Int) = (d : Int) := by rw [IntKind.wrap_i64]; omega
      obtain ⟨sh, hsh⟩ : ∃ sh, 8 >>> r = sh := ⟨_, rfl⟩
      have q9 : (8 : Int) / 2 ^ r = (sh : Int) := by rw [← hsh]; exact shr_tab r hr4
      have hor := or_u8 n hn16 r hr4
      rw [hsh] at hor
      have HFG := Lib.hid (show (figV g).set d (.int .u8 (n ||| (8 >>> r) : Nat)) = figV (stepF f u (k + 1)) by
        have h := figV_add g q hq64
        rw [hd, hr, hn] at h
        rw [← h, ← hg, ← hq]; rfl)
      rw [hsh] at HFG
      obtain ⟨nn, hnn⟩ : ∃ nn, n ||| sh = nn := ⟨_, rfl⟩
      rw [hnn] at HFG hor
      have HBG := Lib.hid hbx
      have hidx : ∀ W, (Instr.index 63 (.agg #[.int .i64 (spotU u 0 : Nat), .int .i64 (spotU u 1 : Nat), .int .i64 (spotU u 2 : Nat)]) (.int .i64 (k : Int))).run Tryd.prog W = .ok (.int .i64 (q : Int)) W := fun W => by
        rw [← hq]
        exact idx3 u hlt W
      have hk0 : (0 : Int) ≤ (k : Int) := by omega
      have hk3 : (k : Int) < 3 := by omega
      clear hbx hkp hq hg hd hr hn hsh hnn
      go_wp2_with fail
      go_region_law (fail)
      go_wp2
      go_roundw
      case rel =>
        refine ⟨k + 1, by omega, by go_num, ?_, kept_dr (HKQ.out.setCell (p := ⟨P, d, none⟩) rfl _)⟩
        rw [← HFG.out]
        exact Box.setI HBG.out d _
      case measure => simp [intOf]; omega
    · obtain rfl : k = 3 := by omega
      go_wp2
      go_returns
      exact ⟨⟨_, rfl⟩, HBQ.out, HKQ.out⟩
def figA (f : Nat → Bool) : Array Value := #[.int .u8 (nib f 0 : Nat), .int .u8 (nib f 1 : Nat), .int .u8 (nib f 2 : Nat), .int .u8 (nib f 3 : Nat), .int .u8 (nib f 4 : Nat), .int .u8 (nib f 5 : Nat), .int .u8 (nib f 6 : Nat), .int .u8 (nib f 7 : Nat), .int .u8 (nib f 8 : Nat), .int .u8 (nib f 9 : Nat), .int .u8 (nib f 10 : Nat), .int .u8 (nib f 11 : Nat), .int .u8 (nib f 12 : Nat), .int .u8 (nib f 13 : Nat), .int .u8 (nib f 14 : Nat), .int .u8 (nib f 15 : Nat)]
set_option maxRecDepth 100000 in
theorem idx16 (f : Nat → Bool) : ∀ {k : Nat} (_h : k < 16) (W : World), (Instr.index 38 (.agg (figA f)) (.int .i64 (k : Int))).run Tryd.prog W = .ok (.int .u8 (nib f k : Nat)) W
  | 0, _, _ | 1, _, _ | 2, _, _ | 3, _, _ | 4, _, _ | 5, _, _ | 6, _, _ | 7, _, _ | 8, _, _ | 9, _, _ | 10, _, _ | 11, _, _ | 12, _, _ | 13, _, _ | 14, _, _ | 15, _, _ => by simp [go_sem, Instr.index, figA]
  | n + 16, h, _ => absurd h (by omega)
set_option maxRecDepth 100000 in
set_option maxHeartbeats 4000000 in
theorem bloomText_any (P : Nat) (f : Nat → Bool) (w : World) (hbx : Box w P (figV f)) :
    Calls Tryd.prog 20 #[.pointer (some ⟨P, 0, none⟩)] w fun e w' => e = .returned (.string (bloomB f)) ∧ Below w.heap.size w w' := by
  have hPw : P < w.heap.size := Box.lt (c := .int .u8 (nib f 0 : Nat)) (cs := (figV f).tail) hbx
  have hPn : ¬ P = w.heap.size := by omega
  obtain ⟨y0, y1, y2, y3, y4, y5, y6, y7, y8, y9, y10, y11, y12, y13, y14, y15⟩ := show _ ∧ _ ∧ _ ∧ _ ∧ _ ∧ _ ∧ _ ∧ _ ∧ _ ∧ _ ∧ _ ∧ _ ∧ _ ∧ _ ∧ _ ∧ _ from
    ⟨(hbx 0 _ (figV_at f (by omega))).1, (hbx 1 _ (figV_at f (by omega))).1, (hbx 2 _ (figV_at f (by omega))).1, (hbx 3 _ (figV_at f (by omega))).1, (hbx 4 _ (figV_at f (by omega))).1, (hbx 5 _ (figV_at f (by omega))).1, (hbx 6 _ (figV_at f (by omega))).1, (hbx 7 _ (figV_at f (by omega))).1, (hbx 8 _ (figV_at f (by omega))).1, (hbx 9 _ (figV_at f (by omega))).1, (hbx 10 _ (figV_at f (by omega))).1, (hbx 11 _ (figV_at f (by omega))).1, (hbx 12 _ (figV_at f (by omega))).1, (hbx 13 _ (figV_at f (by omega))).1, (hbx 14 _ (figV_at f (by omega))).1, (hbx 15 _ (figV_at f (by omega))).1⟩
  clear hbx
  have HIX := Lib.hid (fun (k : Nat) (h : k < 16) => idx16 f h)
  unfold figA at HIX
  have HX := Lib.hid (run_fig .u8)
  have HL0 := Lib.hid (show bloomTo f 16 = bloomB f from rfl)
  go_enter Tryd.func20, Tryd.ntmps20
  have F := Lib.hid (Lib.fresh_isBuilder BldT 5 w)
  have B0 := Lib.hid (show Below w.heap.size w (w.alloc (.cells #[.pointer none, .slice none 0 0] BldT)) from below_alloc _ _)
  go_wp2
  go_loopw [10] (fun i wr => ∃ k : Nat, k ≤ 16 ∧ i = .int .i64 k ∧ Lib.IsBuilder BldT 5 w.heap.size w.heap.size (Lib.byteCells (bloomTo f k).data.toList) wr ∧ Below w.heap.size w wr) (fun i _ => 16 - (intOf i).toNat)
  case atStart => exact ⟨0, Nat.zero_le _, rfl, F.out, B0.out⟩
  case round =>
    clear F B0 y0 y1 y2 y3 y4 y5 y6 y7 y8 y9 y10 y11 y12 y13 y14 y15
    obtain ⟨k, hk, rfl, hbd, hbel⟩ := hrel
    have HB := Lib.hid hbd
    have HBL := Lib.hid hbel
    clear hbd hbel
    by_cases hlt : k < 16
    · have hk0 : (0 : Int) ≤ (k : Int) := by omega
      have hki : (k : Int) < 16 := by omega
      have hj := HIX.out k hlt
      have hv16 := nib_lt f k
      have HN := Lib.hid (bloomTo_next f k)
      have hlen2 : (Lib.byteCells (bloomTo f k).data.toList).length ≤ 100 := by rw [cells_len]; have := bloomTo_size f k; have e : (bloomTo f k).data.toList.length = (bloomTo f k).size := rfl; omega
      generalize nib f k = v at hj hv16 HN
      have hxr := HX.out v hv16
      unfold figArr at hxr
      go_wp2_with fail
      refine (writeByte_any w.heap.size w.heap.size _ _ wr HB.out (by omega) HBL.out.size).mono ?_
      rintro e w3 ⟨rfl, h3, b3⟩
      have H3 := bldF (cs := Lib.byteCells (bloomTo f (k + 1)).data.toList) h3 (by rw [← HN.out, ByteArray.data_append, Array.toList_append]; exact (cells_snoc _ _).symm)
      have B3 := Lib.hid (HBL.out.trans b3)
      clear h3 b3
      go_wp2
      go_roundw
      case rel => exact ⟨k + 1, by omega, by go_num, H3.out, B3.out⟩
      case measure => simp [intOf]; omega
    · obtain rfl : k = 16 := by omega
      go_wp2_with fail
      refine (Tryd.Builder_String_any w.heap.size w.heap.size _ _ HB.out HBL.out.size).mono ?_
      rintro e w3 ⟨rfl, b3⟩
      have B3 := Lib.hid (HBL.out.trans b3)
      clear b3
      go_wp2
      go_ret
      exact ⟨rfl, B3.out⟩
end Go.Proofs.YtfekpbkcidhbfaaDoor
