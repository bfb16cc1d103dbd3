import Derived.Test.YtckblicpfdijkaaDoorFramePutI
import Derived.Test.YtckblicpfdijkaaDoorStrTo
import Derived.Test.YtckblicpfdijkaaDoorStrEq
import Derived.Test.YtckblicpfdijkaaDoorStrMark
import Derived.Test.YtckblicpfdijkaaDoorShape
import Derived.Test.YtckblicpfdijkaaDoorFrT
/- The walk of FnExactFramePut. -/
namespace Go.Proofs.YtckblicpfdijkaaDoor
open Go Go.RowKit

theorem eqStr_one (a b : Option Addr) (ca cb : Nat) (l : List ByteArray) (w : World) (hl : StrS w a l) (hm : StrS w b l) :
    Calls Tryd.prog 11 #[.slice a l.length ca, .slice b l.length cb] w fun e w' => e = .returned (.bool true) ∧ Below w.heap.size w w' := by
  refine (eqStr_any a b ca cb l l w hl hm).mono ?_
  rintro e w' ⟨rfl, n, rfl⟩
  exact ⟨ret_bool (by simp [eqStr]), below_drewN (Below.refl _ _) n⟩
theorem putI_bound (t n : Int) (x : ByteArray) : (putI t n x).length ≤ 15 ∧ ∀ y ∈ putI t n x, y.size ≤ 200 := by
  cases h : frameOkB t n x with
  | false => rw [putI_no h]; simp
  | true =>
    rw [putI_yes h]
    simp only [frameOkB, inB, Bool.and_eq_true, decide_eq_true_eq] at h
    obtain ⟨⟨⟨h1, h2⟩, h3, h4⟩, h5⟩ := h
    have hp := parts_le h5
    refine ⟨by rw [putB_len]; exact hp, fun y hy => ?_⟩
    obtain ⟨i, hi, rfl⟩ := List.getElem_of_mem hy
    rw [putB_get]
    rw [putB_len] at hi
    have := blockB_size (show t.toNat < 100000000 by omega) (show n.toNat < 100000000 by omega) (show i < 100 by omega) (show partsN x.size < 100 by omega) (pieceB x i) x
    have : (pieceB x i).size ≤ 140 := by unfold pieceB; rw [ByteArray.size_extract]; omega
    omega

set_option maxRecDepth 100000 in
set_option maxHeartbeats 2000000 in
theorem fnExactFramePutWalk0 (t n : Int) (s : ByteArray) (hs : s.size ≤ maxLen) {w : World} (hTab : FrT w) :
    Calls Tryd.prog 3 #[.int .i64 t, .int .i64 n, .string s] w fun e w' => e = .returned (.bool true) ∧ Below w.heap.size w w' := by
  have hs' := hs
  unfold maxLen at hs'
  by_cases hb : (1048576 : Int) < (s.size : Int)
  · go_enter Tryd.func3, Tryd.ntmps3
    go_wp2
    go_ret
    exact ⟨rfl, Below.refl _ _⟩
  have hb' : (s.size : Int) ≤ 1048576 := by omega
  clear hb
  obtain ⟨l, hl⟩ : ∃ l, l = putI t n s := ⟨_, rfl⟩
  obtain ⟨hn, hok0⟩ := putI_bound t n s
  rw [← hl] at hn hok0
  have hok : ∀ x ∈ l, x.size ≤ maxLen := fun x hx => by have := hok0 x hx; unfold maxLen; omega
  have HTab := Lib.hid hTab
  have hlm : l.length ≤ maxLen := by unfold maxLen; omega
  have HL := Lib.hid hl
  have mlen : (marksS 1 l.length).length ≤ maxLen := by rw [marksS_len]; exact hlm
  have mok : ∀ x ∈ marksS 1 l.length, x.size ≤ maxLen := by
    intro x hx
    simp only [marksS, marks, List.mem_map, List.mem_range] at hx
    obtain ⟨j, hj, rfl⟩ := hx
    exact markB_size _ (by omega)
  clear hl hTab
  go_enter Tryd.func3, Tryd.ntmps3
  -- w0, w1
  go_wp2_with fail
  refine (specFramePut_any t n s hs _).mono ?_
  rintro e w1 ⟨v1, rfl, o1, b1⟩
  rw [← HL.out] at o1
  obtain ⟨a1, c1, rfl⟩ := own_shape o1
  have G1 : Below w.heap.size w w1 := b1
  have L1 := Lib.hid o1.lt
  -- g0, g1
  go_wp2_with fail
  refine (implFramePut_any t n s hs _ (HTab.out.below G1)).mono ?_
  rintro e w2 ⟨v2, rfl, o2, b2⟩
  rw [← HL.out] at o2
  obtain ⟨a2, c2, rfl⟩ := own_shape o2
  have G2 : Below w.heap.size w w2 := G1.trans (b2.mono G1.size)
  have Z2 := b2.size
  replace o1 := own_below o1 b2
  have L2 := Lib.hid o2.lt
  have O1 := Lib.hid o1
  have O2 := Lib.hid o2
  clear o1 o2
  -- eq
  go_wp2_with fail
  refine (eqStr_one _ _ _ _ _ _ (own_str hlm hok O2.out) (own_str hlm hok O1.out)).mono ?_
  rintro e w3 ⟨rfl, b3⟩
  have G3 : Below w.heap.size w w3 := G2.trans (b3.mono G2.size)
  have Z3 := b3.size
  have P1 := Lib.hid (own_below O1.out b3)
  have P2 := Lib.hid (own_below O2.out b3)
  clear O1 O2
  -- mark
  go_wp2_with fail
  refine (markStr_any _ _ _ _ _ _ (by omega) (by omega) (by omega) P2.out).mono ?_
  rintro e w4 ⟨rfl, o4, k4⟩
  have Z4 := k4.size
  have G4 : Below w.heap.size w w4 := k4.below G3 G3.size (fun k hk => Nat.le_trans G1.size (L2.out k hk).1)
  have Q1 := Lib.hid (own_kept P1.out k4 (fun k hk hk2 => by have h1 := L1.out k hk; have h2 := L2.out k hk2; omega))
  have Q2 := Lib.hid o4
  clear P1 P2 o4
  -- held
  go_wp2_with fail
  refine (heldStr_any _ _ _ _ _ (by omega) (by omega) (by omega) (own_str mlen mok (by rw [marksS_len]; exact Q2.out))).mono ?_
  rintro e w5 ⟨rfl, b5⟩
  have G5 : Below w.heap.size w w5 := G4.trans (b5.mono G4.size)
  have Z5 := b5.size
  have R1 := Lib.hid (own_below Q1.out b5)
  have R2 := Lib.hid (own_below Q2.out b5)
  clear Q1 Q2
  -- h0, h1
  go_wp2_with fail
  refine (implFramePut_any t n s hs _ (HTab.out.below G5)).mono ?_
  rintro e w6 ⟨v3, rfl, o3, b6⟩
  rw [← HL.out] at o3
  obtain ⟨a3, c3, rfl⟩ := own_shape o3
  have G6 : Below w.heap.size w w6 := G5.trans (b6.mono G5.size)
  have Z6 := b6.size
  have S1 := Lib.hid (own_below R1.out b6)
  have S2 := Lib.hid (own_below R2.out b6)
  have S3 := Lib.hid o3
  clear R1 R2 o3
  go_wp2_with fail
  refine (eqStr_one _ _ _ _ _ _ (own_str hlm hok S3.out) (own_str hlm hok S1.out)).mono ?_
  rintro e w7 ⟨rfl, b7⟩
  have G7 : Below w.heap.size w w7 := G6.trans (b7.mono G6.size)
  have T2 := Lib.hid (own_below S2.out b7)
  clear S1 S2 S3
  go_wp2_with fail
  refine (heldStr_any _ _ _ _ _ (by omega) (by omega) (by omega) (own_str mlen mok (by rw [marksS_len]; exact T2.out))).mono ?_
  rintro e w8 ⟨rfl, b8⟩
  have G8 : Below w.heap.size w w8 := G7.trans (b8.mono G7.size)
  go_wp2
  go_ret
  exact ⟨rfl, G8⟩
theorem fnExactFramePutWalk (t : Int) (_ht : (Lit.int .i64 t).wf = true) (n : Int) (_hn : (Lit.int .i64 n).wf = true) (s : ByteArray) (hs : s.size ≤ maxLen) {w : World} (h1 : HashT w) (h2 : Lib.TabIs Tryd.prog w "internal/strconv.uint64pow10" .u64 Lib.pow10Tab) :
    Calls Tryd.prog 3 #[.int .i64 t, .int .i64 n, .string s] w fun e w' => e = .returned (.bool true) ∧ Below w.heap.size w w' :=
  fnExactFramePutWalk0 t n s hs ⟨h1, h2⟩
end Go.Proofs.YtckblicpfdijkaaDoor
