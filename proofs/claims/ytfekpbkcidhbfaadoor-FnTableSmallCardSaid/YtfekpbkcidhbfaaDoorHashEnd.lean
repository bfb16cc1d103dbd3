import Derived.Test.YtfekpbkcidhbfaaDoorShaB
import Derived.Test.YtfekpbkcidhbfaaDoorMix
import Derived.Test.YtfekpbkcidhbfaaDoorBuild
import Derived.Test.YtfekpbkcidhbfaaDoorShelf
import Derived.Lib.SmallJoins
import Derived.Deep.LoopGhost
/- What is put behind a text, and the figures of a state, by the program. -/
namespace Go.Proofs.YtfekpbkcidhbfaaDoor
open Go Go.RowKit

theorem cells_snoc (l : List UInt8) (c : UInt8) : Lib.byteCells (l ++ [c]) = Lib.byteCells l ++ [.int .u8 (c.toNat : Int)] := by simp [Lib.byteCells]
theorem cells_len (l : List UInt8) : (Lib.byteCells l).length = l.length := by simp [Lib.byteCells_length]
/-- 128 and k noughts -/
def padZ (k : Nat) : List UInt8 := 128 :: List.replicate k 0
theorem padZ_succ (k : Nat) : padZ (k + 1) = padZ k ++ [0] := by
  unfold padZ; rw [List.replicate_succ', List.cons_append]
theorem padZ_len (k : Nat) : (padZ k).length = k + 1 := by simp [padZ]
theorem endB_eq (n : Nat) : endB n = padZ (zerosN n) ++ countTo n 8 := rfl
theorem bldF {w w' : World} {b : Nat} {bs cs : List Value} (h : Lib.BuilderAt BldT 5 w.heap.size b (.pointer (some ⟨b, 0, none⟩)) bs w') (e : bs = cs) : Hid (Lib.IsBuilder BldT 5 w.heap.size b cs w') := by
  rw [← e]; exact .inr h

theorem byte_cnt (n m j : Nat) (_hj : j ≤ 7) (hm : m = 8 * (7 - j)) : ((n : Int) * 8 / 2 ^ m % 256) = ((UInt8.ofNat (n * 8 / 256 ^ (7 - j))).toNat : Int) := by
  rw [u8_ofNat, hm, show (256 : Nat) = 2 ^ 8 from rfl, ← Nat.pow_mul]
  simp
set_option maxRecDepth 100000 in
set_option maxHeartbeats 1000000 in
theorem hashEnd_any (n : Nat) (hn : n ≤ 1099511627776) (w : World) :
    Calls Tryd.prog 68 #[.int .i64 n] w fun e w' => e = .returned (.string ⟨(endB n).toArray⟩) ∧ Below w.heap.size w w' := by
  have zl := zeros_lt n
  have hn0 : (0 : Int) ≤ (n : Int) := by omega
  go_enter Tryd.func68, Tryd.ntmps68
  go_wp2_with fail
  have F := Lib.hid (Lib.fresh_isBuilder BldT 5 w)
  refine (writeByte_any w.heap.size w.heap.size [] 128 _ F.out (by simp) (by simp)).mono ?_
  rintro e w1 ⟨rfl, h1, b1⟩
  have H1 := bldF (cs := Lib.byteCells (padZ 0)) h1 rfl
  have B1 := Lib.hid (show Below w.heap.size w w1 from (show Below w.heap.size w _ from (by repeat (first | exact Below.refl _ _ | (refine Below.alloc ?_ (by first | (simp; done) | (simp; omega)) _) | (refine Below.setCell ?_ (by first | (simp; done) | (simp; omega)) _) | (refine Below.drew ?_)))).trans b1)
  clear h1 b1 F
  go_wp2
  go_loopg [] (zerosN n) (fun g wr => ∃ k : Nat, k + g = zerosN n ∧ Lib.IsBuilder BldT 5 w.heap.size w.heap.size (Lib.byteCells (padZ k)) wr ∧ Below w.heap.size w wr)
  case atStart => exact ⟨0, by omega, H1.out, B1.out⟩
  case round =>
    obtain ⟨k, hk, hbd, hbel⟩ := hrel
    have HB := Lib.hid hbd
    have HBL := Lib.hid hbel
    have hlen : (Lib.byteCells (padZ k)).length = k + 1 := by rw [cells_len, padZ_len]
    clear hbd hbel
    go_wp2_with fail
    refine (Tryd.Builder_Len w.heap.size w.heap.size _ wr HB.out).mono ?_
    rintro e w2 ⟨rfl, rfl⟩
    rw [hlen]
    by_cases hz : gk = 0
    · have hz2 : (((n : Int) + ((k : Int) + 1) + 8) % 64 != 0) = false := by
        have : ((n : Int) + ((k : Int) + 1) + 8) % 64 = 0 := by unfold zerosN at hk; omega
        simp [this]
      have HE := Lib.hid (show k = zerosN n by omega)
      go_wp2
      go_loopg [5] 8 (fun g v wr => ∃ (j : Nat) (sh : Int), j + g = 8 ∧ sh = 56 - 8 * (j : Int) ∧ v = .int .i64 sh ∧ Lib.IsBuilder BldT 5 w.heap.size w.heap.size (Lib.byteCells (padZ (zerosN n) ++ countTo n j)) wr ∧ Below w.heap.size w wr)
      case atStart => exact ⟨0, 56, by omega, by omega, rfl, by rw [← HE.out, show countTo n 0 = [] from rfl, List.append_nil]; exact HB.out, HBL.out⟩
      case round =>
        clear HB HBL hlen hk hz hz2 HE
        obtain ⟨j, sh, hj, hsh, rfl, hbd, hbel⟩ := hrel
        have HB := Lib.hid hbd
        have HBL := Lib.hid hbel
        clear hbd hbel
        by_cases hg : gk = 0
        · obtain rfl : j = 8 := by omega
          have hneg : sh < 0 := by omega
          clear hsh hj hg
          go_wp2_with fail
          refine (Tryd.Builder_String_any w.heap.size w.heap.size _ _ HB.out HBL.out.size).mono ?_
          rintro e w3 ⟨rfl, b3⟩
          have B3 := Lib.hid (HBL.out.trans b3)
          clear b3
          go_wp2
          go_ret
          exact ⟨by rw [endB_eq]; rfl, B3.out⟩
        · obtain ⟨m, rfl⟩ : ∃ m : Nat, sh = (m : Int) := ⟨sh.toNat, by omega⟩
          have hm : m ≤ 56 := by omega
          have HM := Lib.hid (show m = 8 * (7 - j) by omega)
          have HJ := Lib.hid hj
          have HS := Lib.hid hsh
          have HG := Lib.hid hg
          have hm0 : (0 : Int) ≤ (m : Int) := by omega
          have hm56 : (m : Int) ≤ 56 := by omega
          have hlen2 : (Lib.byteCells (padZ (zerosN n) ++ countTo n j)).length ≤ 100 := by rw [cells_len, List.length_append, padZ_len, countTo_len]; omega
          have hj7 : j ≤ 7 := by omega
          clear hsh hj hg
          go_wp2_with fail
          refine (writeByte_any w.heap.size w.heap.size _ _ wr HB.out (by omega) HBL.out.size).mono ?_
          rintro e w3 ⟨rfl, h3, b3⟩
          have H3 := bldF (cs := Lib.byteCells (padZ (zerosN n) ++ countTo n (j + 1))) h3 (by rw [countTo_succ, ← List.append_assoc, cells_snoc, byte_cnt n m j hj7 HM.out])
          have B3 := Lib.hid (HBL.out.trans b3)
          clear h3 b3
          go_wp2
          go_roundg (gk - 1)
          case measure => have := HG.out; omega
          case rel => exact ⟨j + 1, (m : Int) - 8, by have := HG.out; have := HJ.out; omega, by have := HS.out; omega, by go_num, H3.out, B3.out⟩
    · have hz2 : (((n : Int) + ((k : Int) + 1) + 8) % 64 != 0) = true := by
        have : ((n : Int) + ((k : Int) + 1) + 8) % 64 ≠ 0 := by unfold zerosN at hk; omega
        simp [this]
      have hkb : k ≤ 64 := by omega
      have HKZ := Lib.hid hk
      have HZ := Lib.hid hz
      clear hk hz
      go_wp2_with fail
      refine (writeByte_any w.heap.size w.heap.size _ 0 w2 HB.out (by rw [hlen]; have := HKZ.out; omega) HBL.out.size).mono ?_
      rintro e w3 ⟨rfl, h3, b3⟩
      have H3 := bldF (cs := Lib.byteCells (padZ (k + 1))) h3 (by rw [padZ_succ, cells_snoc]; rfl)
      have B3 := Lib.hid (HBL.out.trans b3)
      clear h3 b3
      go_wp2
      go_roundg (gk - 1)
      case measure => have := HZ.out; omega
      case rel => exact ⟨k + 1, by have := HZ.out; have := HKZ.out; omega, H3.out, B3.out⟩

theorem fig_and (x : W32) (m k : Nat) (hm : m = 4 * (7 - k)) : bits .and .u32 ((x.toNat : Int) / 2 ^ m) 15 = ((x.toNat / 16 ^ (7 - k) % 16 : Nat) : Int) := by
  rw [uv_div, show (15 : Int) = (((15 : W32).toNat : Nat) : Int) from rfl, uv_and, BitVec.toNat_and, BitVec.toNat_ushiftRight, Nat.shiftRight_eq_div_pow, hm, show (16 : Nat) = 2 ^ 4 from rfl, ← Nat.pow_mul]
  rw [show ((15 : W32).toNat) = 2 ^ 4 - 1 from rfl, Nat.and_two_pow_sub_one_eq_mod]
def figTo (x : W32) (k : Nat) : List UInt8 := (List.range k).map fun i => figC (x.toNat / 16 ^ (7 - i) % 16)
theorem figTo_succ (x : W32) (k : Nat) : figTo x (k + 1) = figTo x k ++ [figC (x.toNat / 16 ^ (7 - k) % 16)] := by simp [figTo, List.range_succ]
theorem figTo_len (x : W32) (k : Nat) : (figTo x k).length = k := by simp [figTo]
theorem figs_len (l : List W32) : (l.flatMap figW).length = 8 * l.length := by
  induction l with
  | nil => rfl
  | cons x l ih => rw [List.flatMap_cons, List.length_append, figW_len, ih, List.length_cons]; omega
def figArr : ByteArray := ⟨#[48, 49, 50, 51, 52, 53, 54, 55, 56, 57, 97, 98, 99, 100, 101, 102]⟩
theorem run_fig (k : IntKind) (v : Nat) (hv : v < 16) (W : World) : (Instr.index 9 (.string figArr) (.int k (v : Int))).run Tryd.prog W = .ok (.int .u8 ((figC v).toNat : Int)) W := by
  match v, hv with
  | 0, _ | 1, _ | 2, _ | 3, _ | 4, _ | 5, _ | 6, _ | 7, _ | 8, _ | 9, _ | 10, _ | 11, _ | 12, _ | 13, _ | 14, _ | 15, _ => simp [Instr.index, run_underlying Tryd.underlying9, asIntOf, go_sem, figArr]; rfl
  | n + 16, h => exact absurd h (by omega)

set_option maxRecDepth 100000 in
set_option maxHeartbeats 1000000 in
theorem figures_any (sb : Nat) (s : S8) (w : World) (hs : Box w sb (uvs s.list)) :
    Calls Tryd.prog 69 #[.pointer (some ⟨sb, 0, none⟩)] w fun e w' => e = .returned (.string ⟨(figS s).toArray⟩) ∧ Below w.heap.size w w' := by
  obtain ⟨a, b, c, d, e, f, g, h⟩ := s
  have hsb : sb < w.heap.size := hs.lt
  have HF := Lib.hid (show figS ⟨a, b, c, d, e, f, g, h⟩ = [a, b, c, d, e, f, g, h].flatMap figW from rfl)
  have hs1 := hs.below (below_alloc w (.cells #[.pointer none, .slice none 0 0] BldT))
  have x0 := (hs1 0 _ rfl).1
  have x1 := (hs1 1 _ rfl).1
  have x2 := (hs1 2 _ rfl).1
  have x3 := (hs1 3 _ rfl).1
  have x4 := (hs1 4 _ rfl).1
  have x5 := (hs1 5 _ rfl).1
  have x6 := (hs1 6 _ rfl).1
  have x7 := (hs1 7 _ rfl).1
  unfold uv at x0 x1 x2 x3 x4 x5 x6 x7
  clear hs hs1
  generalize figS ⟨a, b, c, d, e, f, g, h⟩ = R at HF ⊢
  have HX := Lib.hid (run_fig .u32)
  have hix : ∀ j : Nat, j < 8 → ∀ W : World, (Instr.index 93 (.agg #[.int .u32 (a.toNat : Int), .int .u32 (b.toNat : Int), .int .u32 (c.toNat : Int), .int .u32 (d.toNat : Int), .int .u32 (e.toNat : Int), .int .u32 (f.toNat : Int), .int .u32 (g.toNat : Int), .int .u32 (h.toNat : Int)]) (.int .i64 (j : Int))).run Tryd.prog W = .ok (.int .u32 (([a, b, c, d, e, f, g, h].getD j 0).toNat : Int)) W := fun j hj W =>
    run_idx8 [.int .u32 (a.toNat : Int), .int .u32 (b.toNat : Int), .int .u32 (c.toNat : Int), .int .u32 (d.toNat : Int), .int .u32 (e.toNat : Int), .int .u32 (f.toNat : Int), .int .u32 (g.toNat : Int), .int .u32 (h.toNat : Int)] j hj _ (by
      match j, hj with
      | 0, _ | 1, _ | 2, _ | 3, _ | 4, _ | 5, _ | 6, _ | 7, _ => rfl) W
  have HIX := Lib.hid hix
  clear hix
  go_enter Tryd.func69, Tryd.ntmps69
  have F := Lib.hid (Lib.fresh_isBuilder BldT 5 w)
  have B0 := Lib.hid (show Below w.heap.size w (w.alloc (.cells #[.pointer none, .slice none 0 0] BldT)) from below_alloc _ _)
  go_wp2
  have HLL := Lib.hid (show [a, b, c, d, e, f, g, h].length = 8 from rfl)
  generalize [a, b, c, d, e, f, g, h] = l at HIX HF HLL
  go_loopg [11] 8 (fun q v wr => ∃ i : Nat, i + q = 8 ∧ v = .int .i64 i ∧ Lib.IsBuilder BldT 5 w.heap.size w.heap.size (Lib.byteCells ((l.take i).flatMap figW)) wr ∧ Below w.heap.size w wr)
  case atStart => exact ⟨0, by omega, rfl, F.out, B0.out⟩
  case round =>
    clear F B0 x0 x1 x2 x3 x4 x5 x6 x7
    obtain ⟨i, hi, rfl, hbd, hbel⟩ := hrel
    have HB := Lib.hid hbd
    have HBL := Lib.hid hbel
    have hi8 : i ≤ 8 := by omega
    clear hbd hbel
    by_cases hlt : i < 8
    · have hlti : (i : Int) < 8 := by omega
      have hi0 : (0 : Int) ≤ (i : Int) := by omega
      have hj := HIX.out i hlt
      have HN := Lib.hid (show (l.take (i + 1)).flatMap figW = (l.take i).flatMap figW ++ figTo (l.getD i 0) 8 by
        have hl : i < l.length := by rw [HLL.out]; exact hlt
        rw [List.take_succ_eq_append_getElem hl, List.flatMap_append]
        simp [List.getD, List.getElem?_eq_getElem hl, figW, figTo])
      have hln : ((l.take i).flatMap figW).length = 8 * i := by rw [figs_len, List.length_take, HLL.out]; omega
      have HLN := Lib.hid hln
      have HI := Lib.hid hi
      clear hln hi
      generalize l.getD i 0 = x at hj HN
      generalize (l.take i).flatMap figW = acc at HB HN HLN
      obtain ⟨og, rfl⟩ : ∃ og, og = gk := ⟨_, rfl⟩
      go_wp2
      go_loopg [6] 8 (fun q v wr => ∃ (k : Nat) (sh : Int), k + q = 8 ∧ sh = 28 - 4 * (k : Int) ∧ v = .int .i64 sh ∧ Lib.IsBuilder BldT 5 w.heap.size w.heap.size (Lib.byteCells (acc ++ figTo x k)) wr ∧ Below w.heap.size w wr)
      case atStart => exact ⟨0, 28, by omega, by omega, rfl, by rw [show figTo x 0 = [] from rfl, List.append_nil]; exact HB.out, HBL.out⟩
      case round =>
        clear HB HBL
        obtain ⟨k, sh, hk, hsh, rfl, hbd, hbel⟩ := hrel
        have HB := Lib.hid hbd
        have HBL := Lib.hid hbel
        clear hbd hbel
        by_cases hg : gk = 0
        · obtain rfl : k = 8 := by omega
          have hneg : sh < 0 := by omega
          clear hsh hk hg
          rw [← HN.out] at HB
          go_wp2
          go_roundg (og - 1)
          case measure => have := HI.out; omega
          case rel => exact ⟨i + 1, by have := HI.out; omega, by go_num, HB.out, HBL.out⟩
        · obtain ⟨m, rfl⟩ : ∃ m : Nat, sh = (m : Int) := ⟨sh.toNat, by omega⟩
          have hm : m ≤ 28 := by omega
          have HM := Lib.hid (show m = 4 * (7 - k) by omega)
          have HK := Lib.hid hk
          have HS := Lib.hid hsh
          have HG := Lib.hid hg
          have hm0 : (0 : Int) ≤ (m : Int) := by omega
          have hm28 : (m : Int) ≤ 28 := by omega
          have hlen2 : (Lib.byteCells (acc ++ figTo x k)).length ≤ 100 := by rw [cells_len, List.length_append, figTo_len, HLN.out]; omega
          have hand := fig_and x m k HM.out
          have hv16 : x.toNat / 16 ^ (7 - k) % 16 < 16 := Nat.mod_lt _ (by decide)
          have HC := Lib.hid (figTo_succ x k)
          generalize x.toNat / 16 ^ (7 - k) % 16 = v at hand hv16 HC
          have hxr := HX.out v hv16
          unfold figArr at hxr
          clear hsh hk hg
          go_wp2_with fail
          refine (writeByte_any w.heap.size w.heap.size _ _ wr HB.out (by omega) HBL.out.size).mono ?_
          rintro e w3 ⟨rfl, h3, b3⟩
          have H3 := bldF (cs := Lib.byteCells (acc ++ figTo x (k + 1))) h3 (by rw [HC.out, ← List.append_assoc, cells_snoc])
          have B3 := Lib.hid (HBL.out.trans b3)
          clear h3 b3
          go_wp2
          go_roundg (gk - 1)
          case measure => have := HG.out; omega
          case rel => exact ⟨k + 1, (m : Int) - 4, by have := HG.out; have := HK.out; omega, by have := HS.out; omega, by go_num, H3.out, B3.out⟩
    · obtain rfl : i = 8 := by omega
      have HN := Lib.hid (show l.take 8 = l from List.take_of_length_le (by rw [HLL.out]; exact Nat.le_refl _))
      clear hi
      go_wp2_with fail
      refine (Tryd.Builder_String_any w.heap.size w.heap.size _ _ HB.out HBL.out.size).mono ?_
      rintro e w3 ⟨rfl, b3⟩
      have B3 := Lib.hid (HBL.out.trans b3)
      clear b3
      go_wp2
      go_ret
      exact ⟨by rw [HF.out, HN.out]; rfl, B3.out⟩
end Go.Proofs.YtfekpbkcidhbfaaDoor
