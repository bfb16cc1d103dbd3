import Derived.Test.YtbioljpjpflboaaGreatDoorProg
import Derived.Test.YtbioljpjpflboaaGreatDoorBase
import Derived.Lib.ItoaNum
import Derived.Handy
import Derived.Deep.AppendLies
import Derived.Deep.RegionLaw
import Derived.Test.YtbioljpjpflboaaGreatDoorShelf
import Derived.Lib.LaidTab
import Derived.Lib.ItoaLen
import Derived.Lib.ItoaMem
import Derived.Test.YtbioljpjpflboaaGreatDoorSpaceS
import Derived.Deep.Cut
import Derived.Test.YtbioljpjpflboaaGreatDoorThingOk
import Derived.Deep.RegionHeld3
/- l1Dec of the model: a number in decimals. -/
namespace Go.Proofs.YtbioljpjpflboaaGreatDoor
open Go Go.RowKit

def decB (n : Nat) : ByteArray := ⟨(Lib.decDigits n).toArray⟩
theorem decB_small {n : Nat} (h : n < 10) : decB n = ⟨#[UInt8.ofNat (48 + n)]⟩ := by unfold decB; rw [Lib.decDigits_one h]
theorem decB_next {n : Nat} (h : ¬ n < 10) : decB n = decB (n / 10) ++ ⟨#[UInt8.ofNat (48 + n % 10)]⟩ := by
  apply bytes_ext
  unfold decB
  conv => lhs; rw [Lib.decDigits, dif_neg h]
  simp

theorem decB_size : ∀ n : Nat, (decB n).size ≤ n + 1 := by
  intro n
  induction n using Nat.strongRecOn with
  | ind n ih =>
    by_cases h : n < 10
    · rw [decB_small h]; show 1 ≤ n + 1; omega
    · rw [decB_next h, ByteArray.size_append]
      have := ih (n / 10) (by omega)
      show (decB (n / 10)).size + 1 ≤ n + 1
      omega
theorem dec_digit (n : Nat) : UInt8.ofNat (IntKind.u8.wrap (IntKind.i64.wrap (48 + (n : Int).tmod 10))).toNat = UInt8.ofNat (48 + n % 10) := by
  have h : (n : Int).tmod 10 = ((n % 10 : Nat) : Int) := by rw [Int.tmod_eq_emod_of_nonneg (by omega)]; simp
  have h1 : IntKind.i64.wrap (48 + (n : Int).tmod 10) = ((48 + n % 10 : Nat) : Int) := by rw [h]; simp [IntKind.wrap, IntKind.bits, IntKind.signed]; omega
  have h2 : IntKind.u8.wrap ((48 + n % 10 : Nat) : Int) = ((48 + n % 10 : Nat) : Int) := by simp [IntKind.wrap, IntKind.bits, IntKind.signed]; omega
  rw [h1, h2, Int.toNat_natCast]
theorem conv_kept {P : Program} {w w1 : World} {x : Int} {e : TypeId} (hb : Below (w.alloc (.cells #[.int .u8 x] e)).drew.heap.size (w.alloc (.cells #[.int .u8 x] e)).drew w1) (src dst e' : TypeId) (hs : P.underlying src = some (.slice e')) (he : P.underlying e' = some (.int .u8)) (hd : P.underlying dst = some .string) :
    (convert src dst (.slice (some ⟨w.heap.size, 0, none⟩) 1 1)).run P w1 = .ok (.string ⟨#[UInt8.ofNat x.toNat]⟩) w1 := by
  have h := run_convert_bytes_arg (P := P) w1 src e' hs he w.heap.size 0 1 1 [x] rfl (by
    intro i hi
    obtain rfl : i = 0 := by omega
    rw [hb.cell (by simp)]
    show (w.alloc _).cell? _ = _
    simp [go_sem]) dst hd
  rw [h]
  simp [strOfNums]

set_option maxRecDepth 100000 in
set_option maxHeartbeats 400000 in
theorem dec_any : ∀ (n : Nat) (w : World), n ≤ 9223372036854775807 → Calls Tryz.prog 21 #[.int .i64 n] w fun e w' => e = .returned (.string (decB n)) ∧ Below w.heap.size w w' := by
  intro n
  induction n using Nat.strongRecOn with
  | ind n ih =>
    intro w hn
    by_cases h : n < 10
    · have hn0 : (0 : Int) ≤ (n : Int) := by omega
      have hn1 : (n : Int) < 10 := by omega
      have HD := Lib.hid (decB_small h)
      clear ih h
      have hcv := conv_one (P := Tryz.prog) w 64 9 5 (48 + (n : Int)) Tryz.underlying64 Tryz.underlying5 Tryz.underlying9
      go_enter Tryz.func21, Tryz.ntmps21
      go_wp2
      go_ret
      refine ⟨ret_str ?_, (by repeat (first | exact Below.refl _ _ | (refine Below.alloc ?_ (by first | (simp; done) | (simp; omega)) _) | (refine Below.setCell ?_ (by first | (simp; done) | (simp; omega)) _) | (refine Below.drew ?_)))⟩
      rw [HD.out]
    · have hn0 : (0 : Int) ≤ (n : Int) := by omega
      have hn1 : (10 : Int) ≤ (n : Int) := by omega
      have HD := Lib.hid (decB_next h)
      have HI := Lib.hid (show ∀ w : World, Calls Tryz.prog 21 #[.int .i64 ((n : Int) / 10)] w fun e w' => e = .returned (.string (decB (n / 10))) ∧ Below w.heap.size w w' from fun w => by
        have := ih (n / 10) (by omega) w (by omega)
        rwa [show ((n / 10 : Nat) : Int) = (n : Int) / 10 by simp] at this)
      have HW := Lib.hid (show IntKind.i64.wrap ((n : Int) / 10) = (n : Int) / 10 by simp [IntKind.wrap, IntKind.bits, IntKind.signed]; omega)
      clear ih
      have hcA : ∀ W : World, (convert 64 9 (.slice (some ⟨W.heap.size, 0, none⟩) 1 1)).run Tryz.prog (W.alloc (.cells #[.int .u8 (IntKind.u8.wrap (IntKind.i64.wrap (48 + (n : Int).tmod 10)))] 5)) = .ok (.string ⟨#[UInt8.ofNat (IntKind.u8.wrap (IntKind.i64.wrap (48 + (n : Int).tmod 10))).toNat]⟩) (W.alloc (.cells #[.int .u8 (IntKind.u8.wrap (IntKind.i64.wrap (48 + (n : Int).tmod 10)))] 5)) := fun W => conv_one (P := Tryz.prog) W 64 9 5 (IntKind.u8.wrap (IntKind.i64.wrap (48 + (n : Int).tmod 10))) Tryz.underlying64 Tryz.underlying5 Tryz.underlying9
      have hcE : (convert 64 9 (.slice (some ⟨w.heap.size, 0, none⟩) 1 1)).run Tryz.prog (w.alloc (.cells #[.int .u8 (IntKind.u8.wrap (IntKind.i64.wrap (48 + (n : Int).tmod 10)))] 5)).drew = .ok (.string ⟨#[UInt8.ofNat (IntKind.u8.wrap (IntKind.i64.wrap (48 + (n : Int).tmod 10))).toNat]⟩) (w.alloc (.cells #[.int .u8 (IntKind.u8.wrap (IntKind.i64.wrap (48 + (n : Int).tmod 10)))] 5)).drew := conv_kept (Below.refl _ _) 64 9 5 Tryz.underlying64 Tryz.underlying5 Tryz.underlying9
      have HR := Lib.hid (show UInt8.ofNat (IntKind.u8.wrap (IntKind.i64.wrap (48 + (n : Int).tmod 10))).toNat = UInt8.ofNat (48 + n % 10) from dec_digit n)
      have hsz : ¬ 9223372036854775807 < (decB (n / 10)).size + 1 := by have := decB_size (n / 10); omega
      go_enter Tryz.func21, Tryz.ntmps21
      go_wp2_with fail
      go_region_law (go_simp; go_at_call 21; rw [HW.out]; refine (HI.out _).mono ?_; rintro e w1 ⟨rfl, b1⟩; (first | (have hcB : (convert 64 9 (.slice (some ⟨w.heap.size, 0, none⟩) 1 1)).run Tryz.prog w1 = .ok (.string ⟨#[UInt8.ofNat (IntKind.u8.wrap (IntKind.i64.wrap (48 + (n : Int).tmod 10))).toNat]⟩) w1 := conv_kept b1 64 9 5 Tryz.underlying64 Tryz.underlying5 Tryz.underlying9) | skip); have B1 : Below w.heap.size w w1 := Below.trans (by repeat (first | exact Below.refl _ _ | (refine Below.alloc ?_ (by first | omega | (simp; done) | (simp; omega)) _) | (refine Below.drew ?_))) (b1.mono (by first | omega | (simp; done) | (simp; omega))))
      all_goals
        go_wp2
        go_ret
        have z1 := B1.size
        refine ⟨ret_str ?_, by repeat (first | exact B1 | exact Below.refl _ _ | (refine Below.alloc ?_ (by first | omega | (simp; done) | (simp; omega)) _) | (refine Below.drew ?_))⟩
        rw [HD.out, HR.out]
end Go.Proofs.YtbioljpjpflboaaGreatDoor

/- What stands about strconv.Itoa: its table, and the memory that it leaves. -/
namespace Go.Proofs.YtbioljpjpflboaaGreatDoor
open Go Go.RowKit

theorem below_grow (w : World) (k : Nat) (os : Array Obj) : Below w.heap.size w (Go.Sort.grow (w.drewN k) os) := by
  refine ⟨rfl, rfl, rfl, by simp [Go.Sort.grow], fun j hj => ?_⟩
  show (w.heap ++ os)[j]? = w.heap[j]?
  rw [Array.getElem?_append_left hj]
theorem tab_below {w w' : World} (h : Lib.TabIs Tryz.prog w "internal/strconv.uint64pow10" .u64 Lib.pow10Tab) (hb : Below w.heap.size w w') : Lib.TabIs Tryz.prog w' "internal/strconv.uint64pow10" .u64 Lib.pow10Tab := by
  obtain ⟨g, hg⟩ : ∃ g, (Tryz.prog).globalNamed "internal/strconv.uint64pow10" = some g := ⟨0, by kernel_rfl⟩
  have hlt : g < w.heap.size := by
    have := Lib.TabIs.cell h hg 0 (by decide)
    have := World.block_lt_of_cell? w _ this
    simpa using this
  unfold Lib.TabIs at h ⊢
  unfold World.var? at h ⊢
  rw [hg] at h ⊢
  simp only [Option.bind_some] at h ⊢
  rw [hb.block g hlt]
  exact h
end Go.Proofs.YtbioljpjpflboaaGreatDoor

/- Numbers and words as the texts of spaces, things and requests have them. -/
namespace Go.Proofs.YtbioljpjpflboaaGreatDoor
open Go Go.RowKit

def decI (n : Int) : ByteArray := ⟨(Lib.itoa n).toArray⟩
theorem decI_nat {n : Int} (h : 0 ≤ n) : decI n = decB n.toNat := by
  unfold decI decB Lib.itoa
  rw [if_neg (by omega)]
theorem decI_neg1 : decI (-1) = ⟨#[45, 49]⟩ := by
  apply bytes_ext
  have h : Lib.itoa (-1) = [45, 49] := by
    unfold Lib.itoa
    rw [if_pos (by omega), show (-1 : Int).natAbs = 1 from rfl, Lib.decDigits_one (by omega)]
    rfl
  unfold decI
  rw [h]
theorem decI_size {n : Int} (h0 : -9223372036854775808 ≤ n) (h1 : n ≤ 9223372036854775807) : (decI n).size ≤ 21 := by
  have := Lib.itoa_length_le n h0 h1
  show (Lib.itoa n).toArray.size ≤ 21
  rw [List.size_toArray]
  exact this
def flagB (g : Bool) : ByteArray := if g then ⟨#[103, 111, 105, 110, 103]⟩ else ⟨#[104, 101, 114, 101]⟩
theorem flagB_size (g : Bool) : (flagB g).size ≤ 5 := by cases g <;> decide
/-- a word, a stroke for none -/
def wordB (s : ByteArray) : ByteArray := if s = ⟨#[]⟩ then ⟨#[45]⟩ else s
theorem wordB_size (s : ByteArray) : (wordB s).size ≤ s.size + 1 := by
  unfold wordB
  split
  · show 1 ≤ _; omega
  · omega
theorem decS_any {n : Int} (h0 : -1 ≤ n) (h1 : n ≤ 9223372036854775807) (w : World) : Calls Tryz.prog 21 #[.int .i64 n] w fun e w' => e = .returned (.string (decI n)) ∧ Below w.heap.size w w' := by
  by_cases h : 0 ≤ n
  · rw [decI_nat h]
    have h2 : n = ((n.toNat : Nat) : Int) := by omega
    conv => arg 3; rw [h2]
    exact dec_any n.toNat w (by omega)
  obtain rfl : n = -1 := by omega
  rw [decI_neg1]
  have HD := Lib.hid (show (⟨#[45]⟩ : ByteArray) ++ decB 1 = ⟨#[45, 49]⟩ by rw [decB_small (by omega)]; rfl)
  have hsz : ¬ 9223372036854775807 < 1 + (decB 1).size := by have := decB_size 1; omega
  go_enter Tryz.func21, Tryz.ntmps21
  go_wp2_with (go_at_call 21; refine (dec_any 1 _ (by omega)).mono ?_; rintro e w1 ⟨rfl, b1⟩)
  go_ret
  exact ⟨ret_str HD.out, b1⟩
theorem itoaI_any {n : Int} (h0 : -9223372036854775808 ≤ n) (h1 : n ≤ 9223372036854775807) (w : World) (htab : Lib.TabIs Tryz.prog w "internal/strconv.uint64pow10" .u64 Lib.pow10Tab) : Calls Tryz.prog 30 #[.int .i64 n] w fun e w' => e = .returned (.string (decI n)) ∧ Below w.heap.size w w' := by
  refine (Tryz.strconv_Itoa n h0 h1 w htab).mono ?_
  rintro e w' ⟨rfl, k, os, rfl⟩
  exact ⟨rfl, below_grow w k os⟩
theorem flagS_any (g : Bool) (w : World) : Calls Tryz.prog 60 #[.bool g] w fun e w' => e = .returned (.string (flagB g)) ∧ Below w.heap.size w w' := by
  cases g
  · go_enter Tryz.func60, Tryz.ntmps60
    go_wp2
    go_ret
    exact ⟨rfl, (by repeat (first | exact Below.refl _ _ | (refine Below.alloc ?_ (by first | (simp; done) | (simp; omega)) _) | (refine Below.setCell ?_ (by first | (simp; done) | (simp; omega)) _) | (refine Below.drew ?_)))⟩
  · go_enter Tryz.func60, Tryz.ntmps60
    go_wp2
    go_ret
    exact ⟨rfl, (by repeat (first | exact Below.refl _ _ | (refine Below.alloc ?_ (by first | (simp; done) | (simp; omega)) _) | (refine Below.setCell ?_ (by first | (simp; done) | (simp; omega)) _) | (refine Below.drew ?_)))⟩
theorem flagI_any (g : Bool) (w : World) : Calls Tryz.prog 75 #[.bool g] w fun e w' => e = .returned (.string (flagB g)) ∧ Below w.heap.size w w' := by
  cases g
  · go_enter Tryz.func75, Tryz.ntmps75
    go_wp2
    go_ret
    exact ⟨rfl, (by repeat (first | exact Below.refl _ _ | (refine Below.alloc ?_ (by first | (simp; done) | (simp; omega)) _) | (refine Below.setCell ?_ (by first | (simp; done) | (simp; omega)) _) | (refine Below.drew ?_)))⟩
  · go_enter Tryz.func75, Tryz.ntmps75
    go_wp2
    go_ret
    exact ⟨rfl, (by repeat (first | exact Below.refl _ _ | (refine Below.alloc ?_ (by first | (simp; done) | (simp; omega)) _) | (refine Below.setCell ?_ (by first | (simp; done) | (simp; omega)) _) | (refine Below.drew ?_)))⟩
theorem tlW_inj {a b : ByteArray} (h : a.toList = b.toList) : a = b := by
  rw [ByteArray.toList_eq, ByteArray.toList_eq] at h
  cases a; cases b
  congr 1
  exact Array.toList_inj.1 h
theorem neW {s : ByteArray} (h : s ≠ ⟨#[]⟩) : s.toList.isEmpty = false := by
  rw [List.isEmpty_eq_false_iff]
  intro e
  exact h (tlW_inj (e.trans (by simp)))
theorem word_any (s : ByteArray) (w : World) : Calls Tryz.prog 41 #[.string s] w fun e w' => e = .returned (.string (wordB s)) ∧ Below w.heap.size w w' := by
  by_cases h : s = ⟨#[]⟩
  · subst h
    have H := Lib.hid (show wordB ⟨#[]⟩ = ⟨#[45]⟩ by simp [wordB])
    go_enter Tryz.func41, Tryz.ntmps41
    go_wp2
    go_ret
    exact ⟨ret_str H.out.symm, (by repeat (first | exact Below.refl _ _ | (refine Below.alloc ?_ (by first | (simp; done) | (simp; omega)) _) | (refine Below.setCell ?_ (by first | (simp; done) | (simp; omega)) _) | (refine Below.drew ?_)))⟩
  · have H := Lib.hid (show wordB s = s by simp [wordB, h])
    have h1 := neW h
    clear h
    go_enter Tryz.func41, Tryz.ntmps41
    go_wp2
    go_ret
    exact ⟨ret_str H.out.symm, (by repeat (first | exact Below.refl _ _ | (refine Below.alloc ?_ (by first | (simp; done) | (simp; omega)) _) | (refine Below.setCell ?_ (by first | (simp; done) | (simp; omega)) _) | (refine Below.drew ?_)))⟩
end Go.Proofs.YtbioljpjpflboaaGreatDoor

/- SpaceWrite, of the model and of the program. -/
namespace Go.Proofs.YtbioljpjpflboaaGreatDoor
open Go Go.RowKit

/-- the text of a space -/
def swL (x : SpaceD) : ByteArray := wordB x.2.1 ++ ⟨#[32]⟩ ++ decI x.2.2.1 ++ ⟨#[32]⟩ ++ flagB x.2.2.2.1 ++ ⟨#[32]⟩ ++ decI x.2.2.2.2
def swB (x : SpaceD) : ByteArray := if spOk x then swL x else ⟨#[]⟩
theorem spOk_nums {x : SpaceD} (h : spOk x = true) : (-1 ≤ x.2.2.1 ∧ x.2.2.1 ≤ 99999) ∧ (0 ≤ x.2.2.2.2 ∧ x.2.2.2.2 ≤ 99999) := by
  unfold spOk at h
  simp only [Bool.and_eq_true] at h
  exact ⟨of_decide_eq_true h.1.1.2, of_decide_eq_true h.1.2⟩
theorem nameB_size {x : ByteArray} (h : nameB x.data.toList = true) : x.size ≤ 6 := by
  unfold nameB at h
  rw [Bool.and_eq_true] at h
  have h2 := of_decide_eq_true h.2
  simpa using h2.2
theorem spOk_over {x : SpaceD} (h : spOk x = true) : x.2.1.size ≤ 6 := by
  unfold spOk at h
  simp only [Bool.and_eq_true, Bool.or_eq_true, decide_eq_true_eq] at h
  rcases h.1.1.1.1.2 with e | e
  · rw [e]; decide
  · exact nameB_size e
set_option maxRecDepth 100000 in
set_option maxHeartbeats 4000000 in
theorem specSpW_any (x0 x1 : ByteArray) (x2 : Int) (x3 : Bool) (x4 : Int) (w : World) (h0 : x0.size ≤ maxLen) (h1 : x1.size ≤ maxLen) :
    Calls Tryz.prog 22 #[.agg #[.string x0, .string x1, .int .i64 x2, .bool x3, .int .i64 x4]] w fun e w' => e = .returned (.string (swB (x0, x1, x2, x3, x4))) ∧ Below w.heap.size w w' := by
  obtain ⟨w1, hA⟩ : ∃ wA, w.alloc (.cells #[.string x0, .string x1, .int .i64 x2, .bool x3, .int .i64 x4] 51) = wA := ⟨_, rfl⟩
  have BX := Lib.hid (show Box w1 w.heap.size [.string x0, .string x1, .int .i64 x2, .bool x3, .int .i64 x4] by rw [← hA]; exact Box.alloc w _ _)
  have B1 := Lib.hid (show Below w.heap.size w w1 by rw [← hA]; exact below_alloc _ _)
  have HF := Lib.hid (show ∀ W, Below w1.heap.size w1 W → Below w.heap.size w W from fun W hb => B1.out.trans (hb.mono B1.out.size))
  have KS := Lib.hid (show ∀ W, Below w1.heap.size w1 W → Below w1.heap.size w1 W ∧ W.cell? ⟨w.heap.size, 1, none⟩ = some (.string x1) ∧ W.cell? ⟨w.heap.size, 2, none⟩ = some (.int .i64 x2) ∧ W.cell? ⟨w.heap.size, 3, none⟩ = some (.bool x3) ∧ W.cell? ⟨w.heap.size, 4, none⟩ = some (.int .i64 x4) from fun W hb => by
    have h := BX.out.below hb
    exact ⟨hb, (h 1 _ rfl).1, (h 2 _ rfl).1, (h 3 _ rfl).1, (h 4 _ rfl).1⟩)
  have HA := Lib.hid hA
  clear hA
  cases hok : spOk (x0, x1, x2, x3, x4) with
  | false =>
    have HN := Lib.hid (show swB (x0, x1, x2, x3, x4) = ⟨#[]⟩ by simp [swB, hok])
    have HK := Lib.hid hok
    clear hok
    go_enter Tryz.func22, Tryz.ntmps22
    go_wp2_with fail
    rw [HA.out]
    refine (l8Ok_any x0 x1 x2 x3 x4 _ h0 h1).mono ?_
    rintro e w2 ⟨rfl, b2⟩
    rw [HK.out]
    go_wp2
    go_ret
    exact ⟨ret_str HN.out.symm, HF.out _ b2⟩
  | true =>
  obtain ⟨⟨hn0, hn1⟩, hr0, hr1⟩ := spOk_nums hok
  have hov := spOk_over hok
  simp only at hov
  have HN := Lib.hid (show swB (x0, x1, x2, x3, x4) = wordB x1 ++ ⟨#[32]⟩ ++ decI x2 ++ ⟨#[32]⟩ ++ flagB x3 ++ ⟨#[32]⟩ ++ decI x4 by simp [swB, hok, swL])
  have HK := Lib.hid hok
  simp only at hn0 hn1 hr0 hr1
  have z1 := decI_size (n := x2) (by omega) (by omega)
  have z2 := decI_size (n := x4) (by omega) (by omega)
  have z3 := flagB_size x3
  have HD1 := Lib.hid (fun W => decS_any (n := x2) (by omega) (by omega) W)
  have HD2 := Lib.hid (fun W => decS_any (n := x4) (by omega) (by omega) W)
  have HFL := Lib.hid (fun W => flagS_any x3 W)
  generalize decI x2 = d1 at HN z1 HD1
  generalize decI x4 = d2 at HN z2 HD2
  generalize flagB x3 = d3 at HN z3 HFL
  clear hok hn0 hn1 hr0 hr1
  by_cases e : x1 = ⟨#[]⟩
  · subst e
    have HW := Lib.hid (show wordB ⟨#[]⟩ = ⟨#[45]⟩ by simp [wordB])
    have f1 : ¬ 9223372036854775807 < 1 + 1 + d1.size := by omega
    have f2 : ¬ 9223372036854775807 < 1 + 1 + d1.size + 1 := by omega
    have f3 : ¬ 9223372036854775807 < 1 + 1 + d1.size + 1 + d3.size := by omega
    have f4 : ¬ 9223372036854775807 < 1 + 1 + d1.size + 1 + d3.size + 1 := by omega
    have f5 : ¬ 9223372036854775807 < 1 + 1 + d1.size + 1 + d3.size + 1 + d2.size := by omega
    go_enter Tryz.func22, Tryz.ntmps22
    go_wp2_with fail
    rw [HA.out]
    refine (l8Ok_any x0 ⟨#[]⟩ x2 x3 x4 _ h0 h1).mono ?_
    rintro e w2 ⟨rfl, b2⟩
    rw [HK.out]
    obtain ⟨-, c1, -, -, -⟩ := KS.out _ b2
    go_upto_region 6 with fail
    refine wp_region_held_drew (S := fun W => Below w1.heap.size w1 W ∧ W.cell? ⟨w.heap.size, 1, none⟩ = some (.string ⟨#[]⟩) ∧ W.cell? ⟨w.heap.size, 2, none⟩ = some (.int .i64 x2) ∧ W.cell? ⟨w.heap.size, 3, none⟩ = some (.bool x3) ∧ W.cell? ⟨w.heap.size, 4, none⟩ = some (.int .i64 x4)) (by kernel_rfl) (KS.out _ b2.drew) (fun hHeld => ?_)
    refine wpAnyH_take (i := 0) (oi := { dst := some 11, op := Op.move (Operand.tmp 3), type := 9, pos := "l8_space.go:184", after := _, guard := none }) (v := ?_) rfl (by kernel_rfl) (by kernel_rfl) (by kernel_rfl) (fun _ _ _ h => h) (Or.inl ⟨by rfl, ?_⟩) (by assumption) ?_
    rotate_left
    · (intro w hSw; (try dsimp only at hSw); go_simp; (try with_reducible rfl))
    simp only [Act.put, List.setIfInBounds_toArray, List.set_cons_zero, List.set_cons_succ]
    refine wpAnyH_take (i := 1) (oi := { dst := some 12, op := Op.binOp BinOp.add 9 (Operand.tmp 11) (Operand.const (Value.string { data := #[32] })) 9, type := 9, pos := "l8_space.go:184", after := _, guard := none }) (v := ?_) rfl (by kernel_rfl) (by kernel_rfl) (by kernel_rfl) (fun _ _ _ h => h) (Or.inl ⟨by rfl, ?_⟩) (by assumption) ?_
    rotate_left
    · (intro w hSw; (try dsimp only at hSw); go_simp; (try with_reducible rfl))
    simp only [Act.put, List.setIfInBounds_toArray, List.set_cons_zero, List.set_cons_succ]
    refine wpAnyH_take (i := 2) (oi := { dst := some 13, op := Op.fieldAddr 51 (Operand.tmp 1) 2, type := 0, pos := "l8_space.go:184", after := _, guard := none }) (v := ?_) rfl (by kernel_rfl) (by kernel_rfl) (by kernel_rfl) (fun _ _ _ h => h) (Or.inl ⟨by rfl, ?_⟩) (by assumption) ?_
    rotate_left
    · (intro w hSw; (try dsimp only at hSw); go_simp; (try with_reducible rfl))
    simp only [Act.put, List.setIfInBounds_toArray, List.set_cons_zero, List.set_cons_succ]
    refine wpAnyH_take (i := 3) (oi := { dst := some 14, op := Op.load 3 (Operand.tmp 13), type := 3, pos := "l8_space.go:184", after := _, guard := none }) (v := ?_) rfl (by kernel_rfl) (by kernel_rfl) (by kernel_rfl) (fun _ _ _ h => h) (Or.inl ⟨by rfl, ?_⟩) (by assumption) ?_
    rotate_left
    · (intro w hSw; (try dsimp only at hSw); go_simp; (try with_reducible rfl))
    simp only [Act.put, List.setIfInBounds_toArray, List.set_cons_zero, List.set_cons_succ]
    refine wpAnyH_take (i := 7) (oi := { dst := some 18, op := Op.fieldAddr 51 (Operand.tmp 1) 3, type := 0, pos := "l8_space.go:184", after := _, guard := none }) (v := ?_) rfl (by kernel_rfl) (by kernel_rfl) (by kernel_rfl) (fun _ _ _ h => h) (Or.inl ⟨by rfl, ?_⟩) (by assumption) ?_
    rotate_left
    · (intro w hSw; (try dsimp only at hSw); go_simp; (try with_reducible rfl))
    simp only [Act.put, List.setIfInBounds_toArray, List.set_cons_zero, List.set_cons_succ]
    refine wpAnyH_take (i := 8) (oi := { dst := some 19, op := Op.load 4 (Operand.tmp 18), type := 4, pos := "l8_space.go:184", after := _, guard := none }) (v := ?_) rfl (by kernel_rfl) (by kernel_rfl) (by kernel_rfl) (fun _ _ _ h => h) (Or.inl ⟨by rfl, ?_⟩) (by assumption) ?_
    rotate_left
    · (intro w hSw; (try dsimp only at hSw); go_simp; (try with_reducible rfl))
    simp only [Act.put, List.setIfInBounds_toArray, List.set_cons_zero, List.set_cons_succ]
    refine wpAnyH_take (i := 12) (oi := { dst := some 23, op := Op.fieldAddr 51 (Operand.tmp 1) 4, type := 0, pos := "l8_space.go:184", after := _, guard := none }) (v := ?_) rfl (by kernel_rfl) (by kernel_rfl) (by kernel_rfl) (fun _ _ _ h => h) (Or.inl ⟨by rfl, ?_⟩) (by assumption) ?_
    rotate_left
    · (intro w hSw; (try dsimp only at hSw); go_simp; (try with_reducible rfl))
    simp only [Act.put, List.setIfInBounds_toArray, List.set_cons_zero, List.set_cons_succ]
    refine wpAnyH_take (i := 13) (oi := { dst := some 24, op := Op.load 3 (Operand.tmp 23), type := 3, pos := "l8_space.go:184", after := _, guard := none }) (v := ?_) rfl (by kernel_rfl) (by kernel_rfl) (by kernel_rfl) (fun _ _ _ h => h) (Or.inl ⟨by rfl, ?_⟩) (by assumption) ?_
    rotate_left
    · (intro w hSw; (try dsimp only at hSw); go_simp; (try with_reducible rfl))
    simp only [Act.put, List.setIfInBounds_toArray, List.set_cons_zero, List.set_cons_succ]
    refine wpAnyH_ready (rs := [4]) (by kernel_rfl) (by simp) ?_
    refine AllReadyH.cons (o := { dst := some 15, op := Op.call { callee := Callee.value (Operand.func 21), args := #[Operand.tmp 14], argTypes := #[3] }, type := 9, pos := "l8_space.go:184", after := _, guard := none }) rfl (fun K hK => ?_) AllReadyH.nil
    go_simp
    refine (HD1.out _).mono ?_
    rintro e w3 ⟨rfl, b3⟩
    have B3 : Below w1.heap.size w1 w3 := hHeld.1.trans (b3.mono hHeld.1.size)
    (try dsimp only)
    refine hK.out _ _ ?_ (fun hHeld => ?_)
    · exact KS.out _ B3
    clear hK K
    (try simp only [Act.put, List.setIfInBounds_toArray, List.set_cons_zero, List.set_cons_succ])
    refine wpAnyH_take (i := 5) (oi := { dst := some 16, op := Op.binOp BinOp.add 9 (Operand.tmp 12) (Operand.tmp 15) 9, type := 9, pos := "l8_space.go:184", after := _, guard := none }) (v := ?_) rfl (by kernel_rfl) (by kernel_rfl) (by kernel_rfl) (fun _ _ _ h => h) (Or.inl ⟨by rfl, ?_⟩) (by assumption) ?_
    rotate_left
    · (intro w hSw; (try dsimp only at hSw); go_simp; (try with_reducible rfl))
    simp only [Act.put, List.setIfInBounds_toArray, List.set_cons_zero, List.set_cons_succ]
    refine wpAnyH_take (i := 6) (oi := { dst := some 17, op := Op.binOp BinOp.add 9 (Operand.tmp 16) (Operand.const (Value.string { data := #[32] })) 9, type := 9, pos := "l8_space.go:184", after := _, guard := none }) (v := ?_) rfl (by kernel_rfl) (by kernel_rfl) (by kernel_rfl) (fun _ _ _ h => h) (Or.inl ⟨by rfl, ?_⟩) (by assumption) ?_
    rotate_left
    · (intro w hSw; (try dsimp only at hSw); go_simp; (try with_reducible rfl))
    simp only [Act.put, List.setIfInBounds_toArray, List.set_cons_zero, List.set_cons_succ]
    refine wpAnyH_ready (rs := [9]) (by kernel_rfl) (by simp) ?_
    refine AllReadyH.cons (o := { dst := some 20, op := Op.call { callee := Callee.value (Operand.func 60), args := #[Operand.tmp 19], argTypes := #[4] }, type := 9, pos := "l8_space.go:184", after := _, guard := none }) rfl (fun K hK => ?_) AllReadyH.nil
    go_simp
    refine (HFL.out _).mono ?_
    rintro e w3 ⟨rfl, b3⟩
    have B3 : Below w1.heap.size w1 w3 := hHeld.1.trans (b3.mono hHeld.1.size)
    (try dsimp only)
    refine hK.out _ _ ?_ (fun hHeld => ?_)
    · exact KS.out _ B3
    clear hK K
    (try simp only [Act.put, List.setIfInBounds_toArray, List.set_cons_zero, List.set_cons_succ])
    refine wpAnyH_take (i := 10) (oi := { dst := some 21, op := Op.binOp BinOp.add 9 (Operand.tmp 17) (Operand.tmp 20) 9, type := 9, pos := "l8_space.go:184", after := _, guard := none }) (v := ?_) rfl (by kernel_rfl) (by kernel_rfl) (by kernel_rfl) (fun _ _ _ h => h) (Or.inl ⟨by rfl, ?_⟩) (by assumption) ?_
    rotate_left
    · (intro w hSw; (try dsimp only at hSw); go_simp; (try with_reducible rfl))
    simp only [Act.put, List.setIfInBounds_toArray, List.set_cons_zero, List.set_cons_succ]
    refine wpAnyH_take (i := 11) (oi := { dst := some 22, op := Op.binOp BinOp.add 9 (Operand.tmp 21) (Operand.const (Value.string { data := #[32] })) 9, type := 9, pos := "l8_space.go:184", after := _, guard := none }) (v := ?_) rfl (by kernel_rfl) (by kernel_rfl) (by kernel_rfl) (fun _ _ _ h => h) (Or.inl ⟨by rfl, ?_⟩) (by assumption) ?_
    rotate_left
    · (intro w hSw; (try dsimp only at hSw); go_simp; (try with_reducible rfl))
    simp only [Act.put, List.setIfInBounds_toArray, List.set_cons_zero, List.set_cons_succ]
    refine wpAnyH_ready (rs := [14]) (by kernel_rfl) (by simp) ?_
    refine AllReadyH.cons (o := { dst := some 25, op := Op.call { callee := Callee.value (Operand.func 21), args := #[Operand.tmp 24], argTypes := #[3] }, type := 9, pos := "l8_space.go:184", after := _, guard := none }) rfl (fun K hK => ?_) AllReadyH.nil
    go_simp
    refine (HD2.out _).mono ?_
    rintro e w3 ⟨rfl, b3⟩
    have B3 : Below w1.heap.size w1 w3 := hHeld.1.trans (b3.mono hHeld.1.size)
    (try dsimp only)
    refine hK.out _ _ ?_ (fun hHeld => ?_)
    · exact KS.out _ B3
    clear hK K
    (try simp only [Act.put, List.setIfInBounds_toArray, List.set_cons_zero, List.set_cons_succ])
    refine wpAnyH_take (i := 15) (oi := { dst := some 26, op := Op.binOp BinOp.add 9 (Operand.tmp 22) (Operand.tmp 25) 9, type := 9, pos := "l8_space.go:184", after := _, guard := none }) (v := ?_) rfl (by kernel_rfl) (by kernel_rfl) (by kernel_rfl) (fun _ _ _ h => h) (Or.inl ⟨by rfl, ?_⟩) (by assumption) ?_
    rotate_left
    · (intro w hSw; (try dsimp only at hSw); go_simp; (try with_reducible rfl))
    simp only [Act.put, List.setIfInBounds_toArray, List.set_cons_zero, List.set_cons_succ]
    refine wpAnyH_take (i := 16) (oi := { dst := some 2, op := Op.assign (Operand.tmp 26), type := 9, pos := "l8_space.go:184", after := _, guard := none }) (v := ?_) rfl (by kernel_rfl) (by kernel_rfl) (by kernel_rfl) (fun _ _ _ h => h) (Or.inl ⟨by rfl, ?_⟩) (by assumption) ?_
    rotate_left
    · (intro w hSw; (try dsimp only at hSw); go_simp; (try with_reducible rfl))
    simp only [Act.put, List.setIfInBounds_toArray, List.set_cons_zero, List.set_cons_succ]
    refine wpAnyH_done (by kernel_rfl) ?_ _
    go_wp2
    go_ret
    exact ⟨ret_str (by rw [HN.out, HW.out]), HF.out _ hHeld.1⟩
  · have HW := Lib.hid (show wordB x1 = x1 by simp [wordB, e])
    have e1 := neW e
    have f1 : ¬ 9223372036854775807 < x1.size + 1 := by omega
    have f2 : ¬ 9223372036854775807 < x1.size + 1 + d1.size := by omega
    have f3 : ¬ 9223372036854775807 < x1.size + 1 + d1.size + 1 := by omega
    have f4 : ¬ 9223372036854775807 < x1.size + 1 + d1.size + 1 + d3.size := by omega
    have f5 : ¬ 9223372036854775807 < x1.size + 1 + d1.size + 1 + d3.size + 1 := by omega
    have f6 : ¬ 9223372036854775807 < x1.size + 1 + d1.size + 1 + d3.size + 1 + d2.size := by omega
    clear e
    go_enter Tryz.func22, Tryz.ntmps22
    go_wp2_with fail
    rw [HA.out]
    refine (l8Ok_any x0 x1 x2 x3 x4 _ h0 h1).mono ?_
    rintro e w2 ⟨rfl, b2⟩
    rw [HK.out]
    obtain ⟨-, c1, -, -, -⟩ := KS.out _ b2
    go_upto_region 6 with fail
    refine wp_region_held_drew (S := fun W => Below w1.heap.size w1 W ∧ W.cell? ⟨w.heap.size, 1, none⟩ = some (.string x1) ∧ W.cell? ⟨w.heap.size, 2, none⟩ = some (.int .i64 x2) ∧ W.cell? ⟨w.heap.size, 3, none⟩ = some (.bool x3) ∧ W.cell? ⟨w.heap.size, 4, none⟩ = some (.int .i64 x4)) (by kernel_rfl) (KS.out _ b2.drew) (fun hHeld => ?_)
    refine wpAnyH_take (i := 0) (oi := { dst := some 11, op := Op.move (Operand.tmp 3), type := 9, pos := "l8_space.go:184", after := _, guard := none }) (v := ?_) rfl (by kernel_rfl) (by kernel_rfl) (by kernel_rfl) (fun _ _ _ h => h) (Or.inl ⟨by rfl, ?_⟩) (by assumption) ?_
    rotate_left
    · (intro w hSw; (try dsimp only at hSw); go_simp; (try with_reducible rfl))
    simp only [Act.put, List.setIfInBounds_toArray, List.set_cons_zero, List.set_cons_succ]
    refine wpAnyH_take (i := 1) (oi := { dst := some 12, op := Op.binOp BinOp.add 9 (Operand.tmp 11) (Operand.const (Value.string { data := #[32] })) 9, type := 9, pos := "l8_space.go:184", after := _, guard := none }) (v := ?_) rfl (by kernel_rfl) (by kernel_rfl) (by kernel_rfl) (fun _ _ _ h => h) (Or.inl ⟨by rfl, ?_⟩) (by assumption) ?_
    rotate_left
    · (intro w hSw; (try dsimp only at hSw); go_simp; (try with_reducible rfl))
    simp only [Act.put, List.setIfInBounds_toArray, List.set_cons_zero, List.set_cons_succ]
    refine wpAnyH_take (i := 2) (oi := { dst := some 13, op := Op.fieldAddr 51 (Operand.tmp 1) 2, type := 0, pos := "l8_space.go:184", after := _, guard := none }) (v := ?_) rfl (by kernel_rfl) (by kernel_rfl) (by kernel_rfl) (fun _ _ _ h => h) (Or.inl ⟨by rfl, ?_⟩) (by assumption) ?_
    rotate_left
    · (intro w hSw; (try dsimp only at hSw); go_simp; (try with_reducible rfl))
    simp only [Act.put, List.setIfInBounds_toArray, List.set_cons_zero, List.set_cons_succ]
    refine wpAnyH_take (i := 3) (oi := { dst := some 14, op := Op.load 3 (Operand.tmp 13), type := 3, pos := "l8_space.go:184", after := _, guard := none }) (v := ?_) rfl (by kernel_rfl) (by kernel_rfl) (by kernel_rfl) (fun _ _ _ h => h) (Or.inl ⟨by rfl, ?_⟩) (by assumption) ?_
    rotate_left
    · (intro w hSw; (try dsimp only at hSw); go_simp; (try with_reducible rfl))
    simp only [Act.put, List.setIfInBounds_toArray, List.set_cons_zero, List.set_cons_succ]
    refine wpAnyH_take (i := 7) (oi := { dst := some 18, op := Op.fieldAddr 51 (Operand.tmp 1) 3, type := 0, pos := "l8_space.go:184", after := _, guard := none }) (v := ?_) rfl (by kernel_rfl) (by kernel_rfl) (by kernel_rfl) (fun _ _ _ h => h) (Or.inl ⟨by rfl, ?_⟩) (by assumption) ?_
    rotate_left
    · (intro w hSw; (try dsimp only at hSw); go_simp; (try with_reducible rfl))
    simp only [Act.put, List.setIfInBounds_toArray, List.set_cons_zero, List.set_cons_succ]
    refine wpAnyH_take (i := 8) (oi := { dst := some 19, op := Op.load 4 (Operand.tmp 18), type := 4, pos := "l8_space.go:184", after := _, guard := none }) (v := ?_) rfl (by kernel_rfl) (by kernel_rfl) (by kernel_rfl) (fun _ _ _ h => h) (Or.inl ⟨by rfl, ?_⟩) (by assumption) ?_
    rotate_left
    · (intro w hSw; (try dsimp only at hSw); go_simp; (try with_reducible rfl))
    simp only [Act.put, List.setIfInBounds_toArray, List.set_cons_zero, List.set_cons_succ]
    refine wpAnyH_take (i := 12) (oi := { dst := some 23, op := Op.fieldAddr 51 (Operand.tmp 1) 4, type := 0, pos := "l8_space.go:184", after := _, guard := none }) (v := ?_) rfl (by kernel_rfl) (by kernel_rfl) (by kernel_rfl) (fun _ _ _ h => h) (Or.inl ⟨by rfl, ?_⟩) (by assumption) ?_
    rotate_left
    · (intro w hSw; (try dsimp only at hSw); go_simp; (try with_reducible rfl))
    simp only [Act.put, List.setIfInBounds_toArray, List.set_cons_zero, List.set_cons_succ]
    refine wpAnyH_take (i := 13) (oi := { dst := some 24, op := Op.load 3 (Operand.tmp 23), type := 3, pos := "l8_space.go:184", after := _, guard := none }) (v := ?_) rfl (by kernel_rfl) (by kernel_rfl) (by kernel_rfl) (fun _ _ _ h => h) (Or.inl ⟨by rfl, ?_⟩) (by assumption) ?_
    rotate_left
    · (intro w hSw; (try dsimp only at hSw); go_simp; (try with_reducible rfl))
    simp only [Act.put, List.setIfInBounds_toArray, List.set_cons_zero, List.set_cons_succ]
    refine wpAnyH_ready (rs := [4]) (by kernel_rfl) (by simp) ?_
    refine AllReadyH.cons (o := { dst := some 15, op := Op.call { callee := Callee.value (Operand.func 21), args := #[Operand.tmp 14], argTypes := #[3] }, type := 9, pos := "l8_space.go:184", after := _, guard := none }) rfl (fun K hK => ?_) AllReadyH.nil
    go_simp
    refine (HD1.out _).mono ?_
    rintro e w3 ⟨rfl, b3⟩
    have B3 : Below w1.heap.size w1 w3 := hHeld.1.trans (b3.mono hHeld.1.size)
    (try dsimp only)
    refine hK.out _ _ ?_ (fun hHeld => ?_)
    · exact KS.out _ B3
    clear hK K
    (try simp only [Act.put, List.setIfInBounds_toArray, List.set_cons_zero, List.set_cons_succ])
    refine wpAnyH_take (i := 5) (oi := { dst := some 16, op := Op.binOp BinOp.add 9 (Operand.tmp 12) (Operand.tmp 15) 9, type := 9, pos := "l8_space.go:184", after := _, guard := none }) (v := ?_) rfl (by kernel_rfl) (by kernel_rfl) (by kernel_rfl) (fun _ _ _ h => h) (Or.inl ⟨by rfl, ?_⟩) (by assumption) ?_
    rotate_left
    · (intro w hSw; (try dsimp only at hSw); go_simp; (try with_reducible rfl))
    simp only [Act.put, List.setIfInBounds_toArray, List.set_cons_zero, List.set_cons_succ]
    refine wpAnyH_take (i := 6) (oi := { dst := some 17, op := Op.binOp BinOp.add 9 (Operand.tmp 16) (Operand.const (Value.string { data := #[32] })) 9, type := 9, pos := "l8_space.go:184", after := _, guard := none }) (v := ?_) rfl (by kernel_rfl) (by kernel_rfl) (by kernel_rfl) (fun _ _ _ h => h) (Or.inl ⟨by rfl, ?_⟩) (by assumption) ?_
    rotate_left
    · (intro w hSw; (try dsimp only at hSw); go_simp; (try with_reducible rfl))
    simp only [Act.put, List.setIfInBounds_toArray, List.set_cons_zero, List.set_cons_succ]
    refine wpAnyH_ready (rs := [9]) (by kernel_rfl) (by simp) ?_
    refine AllReadyH.cons (o := { dst := some 20, op := Op.call { callee := Callee.value (Operand.func 60), args := #[Operand.tmp 19], argTypes := #[4] }, type := 9, pos := "l8_space.go:184", after := _, guard := none }) rfl (fun K hK => ?_) AllReadyH.nil
    go_simp
    refine (HFL.out _).mono ?_
    rintro e w3 ⟨rfl, b3⟩
    have B3 : Below w1.heap.size w1 w3 := hHeld.1.trans (b3.mono hHeld.1.size)
    (try dsimp only)
    refine hK.out _ _ ?_ (fun hHeld => ?_)
    · exact KS.out _ B3
    clear hK K
    (try simp only [Act.put, List.setIfInBounds_toArray, List.set_cons_zero, List.set_cons_succ])
    refine wpAnyH_take (i := 10) (oi := { dst := some 21, op := Op.binOp BinOp.add 9 (Operand.tmp 17) (Operand.tmp 20) 9, type := 9, pos := "l8_space.go:184", after := _, guard := none }) (v := ?_) rfl (by kernel_rfl) (by kernel_rfl) (by kernel_rfl) (fun _ _ _ h => h) (Or.inl ⟨by rfl, ?_⟩) (by assumption) ?_
    rotate_left
    · (intro w hSw; (try dsimp only at hSw); go_simp; (try with_reducible rfl))
    simp only [Act.put, List.setIfInBounds_toArray, List.set_cons_zero, List.set_cons_succ]
    refine wpAnyH_take (i := 11) (oi := { dst := some 22, op := Op.binOp BinOp.add 9 (Operand.tmp 21) (Operand.const (Value.string { data := #[32] })) 9, type := 9, pos := "l8_space.go:184", after := _, guard := none }) (v := ?_) rfl (by kernel_rfl) (by kernel_rfl) (by kernel_rfl) (fun _ _ _ h => h) (Or.inl ⟨by rfl, ?_⟩) (by assumption) ?_
    rotate_left
    · (intro w hSw; (try dsimp only at hSw); go_simp; (try with_reducible rfl))
    simp only [Act.put, List.setIfInBounds_toArray, List.set_cons_zero, List.set_cons_succ]
    refine wpAnyH_ready (rs := [14]) (by kernel_rfl) (by simp) ?_
    refine AllReadyH.cons (o := { dst := some 25, op := Op.call { callee := Callee.value (Operand.func 21), args := #[Operand.tmp 24], argTypes := #[3] }, type := 9, pos := "l8_space.go:184", after := _, guard := none }) rfl (fun K hK => ?_) AllReadyH.nil
    go_simp
    refine (HD2.out _).mono ?_
    rintro e w3 ⟨rfl, b3⟩
    have B3 : Below w1.heap.size w1 w3 := hHeld.1.trans (b3.mono hHeld.1.size)
    (try dsimp only)
    refine hK.out _ _ ?_ (fun hHeld => ?_)
    · exact KS.out _ B3
    clear hK K
    (try simp only [Act.put, List.setIfInBounds_toArray, List.set_cons_zero, List.set_cons_succ])
    refine wpAnyH_take (i := 15) (oi := { dst := some 26, op := Op.binOp BinOp.add 9 (Operand.tmp 22) (Operand.tmp 25) 9, type := 9, pos := "l8_space.go:184", after := _, guard := none }) (v := ?_) rfl (by kernel_rfl) (by kernel_rfl) (by kernel_rfl) (fun _ _ _ h => h) (Or.inl ⟨by rfl, ?_⟩) (by assumption) ?_
    rotate_left
    · (intro w hSw; (try dsimp only at hSw); go_simp; (try with_reducible rfl))
    simp only [Act.put, List.setIfInBounds_toArray, List.set_cons_zero, List.set_cons_succ]
    refine wpAnyH_take (i := 16) (oi := { dst := some 2, op := Op.assign (Operand.tmp 26), type := 9, pos := "l8_space.go:184", after := _, guard := none }) (v := ?_) rfl (by kernel_rfl) (by kernel_rfl) (by kernel_rfl) (fun _ _ _ h => h) (Or.inl ⟨by rfl, ?_⟩) (by assumption) ?_
    rotate_left
    · (intro w hSw; (try dsimp only at hSw); go_simp; (try with_reducible rfl))
    simp only [Act.put, List.setIfInBounds_toArray, List.set_cons_zero, List.set_cons_succ]
    refine wpAnyH_done (by kernel_rfl) ?_ _
    go_wp2
    go_ret
    exact ⟨ret_str (by rw [HN.out, HW.out]), HF.out _ hHeld.1⟩
set_option maxRecDepth 100000 in
set_option maxHeartbeats 4000000 in
theorem implSpW_any (x0 x1 : ByteArray) (x2 : Int) (x3 : Bool) (x4 : Int) (w : World) (h0 : x0.size ≤ maxLen) (h1 : x1.size ≤ maxLen) (htab : Lib.TabIs Tryz.prog w "internal/strconv.uint64pow10" .u64 Lib.pow10Tab) :
    Calls Tryz.prog 31 #[.agg #[.string x0, .string x1, .int .i64 x2, .bool x3, .int .i64 x4]] w fun e w' => e = .returned (.string (swB (x0, x1, x2, x3, x4))) ∧ Below w.heap.size w w' := by
  have HT := Lib.hid htab
  clear htab
  obtain ⟨w1, hA⟩ : ∃ wA, w.alloc (.cells #[.string x0, .string x1, .int .i64 x2, .bool x3, .int .i64 x4] 51) = wA := ⟨_, rfl⟩
  have BX := Lib.hid (show Box w1 w.heap.size [.string x0, .string x1, .int .i64 x2, .bool x3, .int .i64 x4] by rw [← hA]; exact Box.alloc w _ _)
  have B1 := Lib.hid (show Below w.heap.size w w1 by rw [← hA]; exact below_alloc _ _)
  have HF := Lib.hid (show ∀ W, Below w1.heap.size w1 W → Below w.heap.size w W from fun W hb => B1.out.trans (hb.mono B1.out.size))
  have KS := Lib.hid (show ∀ W, Below w1.heap.size w1 W → Below w1.heap.size w1 W ∧ W.cell? ⟨w.heap.size, 1, none⟩ = some (.string x1) ∧ W.cell? ⟨w.heap.size, 2, none⟩ = some (.int .i64 x2) ∧ W.cell? ⟨w.heap.size, 3, none⟩ = some (.bool x3) ∧ W.cell? ⟨w.heap.size, 4, none⟩ = some (.int .i64 x4) from fun W hb => by
    have h := BX.out.below hb
    exact ⟨hb, (h 1 _ rfl).1, (h 2 _ rfl).1, (h 3 _ rfl).1, (h 4 _ rfl).1⟩)
  have HA := Lib.hid hA
  clear hA
  cases hok : spOk (x0, x1, x2, x3, x4) with
  | false =>
    have HN := Lib.hid (show swB (x0, x1, x2, x3, x4) = ⟨#[]⟩ by simp [swB, hok])
    have HK := Lib.hid hok
    clear hok
    go_enter Tryz.func31, Tryz.ntmps31
    go_wp2_with fail
    rw [HA.out]
    refine (spaceOk_any x0 x1 x2 x3 x4 _ h0 h1).mono ?_
    rintro e w2 ⟨rfl, b2⟩
    rw [HK.out]
    go_wp2
    go_ret
    exact ⟨ret_str HN.out.symm, HF.out _ b2⟩
  | true =>
  obtain ⟨⟨hn0, hn1⟩, hr0, hr1⟩ := spOk_nums hok
  have hov := spOk_over hok
  simp only at hov
  have HN := Lib.hid (show swB (x0, x1, x2, x3, x4) = wordB x1 ++ ⟨#[32]⟩ ++ decI x2 ++ ⟨#[32]⟩ ++ flagB x3 ++ ⟨#[32]⟩ ++ decI x4 by simp [swB, hok, swL])
  have HK := Lib.hid hok
  simp only at hn0 hn1 hr0 hr1
  have z1 := decI_size (n := x2) (by omega) (by omega)
  have z2 := decI_size (n := x4) (by omega) (by omega)
  have z3 := flagB_size x3
  have HD1 := Lib.hid (fun W (hb : Below w1.heap.size w1 W) => itoaI_any (n := x2) (by omega) (by omega) W (tab_below HT.out (HF.out W hb)))
  have HD2 := Lib.hid (fun W (hb : Below w1.heap.size w1 W) => itoaI_any (n := x4) (by omega) (by omega) W (tab_below HT.out (HF.out W hb)))
  have HFL := Lib.hid (fun W => flagI_any x3 W)
  have HWD := Lib.hid (fun W => word_any x1 W)
  have z4 := wordB_size x1
  generalize wordB x1 = d0 at HN z4 HWD
  generalize decI x2 = d1 at HN z1 HD1
  generalize decI x4 = d2 at HN z2 HD2
  generalize flagB x3 = d3 at HN z3 HFL
  clear hok hn0 hn1 hr0 hr1
  have f0 : ¬ 9223372036854775807 < d0.size + 1 := by omega
  have f1 : ¬ 9223372036854775807 < d0.size + 1 + d1.size := by omega
  have f2 : ¬ 9223372036854775807 < d0.size + 1 + d1.size + 1 := by omega
  have f3 : ¬ 9223372036854775807 < d0.size + 1 + d1.size + 1 + d3.size := by omega
  have f4 : ¬ 9223372036854775807 < d0.size + 1 + d1.size + 1 + d3.size + 1 := by omega
  have f5 : ¬ 9223372036854775807 < d0.size + 1 + d1.size + 1 + d3.size + 1 + d2.size := by omega
  go_enter Tryz.func31, Tryz.ntmps31
  go_wp2_with fail
  rw [HA.out]
  refine (spaceOk_any x0 x1 x2 x3 x4 _ h0 h1).mono ?_
  rintro e w2 ⟨rfl, b2⟩
  rw [HK.out]
  go_upto_region 3 with fail
  refine wp_region_held_drew (S := fun W => Below w1.heap.size w1 W ∧ W.cell? ⟨w.heap.size, 1, none⟩ = some (.string x1) ∧ W.cell? ⟨w.heap.size, 2, none⟩ = some (.int .i64 x2) ∧ W.cell? ⟨w.heap.size, 3, none⟩ = some (.bool x3) ∧ W.cell? ⟨w.heap.size, 4, none⟩ = some (.int .i64 x4)) (by kernel_rfl) (KS.out _ b2.drew) (fun hHeld => ?_)
  refine wpAnyH_take (i := 0) (oi := { dst := some 6, op := Op.fieldAddr 51 (Operand.tmp 1) 1, type := 0, pos := "l8_space.go:136", after := _, guard := none }) (v := ?_) rfl (by kernel_rfl) (by kernel_rfl) (by kernel_rfl) (fun _ _ _ h => h) (Or.inl ⟨by rfl, ?_⟩) (by assumption) ?_
  rotate_left
  · (intro w hSw; (try dsimp only at hSw); go_simp; (try with_reducible rfl))
  simp only [Act.put, List.setIfInBounds_toArray, List.set_cons_zero, List.set_cons_succ]
  refine wpAnyH_take (i := 1) (oi := { dst := some 7, op := Op.load 9 (Operand.tmp 6), type := 9, pos := "l8_space.go:136", after := _, guard := none }) (v := ?_) rfl (by kernel_rfl) (by kernel_rfl) (by kernel_rfl) (fun _ _ _ h => h) (Or.inl ⟨by rfl, ?_⟩) (by assumption) ?_
  rotate_left
  · (intro w hSw; (try dsimp only at hSw); go_simp; (try with_reducible rfl))
  simp only [Act.put, List.setIfInBounds_toArray, List.set_cons_zero, List.set_cons_succ]
  refine wpAnyH_take (i := 4) (oi := { dst := some 10, op := Op.fieldAddr 51 (Operand.tmp 1) 2, type := 0, pos := "l8_space.go:136", after := _, guard := none }) (v := ?_) rfl (by kernel_rfl) (by kernel_rfl) (by kernel_rfl) (fun _ _ _ h => h) (Or.inl ⟨by rfl, ?_⟩) (by assumption) ?_
  rotate_left
  · (intro w hSw; (try dsimp only at hSw); go_simp; (try with_reducible rfl))
  simp only [Act.put, List.setIfInBounds_toArray, List.set_cons_zero, List.set_cons_succ]
  refine wpAnyH_take (i := 5) (oi := { dst := some 11, op := Op.load 3 (Operand.tmp 10), type := 3, pos := "l8_space.go:136", after := _, guard := none }) (v := ?_) rfl (by kernel_rfl) (by kernel_rfl) (by kernel_rfl) (fun _ _ _ h => h) (Or.inl ⟨by rfl, ?_⟩) (by assumption) ?_
  rotate_left
  · (intro w hSw; (try dsimp only at hSw); go_simp; (try with_reducible rfl))
  simp only [Act.put, List.setIfInBounds_toArray, List.set_cons_zero, List.set_cons_succ]
  refine wpAnyH_take (i := 9) (oi := { dst := some 15, op := Op.fieldAddr 51 (Operand.tmp 1) 3, type := 0, pos := "l8_space.go:136", after := _, guard := none }) (v := ?_) rfl (by kernel_rfl) (by kernel_rfl) (by kernel_rfl) (fun _ _ _ h => h) (Or.inl ⟨by rfl, ?_⟩) (by assumption) ?_
  rotate_left
  · (intro w hSw; (try dsimp only at hSw); go_simp; (try with_reducible rfl))
  simp only [Act.put, List.setIfInBounds_toArray, List.set_cons_zero, List.set_cons_succ]
  refine wpAnyH_take (i := 10) (oi := { dst := some 16, op := Op.load 4 (Operand.tmp 15), type := 4, pos := "l8_space.go:136", after := _, guard := none }) (v := ?_) rfl (by kernel_rfl) (by kernel_rfl) (by kernel_rfl) (fun _ _ _ h => h) (Or.inl ⟨by rfl, ?_⟩) (by assumption) ?_
  rotate_left
  · (intro w hSw; (try dsimp only at hSw); go_simp; (try with_reducible rfl))
  simp only [Act.put, List.setIfInBounds_toArray, List.set_cons_zero, List.set_cons_succ]
  refine wpAnyH_take (i := 14) (oi := { dst := some 20, op := Op.fieldAddr 51 (Operand.tmp 1) 4, type := 0, pos := "l8_space.go:136", after := _, guard := none }) (v := ?_) rfl (by kernel_rfl) (by kernel_rfl) (by kernel_rfl) (fun _ _ _ h => h) (Or.inl ⟨by rfl, ?_⟩) (by assumption) ?_
  rotate_left
  · (intro w hSw; (try dsimp only at hSw); go_simp; (try with_reducible rfl))
  simp only [Act.put, List.setIfInBounds_toArray, List.set_cons_zero, List.set_cons_succ]
  refine wpAnyH_take (i := 15) (oi := { dst := some 21, op := Op.load 3 (Operand.tmp 20), type := 3, pos := "l8_space.go:136", after := _, guard := none }) (v := ?_) rfl (by kernel_rfl) (by kernel_rfl) (by kernel_rfl) (fun _ _ _ h => h) (Or.inl ⟨by rfl, ?_⟩) (by assumption) ?_
  rotate_left
  · (intro w hSw; (try dsimp only at hSw); go_simp; (try with_reducible rfl))
  simp only [Act.put, List.setIfInBounds_toArray, List.set_cons_zero, List.set_cons_succ]
  refine wpAnyH_ready (rs := [2]) (by kernel_rfl) (by simp) ?_
  refine AllReadyH.cons (o := { dst := some 8, op := Op.call { callee := Callee.value (Operand.func 41), args := #[Operand.tmp 7], argTypes := #[9] }, type := 9, pos := "l8_space.go:136", after := _, guard := none }) rfl (fun K hK => ?_) AllReadyH.nil
  go_simp
  refine (HWD.out _).mono ?_
  rintro e w3 ⟨rfl, b3⟩
  have B3 : Below w1.heap.size w1 w3 := hHeld.1.trans (b3.mono hHeld.1.size)
  (try dsimp only)
  refine hK.out _ _ ?_ (fun hHeld => ?_)
  · exact KS.out _ B3
  clear hK K
  (try simp only [Act.put, List.setIfInBounds_toArray, List.set_cons_zero, List.set_cons_succ])
  refine wpAnyH_take (i := 3) (oi := { dst := some 9, op := Op.binOp BinOp.add 9 (Operand.tmp 8) (Operand.const (Value.string { data := #[32] })) 9, type := 9, pos := "l8_space.go:136", after := _, guard := none }) (v := ?_) rfl (by kernel_rfl) (by kernel_rfl) (by kernel_rfl) (fun _ _ _ h => h) (Or.inl ⟨by rfl, ?_⟩) (by assumption) ?_
  rotate_left
  · (intro w hSw; (try dsimp only at hSw); go_simp; (try with_reducible rfl))
  simp only [Act.put, List.setIfInBounds_toArray, List.set_cons_zero, List.set_cons_succ]
  refine wpAnyH_ready (rs := [6]) (by kernel_rfl) (by simp) ?_
  refine AllReadyH.cons (o := { dst := some 12, op := Op.call { callee := Callee.value (Operand.func 30), args := #[Operand.tmp 11], argTypes := #[3] }, type := 9, pos := "l8_space.go:136", after := _, guard := none }) rfl (fun K hK => ?_) AllReadyH.nil
  go_simp
  refine (HD1.out _ hHeld.1).mono ?_
  rintro e w3 ⟨rfl, b3⟩
  have B3 : Below w1.heap.size w1 w3 := hHeld.1.trans (b3.mono hHeld.1.size)
  (try dsimp only)
  refine hK.out _ _ ?_ (fun hHeld => ?_)
  · exact KS.out _ B3
  clear hK K
  (try simp only [Act.put, List.setIfInBounds_toArray, List.set_cons_zero, List.set_cons_succ])
  refine wpAnyH_take (i := 7) (oi := { dst := some 13, op := Op.binOp BinOp.add 9 (Operand.tmp 9) (Operand.tmp 12) 9, type := 9, pos := "l8_space.go:136", after := _, guard := none }) (v := ?_) rfl (by kernel_rfl) (by kernel_rfl) (by kernel_rfl) (fun _ _ _ h => h) (Or.inl ⟨by rfl, ?_⟩) (by assumption) ?_
  rotate_left
  · (intro w hSw; (try dsimp only at hSw); go_simp; (try with_reducible rfl))
  simp only [Act.put, List.setIfInBounds_toArray, List.set_cons_zero, List.set_cons_succ]
  refine wpAnyH_take (i := 8) (oi := { dst := some 14, op := Op.binOp BinOp.add 9 (Operand.tmp 13) (Operand.const (Value.string { data := #[32] })) 9, type := 9, pos := "l8_space.go:136", after := _, guard := none }) (v := ?_) rfl (by kernel_rfl) (by kernel_rfl) (by kernel_rfl) (fun _ _ _ h => h) (Or.inl ⟨by rfl, ?_⟩) (by assumption) ?_
  rotate_left
  · (intro w hSw; (try dsimp only at hSw); go_simp; (try with_reducible rfl))
  simp only [Act.put, List.setIfInBounds_toArray, List.set_cons_zero, List.set_cons_succ]
  refine wpAnyH_ready (rs := [11]) (by kernel_rfl) (by simp) ?_
  refine AllReadyH.cons (o := { dst := some 17, op := Op.call { callee := Callee.value (Operand.func 75), args := #[Operand.tmp 16], argTypes := #[4] }, type := 9, pos := "l8_space.go:136", after := _, guard := none }) rfl (fun K hK => ?_) AllReadyH.nil
  go_simp
  refine (HFL.out _).mono ?_
  rintro e w3 ⟨rfl, b3⟩
  have B3 : Below w1.heap.size w1 w3 := hHeld.1.trans (b3.mono hHeld.1.size)
  (try dsimp only)
  refine hK.out _ _ ?_ (fun hHeld => ?_)
  · exact KS.out _ B3
  clear hK K
  (try simp only [Act.put, List.setIfInBounds_toArray, List.set_cons_zero, List.set_cons_succ])
  refine wpAnyH_take (i := 12) (oi := { dst := some 18, op := Op.binOp BinOp.add 9 (Operand.tmp 14) (Operand.tmp 17) 9, type := 9, pos := "l8_space.go:136", after := _, guard := none }) (v := ?_) rfl (by kernel_rfl) (by kernel_rfl) (by kernel_rfl) (fun _ _ _ h => h) (Or.inl ⟨by rfl, ?_⟩) (by assumption) ?_
  rotate_left
  · (intro w hSw; (try dsimp only at hSw); go_simp; (try with_reducible rfl))
  simp only [Act.put, List.setIfInBounds_toArray, List.set_cons_zero, List.set_cons_succ]
  refine wpAnyH_take (i := 13) (oi := { dst := some 19, op := Op.binOp BinOp.add 9 (Operand.tmp 18) (Operand.const (Value.string { data := #[32] })) 9, type := 9, pos := "l8_space.go:136", after := _, guard := none }) (v := ?_) rfl (by kernel_rfl) (by kernel_rfl) (by kernel_rfl) (fun _ _ _ h => h) (Or.inl ⟨by rfl, ?_⟩) (by assumption) ?_
  rotate_left
  · (intro w hSw; (try dsimp only at hSw); go_simp; (try with_reducible rfl))
  simp only [Act.put, List.setIfInBounds_toArray, List.set_cons_zero, List.set_cons_succ]
  refine wpAnyH_ready (rs := [16]) (by kernel_rfl) (by simp) ?_
  refine AllReadyH.cons (o := { dst := some 22, op := Op.call { callee := Callee.value (Operand.func 30), args := #[Operand.tmp 21], argTypes := #[3] }, type := 9, pos := "l8_space.go:136", after := _, guard := none }) rfl (fun K hK => ?_) AllReadyH.nil
  go_simp
  refine (HD2.out _ hHeld.1).mono ?_
  rintro e w3 ⟨rfl, b3⟩
  have B3 : Below w1.heap.size w1 w3 := hHeld.1.trans (b3.mono hHeld.1.size)
  (try dsimp only)
  refine hK.out _ _ ?_ (fun hHeld => ?_)
  · exact KS.out _ B3
  clear hK K
  (try simp only [Act.put, List.setIfInBounds_toArray, List.set_cons_zero, List.set_cons_succ])
  refine wpAnyH_take (i := 17) (oi := { dst := some 23, op := Op.binOp BinOp.add 9 (Operand.tmp 19) (Operand.tmp 22) 9, type := 9, pos := "l8_space.go:136", after := _, guard := none }) (v := ?_) rfl (by kernel_rfl) (by kernel_rfl) (by kernel_rfl) (fun _ _ _ h => h) (Or.inl ⟨by rfl, ?_⟩) (by assumption) ?_
  rotate_left
  · (intro w hSw; (try dsimp only at hSw); go_simp; (try with_reducible rfl))
  simp only [Act.put, List.setIfInBounds_toArray, List.set_cons_zero, List.set_cons_succ]
  refine wpAnyH_take (i := 18) (oi := { dst := some 2, op := Op.assign (Operand.tmp 23), type := 9, pos := "l8_space.go:136", after := _, guard := none }) (v := ?_) rfl (by kernel_rfl) (by kernel_rfl) (by kernel_rfl) (fun _ _ _ h => h) (Or.inl ⟨by rfl, ?_⟩) (by assumption) ?_
  rotate_left
  · (intro w hSw; (try dsimp only at hSw); go_simp; (try with_reducible rfl))
  simp only [Act.put, List.setIfInBounds_toArray, List.set_cons_zero, List.set_cons_succ]
  refine wpAnyH_done (by kernel_rfl) ?_ _
  go_wp2
  go_ret
  exact ⟨ret_str (by rw [HN.out]), HF.out _ hHeld.1⟩
end Go.Proofs.YtbioljpjpflboaaGreatDoor

/- ThingWrite, of the model and of the program. -/
namespace Go.Proofs.YtbioljpjpflboaaGreatDoor
open Go Go.RowKit

/-- marks as they are written -/
def joR : List ByteArray → ByteArray
  | [] => ⟨#[]⟩
  | [a] => a
  | [a, b] => a ++ ⟨#[44]⟩ ++ b
  | _ => ⟨#[]⟩
def joW (l : List ByteArray) : ByteArray := if l = [] then ⟨#[45]⟩ else joR l
theorem joR_size {l : List ByteArray} (hs : ∀ s ∈ l, s.size ≤ 6) : (joR l).size ≤ 13 := by
  match l, hs with
  | [], _ => decide
  | [a], hs => have := hs a (by simp); show a.size ≤ 13; omega
  | [a, b], hs =>
    have h1 := hs a (by simp)
    have h2 := hs b (by simp)
    show (a ++ ⟨#[44]⟩ ++ b : ByteArray).size ≤ 13
    rw [ByteArray.size_append, ByteArray.size_append]
    show a.size + 1 + b.size ≤ 13
    omega
  | _ :: _ :: _ :: _, _ =>
    show (⟨#[]⟩ : ByteArray).size ≤ 13
    decide
theorem joW_size {l : List ByteArray} (hs : ∀ s ∈ l, s.size ≤ 6) : (joW l).size ≤ 13 := by
  unfold joW
  split
  · decide
  · exact joR_size hs
theorem wordB_joR {l : List ByteArray} (h2 : l.length ≤ 2) (h1 : ∀ s ∈ l, 1 ≤ s.size) : wordB (joR l) = joW l := by
  unfold wordB joW
  match l, h2, h1 with
  | [], _, _ => simp [joR]
  | [a], _, h1 =>
    have := h1 a (by simp)
    rw [if_neg (by intro e; have e2 : a = ⟨#[]⟩ := e; rw [e2] at this; exact absurd this (by decide)), if_neg (by simp)]
  | [a, b], _, h1 =>
    have := h1 a (by simp)
    rw [if_neg (by
      intro e
      have e2 : (a ++ ⟨#[44]⟩ ++ b : ByteArray).size = 0 := by
        have e3 : (a ++ ⟨#[44]⟩ ++ b : ByteArray) = ⟨#[]⟩ := e
        rw [e3]; rfl
      rw [ByteArray.size_append, ByteArray.size_append] at e2
      omega), if_neg (by simp)]
  | _ :: _ :: _ :: _, h2, _ => simp at h2
/-- the text of a thing -/
def twL (t : ThingD) : ByteArray := decI t.uid ++ ⟨#[32]⟩ ++ decI t.rev ++ ⟨#[32]⟩ ++ flagB t.gone ++ ⟨#[32]⟩ ++ joW t.marks ++ ⟨#[32]⟩ ++ t.body
def twB (t : ThingD) : ByteArray := if thingB t then twL t else ⟨#[]⟩
theorem nameB_sizes {x : ByteArray} (h : nameB x.data.toList = true) : 1 ≤ x.size ∧ x.size ≤ 6 := by
  unfold nameB at h
  rw [Bool.and_eq_true] at h
  have h2 := of_decide_eq_true h.2
  simpa using h2
theorem thing_nums {t : ThingD} (h : thingB t = true) : (1 ≤ t.uid ∧ t.uid ≤ 99999) ∧ (1 ≤ t.rev ∧ t.rev ≤ 99999) ∧ t.marks.length ≤ 2 ∧ (∀ s ∈ t.marks, 1 ≤ s.size ∧ s.size ≤ 6) ∧ t.body.size ≤ 40 := by
  unfold thingB at h
  simp only [Bool.and_eq_true] at h
  obtain ⟨-, -, h1, h2, h3, h4, -⟩ := h
  unfold marksB at h3
  simp only [Bool.and_eq_true] at h3
  obtain ⟨h5, -, h6⟩ := h3
  unfold bodyB1 at h4
  simp only [Bool.and_eq_true] at h4
  refine ⟨of_decide_eq_true h1, of_decide_eq_true h2, of_decide_eq_true h5, fun s hs => ?_, of_decide_eq_true h4.1⟩
  unfold allNames at h6
  rw [List.take_length, List.all_eq_true] at h6
  exact nameB_sizes (h6 s hs)
set_option maxRecDepth 100000 in
set_option maxHeartbeats 2000000 in
theorem l7Join_any (a : Option Addr) (c : Nat) (l : List ByteArray) (w : World) (hl : StrS w a l) (h2 : l.length ≤ 2) (hs : ∀ s ∈ l, s.size ≤ 6) :
    Calls Tryz.prog 62 #[.slice a l.length c] w fun e w' => e = .returned (.string (joW l)) ∧ Below w.heap.size w w' := by
  obtain ⟨-, -, hl⟩ := hl
  match l, h2, hl, hs with
  | [], _, _, _ =>
    have H := Lib.hid (show joW [] = ⟨#[45]⟩ from rfl)
    go_enter Tryz.func62, Tryz.ntmps62
    go_wp2
    go_ret
    exact ⟨ret_str H.out.symm, (by repeat (first | exact Below.refl _ _ | (refine Below.alloc ?_ (by first | (simp; done) | (simp; omega)) _) | (refine Below.setCell ?_ (by first | (simp; done) | (simp; omega)) _) | (refine Below.drew ?_)))⟩
  | [m0], _, hl, hs =>
    obtain ⟨b, o, rfl, hc⟩ := hl.resolve_left (by simp)
    have c0 : w.cell? ⟨b, o, none⟩ = some (.string m0) := hc 0 (by simp)
    have s0 := hs m0 (by simp)
    have H := Lib.hid (show joW [m0] = m0 by simp [joW, joR])
    clear hc hs hl
    go_enter Tryz.func62, Tryz.ntmps62
    go_wp2
    refine wp_loop_rounds 2 ?_
    rw [rounds_succ]
    go_wp2
    rw [rounds_succ]
    go_wp2
    go_ret
    exact ⟨ret_str (by rw [H.out]; exact bytes_ext (by simp)), (by repeat (first | exact Below.refl _ _ | (refine Below.alloc ?_ (by first | (simp; done) | (simp; omega)) _) | (refine Below.setCell ?_ (by first | (simp; done) | (simp; omega)) _) | (refine Below.drew ?_)))⟩
  | [m0, m1], _, hl, hs =>
    obtain ⟨b, o, rfl, hc⟩ := hl.resolve_left (by simp)
    have c0 : w.cell? ⟨b, o, none⟩ = some (.string m0) := hc 0 (by simp)
    have c1 : w.cell? ⟨b, o + 1, none⟩ = some (.string m1) := hc 1 (by simp)
    have s0 := hs m0 (by simp)
    have s1 := hs m1 (by simp)
    have f1 : ¬ 9223372036854775807 < m0.size + 1 := by omega
    have f2 : ¬ 9223372036854775807 < m0.size + 1 + m1.size := by omega
    have H := Lib.hid (show joW [m0, m1] = m0 ++ ⟨#[44]⟩ ++ m1 by simp [joW, joR])
    clear hc hs hl
    go_enter Tryz.func62, Tryz.ntmps62
    go_wp2
    refine wp_loop_rounds 3 ?_
    rw [rounds_succ]
    go_wp2
    rw [rounds_succ]
    go_wp2
    rw [rounds_succ]
    go_wp2
    go_ret
    exact ⟨ret_str (by rw [H.out]; exact bytes_ext (by simp)), (by repeat (first | exact Below.refl _ _ | (refine Below.alloc ?_ (by first | (simp; done) | (simp; omega)) _) | (refine Below.setCell ?_ (by first | (simp; done) | (simp; omega)) _) | (refine Below.drew ?_)))⟩
  | _ :: _ :: _ :: _, h2, _, _ => simp at h2
theorem joinI_any (a : Option Addr) (c : Nat) (l : List ByteArray) (w : World) (hl : StrS w a l) (h2 : l.length ≤ 2) (hs : ∀ s ∈ l, s.size ≤ 6) (hcap : l.length ≤ c) :
    Calls Tryz.prog 77 #[.slice a l.length c, .string ⟨#[44]⟩] w fun e w' => e = .returned (.string (joR l)) ∧ Below w.heap.size w w' := by
  obtain ⟨-, -, hl⟩ := hl
  match l, h2, hl, hs, hcap with
  | [], _, _, _, _ =>
    refine (Tryz.strings_Join_none a c _ w).mono ?_
    rintro e w' ⟨rfl, rfl⟩
    exact ⟨rfl, Below.refl _ _⟩
  | m0 :: r, h2, hl, hs, hcap =>
    obtain ⟨b, o, rfl, hc⟩ := hl.resolve_left (by simp)
    have h0 := hc 0 (by simp)
    have hbk : b < w.heap.size := by have := World.block_lt_of_cell? w _ h0; simpa using this
    have hj : joR (m0 :: r) = ⟨(Lib.join ((m0 :: r).map (·.data.toList)) (⟨#[44]⟩ : ByteArray).data.toList).toArray⟩ := by
      match r, h2 with
      | [], _ =>
        apply bytes_ext
        simp [joR, Lib.join_one]
      | [m1], _ =>
        apply bytes_ext
        simp [joR, Lib.join_cons, Lib.joinTail]
      | _ :: _ :: _, h2 => simp at h2
    have hz := joR_size hs
    rw [hj] at hz
    have hz2 : (Lib.join ((m0 :: r).map (·.data.toList)) (⟨#[44]⟩ : ByteArray).data.toList).length ≤ 13 := by
      have : ((Lib.join ((m0 :: r).map (·.data.toList)) (⟨#[44]⟩ : ByteArray).data.toList).toArray).size ≤ 13 := hz
      simpa using this
    refine (Tryz.strings_Join b o c (m0 :: r) ⟨#[44]⟩ w (fun j x hx => ?_) hbk (by omega) hcap (by omega)).mono ?_
    · obtain ⟨hj2, rfl⟩ := List.getElem?_eq_some_iff.1 hx
      exact hc j hj2
    rintro e w' ⟨rfl, hb⟩
    exact ⟨by rw [hj], hb⟩
set_option maxRecDepth 100000 in
set_option maxHeartbeats 4000000 in
theorem specThW_any (a : Option Addr) (c : Nat) (t : ThingD) (w : World) (hm : StrS w a t.marks) (hk : OkThing t) (hlen : t.marks.length ≤ 1048576) :
    Calls Tryz.prog 23 #[thingV a c t] w fun e w' => e = .returned (.string (twB t)) ∧ Below w.heap.size w w' := by
  have HX := Lib.hid hm
  clear hm
  obtain ⟨sp, nm, uid, rev, gone, marks, body⟩ := t
  simp only at HX hlen
  unfold thingV
  dsimp only
  obtain ⟨w1, hA⟩ : ∃ wA, w.alloc (.cells #[.string sp, .string nm, .int .i64 uid, .int .i64 rev, .bool gone, .slice a marks.length c, .string body] 57) = wA := ⟨_, rfl⟩
  have BX := Lib.hid (show Box w1 w.heap.size [.string sp, .string nm, .int .i64 uid, .int .i64 rev, .bool gone, .slice a marks.length c, .string body] by rw [← hA]; exact Box.alloc w _ _)
  have B1 := Lib.hid (show Below w.heap.size w w1 by rw [← hA]; exact below_alloc _ _)
  have HF := Lib.hid (show ∀ W, Below w1.heap.size w1 W → Below w.heap.size w W from fun W hb => B1.out.trans (hb.mono B1.out.size))
  have KS := Lib.hid (show ∀ W, Below w1.heap.size w1 W → Below w1.heap.size w1 W ∧ W.cell? ⟨w.heap.size, 2, none⟩ = some (.int .i64 uid) ∧ W.cell? ⟨w.heap.size, 3, none⟩ = some (.int .i64 rev) ∧ W.cell? ⟨w.heap.size, 4, none⟩ = some (.bool gone) ∧ W.cell? ⟨w.heap.size, 5, none⟩ = some (.slice a marks.length c) ∧ W.cell? ⟨w.heap.size, 6, none⟩ = some (.string body) from fun W hb => by
    have h := BX.out.below hb
    exact ⟨hb, (h 2 _ rfl).1, (h 3 _ rfl).1, (h 4 _ rfl).1, (h 5 _ rfl).1, (h 6 _ rfl).1⟩)
  have HA := Lib.hid hA
  clear hA
  cases hok : thingB ⟨sp, nm, uid, rev, gone, marks, body⟩ with
  | false =>
    have HN := Lib.hid (show twB ⟨sp, nm, uid, rev, gone, marks, body⟩ = ⟨#[]⟩ by simp [twB, hok])
    have HK := Lib.hid hok
    clear hok
    go_enter Tryz.func23, Tryz.ntmps23
    go_wp2_with fail
    rw [HA.out]
    refine (specThing_any a c ⟨sp, nm, uid, rev, gone, marks, body⟩ _ (HX.out.below B1.out) hk hlen).mono ?_
    rintro e w2 ⟨rfl, b2⟩
    rw [HK.out]
    go_wp2
    go_ret
    exact ⟨ret_str HN.out.symm, HF.out _ b2⟩
  | true =>
  obtain ⟨⟨hu0, hu1⟩, ⟨hr0, hr1⟩, hm2, hms, hbo⟩ := thing_nums hok
  have HN := Lib.hid (show twB ⟨sp, nm, uid, rev, gone, marks, body⟩ = decI uid ++ ⟨#[32]⟩ ++ decI rev ++ ⟨#[32]⟩ ++ flagB gone ++ ⟨#[32]⟩ ++ joW marks ++ ⟨#[32]⟩ ++ body by simp [twB, hok, twL])
  have HK := Lib.hid hok
  simp only at hu0 hu1 hr0 hr1 hm2 hms hbo
  have hms6 : ∀ s ∈ marks, s.size ≤ 6 := fun s hs => (hms s hs).2
  have z1 := decI_size (n := uid) (by omega) (by omega)
  have z2 := decI_size (n := rev) (by omega) (by omega)
  have z3 := flagB_size gone
  have z4 := joW_size hms6
  have HD1 := Lib.hid (fun W => decS_any (n := uid) (by omega) (by omega) W)
  have HD2 := Lib.hid (fun W => decS_any (n := rev) (by omega) (by omega) W)
  have HFL := Lib.hid (fun W => flagS_any gone W)
  have HJ := Lib.hid (fun W (hb : Below w1.heap.size w1 W) => l7Join_any a c marks W (HX.out.below (HF.out W hb)) hm2 hms6)
  generalize decI uid = d1 at HN z1 HD1
  generalize decI rev = d2 at HN z2 HD2
  generalize flagB gone = d3 at HN z3 HFL
  generalize joW marks = d4 at HN z4 HJ
  clear hok hu0 hu1 hr0 hr1 hms hms6
  have f0 : ¬ 9223372036854775807 < d1.size + 1 := by omega
  have f1 : ¬ 9223372036854775807 < d1.size + 1 + d2.size := by omega
  have f2 : ¬ 9223372036854775807 < d1.size + 1 + d2.size + 1 := by omega
  have f3 : ¬ 9223372036854775807 < d1.size + 1 + d2.size + 1 + d3.size := by omega
  have f4 : ¬ 9223372036854775807 < d1.size + 1 + d2.size + 1 + d3.size + 1 := by omega
  have f5 : ¬ 9223372036854775807 < d1.size + 1 + d2.size + 1 + d3.size + 1 + d4.size := by omega
  have f6 : ¬ 9223372036854775807 < d1.size + 1 + d2.size + 1 + d3.size + 1 + d4.size + 1 := by omega
  have f7 : ¬ 9223372036854775807 < d1.size + 1 + d2.size + 1 + d3.size + 1 + d4.size + 1 + body.size := by omega
  go_enter Tryz.func23, Tryz.ntmps23
  go_wp2_with fail
  rw [HA.out]
  refine (specThing_any a c ⟨sp, nm, uid, rev, gone, marks, body⟩ _ (HX.out.below B1.out) hk hlen).mono ?_
  rintro e w2 ⟨rfl, b2⟩
  rw [HK.out]
  go_upto_region 3 with fail
  refine wp_region_held_drew (S := fun W => Below w1.heap.size w1 W ∧ W.cell? ⟨w.heap.size, 2, none⟩ = some (.int .i64 uid) ∧ W.cell? ⟨w.heap.size, 3, none⟩ = some (.int .i64 rev) ∧ W.cell? ⟨w.heap.size, 4, none⟩ = some (.bool gone) ∧ W.cell? ⟨w.heap.size, 5, none⟩ = some (.slice a marks.length c) ∧ W.cell? ⟨w.heap.size, 6, none⟩ = some (.string body)) (by kernel_rfl) (KS.out _ b2.drew) (fun hHeld => ?_)
  refine wpAnyH_take (i := 0) (oi := { dst := some 6, op := Op.fieldAddr 57 (Operand.tmp 1) 2, type := 0, pos := "l7_thing.go:77", after := _, guard := none }) (v := ?_) rfl (by kernel_rfl) (by kernel_rfl) (by kernel_rfl) (fun _ _ _ h => h) (Or.inl ⟨by rfl, ?_⟩) (by assumption) ?_
  rotate_left
  · (intro w hSw; (try dsimp only at hSw); go_simp; (try with_reducible rfl))
  simp only [Act.put, List.setIfInBounds_toArray, List.set_cons_zero, List.set_cons_succ]
  refine wpAnyH_take (i := 1) (oi := { dst := some 7, op := Op.load 3 (Operand.tmp 6), type := 3, pos := "l7_thing.go:77", after := _, guard := none }) (v := ?_) rfl (by kernel_rfl) (by kernel_rfl) (by kernel_rfl) (fun _ _ _ h => h) (Or.inl ⟨by rfl, ?_⟩) (by assumption) ?_
  rotate_left
  · (intro w hSw; (try dsimp only at hSw); go_simp; (try with_reducible rfl))
  simp only [Act.put, List.setIfInBounds_toArray, List.set_cons_zero, List.set_cons_succ]
  refine wpAnyH_take (i := 4) (oi := { dst := some 10, op := Op.fieldAddr 57 (Operand.tmp 1) 3, type := 0, pos := "l7_thing.go:77", after := _, guard := none }) (v := ?_) rfl (by kernel_rfl) (by kernel_rfl) (by kernel_rfl) (fun _ _ _ h => h) (Or.inl ⟨by rfl, ?_⟩) (by assumption) ?_
  rotate_left
  · (intro w hSw; (try dsimp only at hSw); go_simp; (try with_reducible rfl))
  simp only [Act.put, List.setIfInBounds_toArray, List.set_cons_zero, List.set_cons_succ]
  refine wpAnyH_take (i := 5) (oi := { dst := some 11, op := Op.load 3 (Operand.tmp 10), type := 3, pos := "l7_thing.go:77", after := _, guard := none }) (v := ?_) rfl (by kernel_rfl) (by kernel_rfl) (by kernel_rfl) (fun _ _ _ h => h) (Or.inl ⟨by rfl, ?_⟩) (by assumption) ?_
  rotate_left
  · (intro w hSw; (try dsimp only at hSw); go_simp; (try with_reducible rfl))
  simp only [Act.put, List.setIfInBounds_toArray, List.set_cons_zero, List.set_cons_succ]
  refine wpAnyH_take (i := 9) (oi := { dst := some 15, op := Op.fieldAddr 57 (Operand.tmp 1) 4, type := 0, pos := "l7_thing.go:77", after := _, guard := none }) (v := ?_) rfl (by kernel_rfl) (by kernel_rfl) (by kernel_rfl) (fun _ _ _ h => h) (Or.inl ⟨by rfl, ?_⟩) (by assumption) ?_
  rotate_left
  · (intro w hSw; (try dsimp only at hSw); go_simp; (try with_reducible rfl))
  simp only [Act.put, List.setIfInBounds_toArray, List.set_cons_zero, List.set_cons_succ]
  refine wpAnyH_take (i := 10) (oi := { dst := some 16, op := Op.load 4 (Operand.tmp 15), type := 4, pos := "l7_thing.go:77", after := _, guard := none }) (v := ?_) rfl (by kernel_rfl) (by kernel_rfl) (by kernel_rfl) (fun _ _ _ h => h) (Or.inl ⟨by rfl, ?_⟩) (by assumption) ?_
  rotate_left
  · (intro w hSw; (try dsimp only at hSw); go_simp; (try with_reducible rfl))
  simp only [Act.put, List.setIfInBounds_toArray, List.set_cons_zero, List.set_cons_succ]
  refine wpAnyH_take (i := 14) (oi := { dst := some 20, op := Op.fieldAddr 57 (Operand.tmp 1) 5, type := 0, pos := "l7_thing.go:77", after := _, guard := none }) (v := ?_) rfl (by kernel_rfl) (by kernel_rfl) (by kernel_rfl) (fun _ _ _ h => h) (Or.inl ⟨by rfl, ?_⟩) (by assumption) ?_
  rotate_left
  · (intro w hSw; (try dsimp only at hSw); go_simp; (try with_reducible rfl))
  simp only [Act.put, List.setIfInBounds_toArray, List.set_cons_zero, List.set_cons_succ]
  refine wpAnyH_take (i := 15) (oi := { dst := some 21, op := Op.load 55 (Operand.tmp 20), type := 55, pos := "l7_thing.go:77", after := _, guard := none }) (v := ?_) rfl (by kernel_rfl) (by kernel_rfl) (by kernel_rfl) (fun _ _ _ h => h) (Or.inl ⟨by rfl, ?_⟩) (by assumption) ?_
  rotate_left
  · (intro w hSw; (try dsimp only at hSw); go_simp; (try with_reducible rfl))
  simp only [Act.put, List.setIfInBounds_toArray, List.set_cons_zero, List.set_cons_succ]
  refine wpAnyH_take (i := 19) (oi := { dst := some 25, op := Op.fieldAddr 57 (Operand.tmp 1) 6, type := 0, pos := "l7_thing.go:77", after := _, guard := none }) (v := ?_) rfl (by kernel_rfl) (by kernel_rfl) (by kernel_rfl) (fun _ _ _ h => h) (Or.inl ⟨by rfl, ?_⟩) (by assumption) ?_
  rotate_left
  · (intro w hSw; (try dsimp only at hSw); go_simp; (try with_reducible rfl))
  simp only [Act.put, List.setIfInBounds_toArray, List.set_cons_zero, List.set_cons_succ]
  refine wpAnyH_take (i := 20) (oi := { dst := some 26, op := Op.load 9 (Operand.tmp 25), type := 9, pos := "l7_thing.go:77", after := _, guard := none }) (v := ?_) rfl (by kernel_rfl) (by kernel_rfl) (by kernel_rfl) (fun _ _ _ h => h) (Or.inl ⟨by rfl, ?_⟩) (by assumption) ?_
  rotate_left
  · (intro w hSw; (try dsimp only at hSw); go_simp; (try with_reducible rfl))
  simp only [Act.put, List.setIfInBounds_toArray, List.set_cons_zero, List.set_cons_succ]
  refine wpAnyH_ready (rs := [2]) (by kernel_rfl) (by simp) ?_
  refine AllReadyH.cons (o := { dst := some 8, op := Op.call { callee := Callee.value (Operand.func 21), args := #[Operand.tmp 7], argTypes := #[3] }, type := 9, pos := "l7_thing.go:77", after := _, guard := none }) rfl (fun K hK => ?_) AllReadyH.nil
  go_simp
  refine (HD1.out _).mono ?_
  rintro e w3 ⟨rfl, b3⟩
  have B3 : Below w1.heap.size w1 w3 := hHeld.1.trans (b3.mono hHeld.1.size)
  (try dsimp only)
  refine hK.out _ _ ?_ (fun hHeld => ?_)
  · exact KS.out _ B3
  clear hK K
  (try simp only [Act.put, List.setIfInBounds_toArray, List.set_cons_zero, List.set_cons_succ])
  refine wpAnyH_take (i := 3) (oi := { dst := some 9, op := Op.binOp BinOp.add 9 (Operand.tmp 8) (Operand.const (Value.string { data := #[32] })) 9, type := 9, pos := "l7_thing.go:77", after := _, guard := none }) (v := ?_) rfl (by kernel_rfl) (by kernel_rfl) (by kernel_rfl) (fun _ _ _ h => h) (Or.inl ⟨by rfl, ?_⟩) (by assumption) ?_
  rotate_left
  · (intro w hSw; (try dsimp only at hSw); go_simp; (try with_reducible rfl))
  simp only [Act.put, List.setIfInBounds_toArray, List.set_cons_zero, List.set_cons_succ]
  refine wpAnyH_ready (rs := [6]) (by kernel_rfl) (by simp) ?_
  refine AllReadyH.cons (o := { dst := some 12, op := Op.call { callee := Callee.value (Operand.func 21), args := #[Operand.tmp 11], argTypes := #[3] }, type := 9, pos := "l7_thing.go:77", after := _, guard := none }) rfl (fun K hK => ?_) AllReadyH.nil
  go_simp
  refine (HD2.out _).mono ?_
  rintro e w3 ⟨rfl, b3⟩
  have B3 : Below w1.heap.size w1 w3 := hHeld.1.trans (b3.mono hHeld.1.size)
  (try dsimp only)
  refine hK.out _ _ ?_ (fun hHeld => ?_)
  · exact KS.out _ B3
  clear hK K
  (try simp only [Act.put, List.setIfInBounds_toArray, List.set_cons_zero, List.set_cons_succ])
  refine wpAnyH_take (i := 7) (oi := { dst := some 13, op := Op.binOp BinOp.add 9 (Operand.tmp 9) (Operand.tmp 12) 9, type := 9, pos := "l7_thing.go:77", after := _, guard := none }) (v := ?_) rfl (by kernel_rfl) (by kernel_rfl) (by kernel_rfl) (fun _ _ _ h => h) (Or.inl ⟨by rfl, ?_⟩) (by assumption) ?_
  rotate_left
  · (intro w hSw; (try dsimp only at hSw); go_simp; (try with_reducible rfl))
  simp only [Act.put, List.setIfInBounds_toArray, List.set_cons_zero, List.set_cons_succ]
  refine wpAnyH_take (i := 8) (oi := { dst := some 14, op := Op.binOp BinOp.add 9 (Operand.tmp 13) (Operand.const (Value.string { data := #[32] })) 9, type := 9, pos := "l7_thing.go:77", after := _, guard := none }) (v := ?_) rfl (by kernel_rfl) (by kernel_rfl) (by kernel_rfl) (fun _ _ _ h => h) (Or.inl ⟨by rfl, ?_⟩) (by assumption) ?_
  rotate_left
  · (intro w hSw; (try dsimp only at hSw); go_simp; (try with_reducible rfl))
  simp only [Act.put, List.setIfInBounds_toArray, List.set_cons_zero, List.set_cons_succ]
  refine wpAnyH_ready (rs := [11]) (by kernel_rfl) (by simp) ?_
  refine AllReadyH.cons (o := { dst := some 17, op := Op.call { callee := Callee.value (Operand.func 60), args := #[Operand.tmp 16], argTypes := #[4] }, type := 9, pos := "l7_thing.go:77", after := _, guard := none }) rfl (fun K hK => ?_) AllReadyH.nil
  go_simp
  refine (HFL.out _).mono ?_
  rintro e w3 ⟨rfl, b3⟩
  have B3 : Below w1.heap.size w1 w3 := hHeld.1.trans (b3.mono hHeld.1.size)
  (try dsimp only)
  refine hK.out _ _ ?_ (fun hHeld => ?_)
  · exact KS.out _ B3
  clear hK K
  (try simp only [Act.put, List.setIfInBounds_toArray, List.set_cons_zero, List.set_cons_succ])
  refine wpAnyH_take (i := 12) (oi := { dst := some 18, op := Op.binOp BinOp.add 9 (Operand.tmp 14) (Operand.tmp 17) 9, type := 9, pos := "l7_thing.go:77", after := _, guard := none }) (v := ?_) rfl (by kernel_rfl) (by kernel_rfl) (by kernel_rfl) (fun _ _ _ h => h) (Or.inl ⟨by rfl, ?_⟩) (by assumption) ?_
  rotate_left
  · (intro w hSw; (try dsimp only at hSw); go_simp; (try with_reducible rfl))
  simp only [Act.put, List.setIfInBounds_toArray, List.set_cons_zero, List.set_cons_succ]
  refine wpAnyH_take (i := 13) (oi := { dst := some 19, op := Op.binOp BinOp.add 9 (Operand.tmp 18) (Operand.const (Value.string { data := #[32] })) 9, type := 9, pos := "l7_thing.go:77", after := _, guard := none }) (v := ?_) rfl (by kernel_rfl) (by kernel_rfl) (by kernel_rfl) (fun _ _ _ h => h) (Or.inl ⟨by rfl, ?_⟩) (by assumption) ?_
  rotate_left
  · (intro w hSw; (try dsimp only at hSw); go_simp; (try with_reducible rfl))
  simp only [Act.put, List.setIfInBounds_toArray, List.set_cons_zero, List.set_cons_succ]
  refine wpAnyH_ready (rs := [16]) (by kernel_rfl) (by simp) ?_
  refine AllReadyH.cons (o := { dst := some 22, op := Op.call { callee := Callee.value (Operand.func 62), args := #[Operand.tmp 21], argTypes := #[55] }, type := 9, pos := "l7_thing.go:77", after := _, guard := none }) rfl (fun K hK => ?_) AllReadyH.nil
  go_simp
  refine (HJ.out _ hHeld.1).mono ?_
  rintro e w3 ⟨rfl, b3⟩
  have B3 : Below w1.heap.size w1 w3 := hHeld.1.trans (b3.mono hHeld.1.size)
  (try dsimp only)
  refine hK.out _ _ ?_ (fun hHeld => ?_)
  · exact KS.out _ B3
  clear hK K
  (try simp only [Act.put, List.setIfInBounds_toArray, List.set_cons_zero, List.set_cons_succ])
  refine wpAnyH_take (i := 17) (oi := { dst := some 23, op := Op.binOp BinOp.add 9 (Operand.tmp 19) (Operand.tmp 22) 9, type := 9, pos := "l7_thing.go:77", after := _, guard := none }) (v := ?_) rfl (by kernel_rfl) (by kernel_rfl) (by kernel_rfl) (fun _ _ _ h => h) (Or.inl ⟨by rfl, ?_⟩) (by assumption) ?_
  rotate_left
  · (intro w hSw; (try dsimp only at hSw); go_simp; (try with_reducible rfl))
  simp only [Act.put, List.setIfInBounds_toArray, List.set_cons_zero, List.set_cons_succ]
  refine wpAnyH_take (i := 18) (oi := { dst := some 24, op := Op.binOp BinOp.add 9 (Operand.tmp 23) (Operand.const (Value.string { data := #[32] })) 9, type := 9, pos := "l7_thing.go:77", after := _, guard := none }) (v := ?_) rfl (by kernel_rfl) (by kernel_rfl) (by kernel_rfl) (fun _ _ _ h => h) (Or.inl ⟨by rfl, ?_⟩) (by assumption) ?_
  rotate_left
  · (intro w hSw; (try dsimp only at hSw); go_simp; (try with_reducible rfl))
  simp only [Act.put, List.setIfInBounds_toArray, List.set_cons_zero, List.set_cons_succ]
  refine wpAnyH_take (i := 21) (oi := { dst := some 27, op := Op.binOp BinOp.add 9 (Operand.tmp 24) (Operand.tmp 26) 9, type := 9, pos := "l7_thing.go:77", after := _, guard := none }) (v := ?_) rfl (by kernel_rfl) (by kernel_rfl) (by kernel_rfl) (fun _ _ _ h => h) (Or.inl ⟨by rfl, ?_⟩) (by assumption) ?_
  rotate_left
  · (intro w hSw; (try dsimp only at hSw); go_simp; (try with_reducible rfl))
  simp only [Act.put, List.setIfInBounds_toArray, List.set_cons_zero, List.set_cons_succ]
  refine wpAnyH_take (i := 22) (oi := { dst := some 2, op := Op.assign (Operand.tmp 27), type := 9, pos := "l7_thing.go:77", after := _, guard := none }) (v := ?_) rfl (by kernel_rfl) (by kernel_rfl) (by kernel_rfl) (fun _ _ _ h => h) (Or.inl ⟨by rfl, ?_⟩) (by assumption) ?_
  rotate_left
  · (intro w hSw; (try dsimp only at hSw); go_simp; (try with_reducible rfl))
  simp only [Act.put, List.setIfInBounds_toArray, List.set_cons_zero, List.set_cons_succ]
  refine wpAnyH_done (by kernel_rfl) ?_ _
  go_wp2
  go_ret
  exact ⟨ret_str (by rw [HN.out]), HF.out _ hHeld.1⟩
set_option maxRecDepth 100000 in
set_option maxHeartbeats 4000000 in
theorem implThW_any (a : Option Addr) (c : Nat) (t : ThingD) (w : World) (hm : StrS w a t.marks) (hk : OkThing t) (hn : a = none → t.marks.length = 0 ∧ c = 0) (hcap : t.marks.length ≤ c) (htab : Lib.TabIs Tryz.prog w "internal/strconv.uint64pow10" .u64 Lib.pow10Tab) :
    Calls Tryz.prog 32 #[thingV a c t] w fun e w' => e = .returned (.string (twB t)) ∧ Below w.heap.size w w' := by
  have HT := Lib.hid htab
  clear htab
  have HX := Lib.hid hm
  clear hm
  obtain ⟨sp, nm, uid, rev, gone, marks, body⟩ := t
  simp only at HX hn hcap
  unfold thingV
  dsimp only
  obtain ⟨w1, hA⟩ : ∃ wA, w.alloc (.cells #[.string sp, .string nm, .int .i64 uid, .int .i64 rev, .bool gone, .slice a marks.length c, .string body] 57) = wA := ⟨_, rfl⟩
  have BX := Lib.hid (show Box w1 w.heap.size [.string sp, .string nm, .int .i64 uid, .int .i64 rev, .bool gone, .slice a marks.length c, .string body] by rw [← hA]; exact Box.alloc w _ _)
  have B1 := Lib.hid (show Below w.heap.size w w1 by rw [← hA]; exact below_alloc _ _)
  have HF := Lib.hid (show ∀ W, Below w1.heap.size w1 W → Below w.heap.size w W from fun W hb => B1.out.trans (hb.mono B1.out.size))
  have KS := Lib.hid (show ∀ W, Below w1.heap.size w1 W → Below w1.heap.size w1 W ∧ W.cell? ⟨w.heap.size, 2, none⟩ = some (.int .i64 uid) ∧ W.cell? ⟨w.heap.size, 3, none⟩ = some (.int .i64 rev) ∧ W.cell? ⟨w.heap.size, 4, none⟩ = some (.bool gone) ∧ W.cell? ⟨w.heap.size, 5, none⟩ = some (.slice a marks.length c) ∧ W.cell? ⟨w.heap.size, 6, none⟩ = some (.string body) from fun W hb => by
    have h := BX.out.below hb
    exact ⟨hb, (h 2 _ rfl).1, (h 3 _ rfl).1, (h 4 _ rfl).1, (h 5 _ rfl).1, (h 6 _ rfl).1⟩)
  have HA := Lib.hid hA
  clear hA
  cases hok : thingB ⟨sp, nm, uid, rev, gone, marks, body⟩ with
  | false =>
    have HN := Lib.hid (show twB ⟨sp, nm, uid, rev, gone, marks, body⟩ = ⟨#[]⟩ by simp [twB, hok])
    have HK := Lib.hid hok
    clear hok
    go_enter Tryz.func32, Tryz.ntmps32
    go_wp2_with fail
    rw [HA.out]
    refine (implThing_any a c ⟨sp, nm, uid, rev, gone, marks, body⟩ _ (HX.out.below B1.out) hk hn).mono ?_
    rintro e w2 ⟨rfl, b2⟩
    rw [HK.out]
    go_wp2
    go_ret
    exact ⟨ret_str HN.out.symm, HF.out _ b2⟩
  | true =>
  obtain ⟨⟨hu0, hu1⟩, ⟨hr0, hr1⟩, hm2, hms, hbo⟩ := thing_nums hok
  have HN := Lib.hid (show twB ⟨sp, nm, uid, rev, gone, marks, body⟩ = decI uid ++ ⟨#[32]⟩ ++ decI rev ++ ⟨#[32]⟩ ++ flagB gone ++ ⟨#[32]⟩ ++ joW marks ++ ⟨#[32]⟩ ++ body by simp [twB, hok, twL])
  have HK := Lib.hid hok
  simp only at hu0 hu1 hr0 hr1 hm2 hms hbo
  have hms6 : ∀ s ∈ marks, s.size ≤ 6 := fun s hs => (hms s hs).2
  have z1 := decI_size (n := uid) (by omega) (by omega)
  have z2 := decI_size (n := rev) (by omega) (by omega)
  have z3 := flagB_size gone
  have z4 := joW_size hms6
  have HW4 := Lib.hid (show wordB (joR marks) = joW marks from wordB_joR hm2 (fun s hs => (hms s hs).1))
  have HD1 := Lib.hid (fun W (hb : Below w1.heap.size w1 W) => itoaI_any (n := uid) (by omega) (by omega) W (tab_below HT.out (HF.out W hb)))
  have HD2 := Lib.hid (fun W (hb : Below w1.heap.size w1 W) => itoaI_any (n := rev) (by omega) (by omega) W (tab_below HT.out (HF.out W hb)))
  have HFL := Lib.hid (fun W => flagI_any gone W)
  have HJ := Lib.hid (fun W (hb : Below w1.heap.size w1 W) => joinI_any a c marks W (HX.out.below (HF.out W hb)) hm2 hms6 hcap)
  generalize decI uid = d1 at HN z1 HD1
  generalize decI rev = d2 at HN z2 HD2
  generalize flagB gone = d3 at HN z3 HFL
  generalize joW marks = d4 at HN z4 HW4
  clear hok hu0 hu1 hr0 hr1 hms hms6
  have f0 : ¬ 9223372036854775807 < d1.size + 1 := by omega
  have f1 : ¬ 9223372036854775807 < d1.size + 1 + d2.size := by omega
  have f2 : ¬ 9223372036854775807 < d1.size + 1 + d2.size + 1 := by omega
  have f3 : ¬ 9223372036854775807 < d1.size + 1 + d2.size + 1 + d3.size := by omega
  have f4 : ¬ 9223372036854775807 < d1.size + 1 + d2.size + 1 + d3.size + 1 := by omega
  have f5 : ¬ 9223372036854775807 < d1.size + 1 + d2.size + 1 + d3.size + 1 + d4.size := by omega
  have f6 : ¬ 9223372036854775807 < d1.size + 1 + d2.size + 1 + d3.size + 1 + d4.size + 1 := by omega
  have f7 : ¬ 9223372036854775807 < d1.size + 1 + d2.size + 1 + d3.size + 1 + d4.size + 1 + body.size := by omega
  go_enter Tryz.func32, Tryz.ntmps32
  go_wp2_with fail
  rw [HA.out]
  refine (implThing_any a c ⟨sp, nm, uid, rev, gone, marks, body⟩ _ (HX.out.below B1.out) hk hn).mono ?_
  rintro e w2 ⟨rfl, b2⟩
  rw [HK.out]
  obtain ⟨b2, c2, c3, c4, c5, c6⟩ := KS.out _ b2
  go_wp2_with fail
  refine (HJ.out _ b2).mono ?_
  rintro e w3 ⟨rfl, b3⟩
  have b4 := b2.trans (b3.mono b2.size)
  clear b2 b3 c2 c3 c4 c5 c6
  go_wp2_with fail
  refine (word_any (joR marks) _).mono ?_
  rintro e w4 ⟨rfl, b5⟩
  rw [HW4.out]
  have b2 := b4.trans (b5.mono b4.size)
  clear b4 b5
  go_upto_region 4 with fail
  refine wp_region_held_drew (S := fun W => Below w1.heap.size w1 W ∧ W.cell? ⟨w.heap.size, 2, none⟩ = some (.int .i64 uid) ∧ W.cell? ⟨w.heap.size, 3, none⟩ = some (.int .i64 rev) ∧ W.cell? ⟨w.heap.size, 4, none⟩ = some (.bool gone) ∧ W.cell? ⟨w.heap.size, 5, none⟩ = some (.slice a marks.length c) ∧ W.cell? ⟨w.heap.size, 6, none⟩ = some (.string body)) (by kernel_rfl) (KS.out _ b2.drew) (fun hHeld => ?_)
  refine wpAnyH_take (i := 0) (oi := { dst := some 11, op := Op.fieldAddr 57 (Operand.tmp 1) 2, type := 0, pos := "l7_thing.go:75", after := _, guard := none }) (v := ?_) rfl (by kernel_rfl) (by kernel_rfl) (by kernel_rfl) (fun _ _ _ h => h) (Or.inl ⟨by rfl, ?_⟩) (by assumption) ?_
  rotate_left
  · (intro w hSw; (try dsimp only at hSw); go_simp; (try with_reducible rfl))
  simp only [Act.put, List.setIfInBounds_toArray, List.set_cons_zero, List.set_cons_succ]
  refine wpAnyH_take (i := 1) (oi := { dst := some 12, op := Op.load 3 (Operand.tmp 11), type := 3, pos := "l7_thing.go:75", after := _, guard := none }) (v := ?_) rfl (by kernel_rfl) (by kernel_rfl) (by kernel_rfl) (fun _ _ _ h => h) (Or.inl ⟨by rfl, ?_⟩) (by assumption) ?_
  rotate_left
  · (intro w hSw; (try dsimp only at hSw); go_simp; (try with_reducible rfl))
  simp only [Act.put, List.setIfInBounds_toArray, List.set_cons_zero, List.set_cons_succ]
  refine wpAnyH_take (i := 4) (oi := { dst := some 15, op := Op.fieldAddr 57 (Operand.tmp 1) 3, type := 0, pos := "l7_thing.go:75", after := _, guard := none }) (v := ?_) rfl (by kernel_rfl) (by kernel_rfl) (by kernel_rfl) (fun _ _ _ h => h) (Or.inl ⟨by rfl, ?_⟩) (by assumption) ?_
  rotate_left
  · (intro w hSw; (try dsimp only at hSw); go_simp; (try with_reducible rfl))
  simp only [Act.put, List.setIfInBounds_toArray, List.set_cons_zero, List.set_cons_succ]
  refine wpAnyH_take (i := 5) (oi := { dst := some 16, op := Op.load 3 (Operand.tmp 15), type := 3, pos := "l7_thing.go:75", after := _, guard := none }) (v := ?_) rfl (by kernel_rfl) (by kernel_rfl) (by kernel_rfl) (fun _ _ _ h => h) (Or.inl ⟨by rfl, ?_⟩) (by assumption) ?_
  rotate_left
  · (intro w hSw; (try dsimp only at hSw); go_simp; (try with_reducible rfl))
  simp only [Act.put, List.setIfInBounds_toArray, List.set_cons_zero, List.set_cons_succ]
  refine wpAnyH_take (i := 9) (oi := { dst := some 20, op := Op.fieldAddr 57 (Operand.tmp 1) 4, type := 0, pos := "l7_thing.go:75", after := _, guard := none }) (v := ?_) rfl (by kernel_rfl) (by kernel_rfl) (by kernel_rfl) (fun _ _ _ h => h) (Or.inl ⟨by rfl, ?_⟩) (by assumption) ?_
  rotate_left
  · (intro w hSw; (try dsimp only at hSw); go_simp; (try with_reducible rfl))
  simp only [Act.put, List.setIfInBounds_toArray, List.set_cons_zero, List.set_cons_succ]
  refine wpAnyH_take (i := 10) (oi := { dst := some 21, op := Op.load 4 (Operand.tmp 20), type := 4, pos := "l7_thing.go:75", after := _, guard := none }) (v := ?_) rfl (by kernel_rfl) (by kernel_rfl) (by kernel_rfl) (fun _ _ _ h => h) (Or.inl ⟨by rfl, ?_⟩) (by assumption) ?_
  rotate_left
  · (intro w hSw; (try dsimp only at hSw); go_simp; (try with_reducible rfl))
  simp only [Act.put, List.setIfInBounds_toArray, List.set_cons_zero, List.set_cons_succ]
  refine wpAnyH_take (i := 14) (oi := { dst := some 25, op := Op.move (Operand.tmp 3), type := 9, pos := "l7_thing.go:75", after := _, guard := none }) (v := ?_) rfl (by kernel_rfl) (by kernel_rfl) (by kernel_rfl) (fun _ _ _ h => h) (Or.inl ⟨by rfl, ?_⟩) (by assumption) ?_
  rotate_left
  · (intro w hSw; (try dsimp only at hSw); go_simp; (try with_reducible rfl))
  simp only [Act.put, List.setIfInBounds_toArray, List.set_cons_zero, List.set_cons_succ]
  refine wpAnyH_take (i := 17) (oi := { dst := some 28, op := Op.fieldAddr 57 (Operand.tmp 1) 6, type := 0, pos := "l7_thing.go:75", after := _, guard := none }) (v := ?_) rfl (by kernel_rfl) (by kernel_rfl) (by kernel_rfl) (fun _ _ _ h => h) (Or.inl ⟨by rfl, ?_⟩) (by assumption) ?_
  rotate_left
  · (intro w hSw; (try dsimp only at hSw); go_simp; (try with_reducible rfl))
  simp only [Act.put, List.setIfInBounds_toArray, List.set_cons_zero, List.set_cons_succ]
  refine wpAnyH_take (i := 18) (oi := { dst := some 29, op := Op.load 9 (Operand.tmp 28), type := 9, pos := "l7_thing.go:75", after := _, guard := none }) (v := ?_) rfl (by kernel_rfl) (by kernel_rfl) (by kernel_rfl) (fun _ _ _ h => h) (Or.inl ⟨by rfl, ?_⟩) (by assumption) ?_
  rotate_left
  · (intro w hSw; (try dsimp only at hSw); go_simp; (try with_reducible rfl))
  simp only [Act.put, List.setIfInBounds_toArray, List.set_cons_zero, List.set_cons_succ]
  refine wpAnyH_ready (rs := [2]) (by kernel_rfl) (by simp) ?_
  refine AllReadyH.cons (o := { dst := some 13, op := Op.call { callee := Callee.value (Operand.func 30), args := #[Operand.tmp 12], argTypes := #[3] }, type := 9, pos := "l7_thing.go:75", after := _, guard := none }) rfl (fun K hK => ?_) AllReadyH.nil
  go_simp
  refine (HD1.out _ hHeld.1).mono ?_
  rintro e w3 ⟨rfl, b3⟩
  have B3 : Below w1.heap.size w1 w3 := hHeld.1.trans (b3.mono hHeld.1.size)
  (try dsimp only)
  refine hK.out _ _ ?_ (fun hHeld => ?_)
  · exact KS.out _ B3
  clear hK K
  (try simp only [Act.put, List.setIfInBounds_toArray, List.set_cons_zero, List.set_cons_succ])
  refine wpAnyH_take (i := 3) (oi := { dst := some 14, op := Op.binOp BinOp.add 9 (Operand.tmp 13) (Operand.const (Value.string { data := #[32] })) 9, type := 9, pos := "l7_thing.go:75", after := _, guard := none }) (v := ?_) rfl (by kernel_rfl) (by kernel_rfl) (by kernel_rfl) (fun _ _ _ h => h) (Or.inl ⟨by rfl, ?_⟩) (by assumption) ?_
  rotate_left
  · (intro w hSw; (try dsimp only at hSw); go_simp; (try with_reducible rfl))
  simp only [Act.put, List.setIfInBounds_toArray, List.set_cons_zero, List.set_cons_succ]
  refine wpAnyH_ready (rs := [6]) (by kernel_rfl) (by simp) ?_
  refine AllReadyH.cons (o := { dst := some 17, op := Op.call { callee := Callee.value (Operand.func 30), args := #[Operand.tmp 16], argTypes := #[3] }, type := 9, pos := "l7_thing.go:75", after := _, guard := none }) rfl (fun K hK => ?_) AllReadyH.nil
  go_simp
  refine (HD2.out _ hHeld.1).mono ?_
  rintro e w3 ⟨rfl, b3⟩
  have B3 : Below w1.heap.size w1 w3 := hHeld.1.trans (b3.mono hHeld.1.size)
  (try dsimp only)
  refine hK.out _ _ ?_ (fun hHeld => ?_)
  · exact KS.out _ B3
  clear hK K
  (try simp only [Act.put, List.setIfInBounds_toArray, List.set_cons_zero, List.set_cons_succ])
  refine wpAnyH_take (i := 7) (oi := { dst := some 18, op := Op.binOp BinOp.add 9 (Operand.tmp 14) (Operand.tmp 17) 9, type := 9, pos := "l7_thing.go:75", after := _, guard := none }) (v := ?_) rfl (by kernel_rfl) (by kernel_rfl) (by kernel_rfl) (fun _ _ _ h => h) (Or.inl ⟨by rfl, ?_⟩) (by assumption) ?_
  rotate_left
  · (intro w hSw; (try dsimp only at hSw); go_simp; (try with_reducible rfl))
  simp only [Act.put, List.setIfInBounds_toArray, List.set_cons_zero, List.set_cons_succ]
  refine wpAnyH_take (i := 8) (oi := { dst := some 19, op := Op.binOp BinOp.add 9 (Operand.tmp 18) (Operand.const (Value.string { data := #[32] })) 9, type := 9, pos := "l7_thing.go:75", after := _, guard := none }) (v := ?_) rfl (by kernel_rfl) (by kernel_rfl) (by kernel_rfl) (fun _ _ _ h => h) (Or.inl ⟨by rfl, ?_⟩) (by assumption) ?_
  rotate_left
  · (intro w hSw; (try dsimp only at hSw); go_simp; (try with_reducible rfl))
  simp only [Act.put, List.setIfInBounds_toArray, List.set_cons_zero, List.set_cons_succ]
  refine wpAnyH_ready (rs := [11]) (by kernel_rfl) (by simp) ?_
  refine AllReadyH.cons (o := { dst := some 22, op := Op.call { callee := Callee.value (Operand.func 75), args := #[Operand.tmp 21], argTypes := #[4] }, type := 9, pos := "l7_thing.go:75", after := _, guard := none }) rfl (fun K hK => ?_) AllReadyH.nil
  go_simp
  refine (HFL.out _).mono ?_
  rintro e w3 ⟨rfl, b3⟩
  have B3 : Below w1.heap.size w1 w3 := hHeld.1.trans (b3.mono hHeld.1.size)
  (try dsimp only)
  refine hK.out _ _ ?_ (fun hHeld => ?_)
  · exact KS.out _ B3
  clear hK K
  (try simp only [Act.put, List.setIfInBounds_toArray, List.set_cons_zero, List.set_cons_succ])
  refine wpAnyH_take (i := 12) (oi := { dst := some 23, op := Op.binOp BinOp.add 9 (Operand.tmp 19) (Operand.tmp 22) 9, type := 9, pos := "l7_thing.go:75", after := _, guard := none }) (v := ?_) rfl (by kernel_rfl) (by kernel_rfl) (by kernel_rfl) (fun _ _ _ h => h) (Or.inl ⟨by rfl, ?_⟩) (by assumption) ?_
  rotate_left
  · (intro w hSw; (try dsimp only at hSw); go_simp; (try with_reducible rfl))
  simp only [Act.put, List.setIfInBounds_toArray, List.set_cons_zero, List.set_cons_succ]
  refine wpAnyH_take (i := 13) (oi := { dst := some 24, op := Op.binOp BinOp.add 9 (Operand.tmp 23) (Operand.const (Value.string { data := #[32] })) 9, type := 9, pos := "l7_thing.go:75", after := _, guard := none }) (v := ?_) rfl (by kernel_rfl) (by kernel_rfl) (by kernel_rfl) (fun _ _ _ h => h) (Or.inl ⟨by rfl, ?_⟩) (by assumption) ?_
  rotate_left
  · (intro w hSw; (try dsimp only at hSw); go_simp; (try with_reducible rfl))
  simp only [Act.put, List.setIfInBounds_toArray, List.set_cons_zero, List.set_cons_succ]
  refine wpAnyH_take (i := 15) (oi := { dst := some 26, op := Op.binOp BinOp.add 9 (Operand.tmp 24) (Operand.tmp 25) 9, type := 9, pos := "l7_thing.go:75", after := _, guard := none }) (v := ?_) rfl (by kernel_rfl) (by kernel_rfl) (by kernel_rfl) (fun _ _ _ h => h) (Or.inl ⟨by rfl, ?_⟩) (by assumption) ?_
  rotate_left
  · (intro w hSw; (try dsimp only at hSw); go_simp; (try with_reducible rfl))
  simp only [Act.put, List.setIfInBounds_toArray, List.set_cons_zero, List.set_cons_succ]
  refine wpAnyH_take (i := 16) (oi := { dst := some 27, op := Op.binOp BinOp.add 9 (Operand.tmp 26) (Operand.const (Value.string { data := #[32] })) 9, type := 9, pos := "l7_thing.go:75", after := _, guard := none }) (v := ?_) rfl (by kernel_rfl) (by kernel_rfl) (by kernel_rfl) (fun _ _ _ h => h) (Or.inl ⟨by rfl, ?_⟩) (by assumption) ?_
  rotate_left
  · (intro w hSw; (try dsimp only at hSw); go_simp; (try with_reducible rfl))
  simp only [Act.put, List.setIfInBounds_toArray, List.set_cons_zero, List.set_cons_succ]
  refine wpAnyH_take (i := 19) (oi := { dst := some 30, op := Op.binOp BinOp.add 9 (Operand.tmp 27) (Operand.tmp 29) 9, type := 9, pos := "l7_thing.go:75", after := _, guard := none }) (v := ?_) rfl (by kernel_rfl) (by kernel_rfl) (by kernel_rfl) (fun _ _ _ h => h) (Or.inl ⟨by rfl, ?_⟩) (by assumption) ?_
  rotate_left
  · (intro w hSw; (try dsimp only at hSw); go_simp; (try with_reducible rfl))
  simp only [Act.put, List.setIfInBounds_toArray, List.set_cons_zero, List.set_cons_succ]
  refine wpAnyH_take (i := 20) (oi := { dst := some 2, op := Op.assign (Operand.tmp 30), type := 9, pos := "l7_thing.go:75", after := _, guard := none }) (v := ?_) rfl (by kernel_rfl) (by kernel_rfl) (by kernel_rfl) (fun _ _ _ h => h) (Or.inl ⟨by rfl, ?_⟩) (by assumption) ?_
  rotate_left
  · (intro w hSw; (try dsimp only at hSw); go_simp; (try with_reducible rfl))
  simp only [Act.put, List.setIfInBounds_toArray, List.set_cons_zero, List.set_cons_succ]
  refine wpAnyH_done (by kernel_rfl) ?_ _
  go_wp2
  go_ret
  exact ⟨ret_str (by rw [HN.out]), HF.out _ hHeld.1⟩
end Go.Proofs.YtbioljpjpflboaaGreatDoor
