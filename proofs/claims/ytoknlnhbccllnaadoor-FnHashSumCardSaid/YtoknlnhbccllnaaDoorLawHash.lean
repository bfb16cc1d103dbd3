import Derived.Test.YtoknlnhbccllnaaDoorHashI
import Derived.Test.YtoknlnhbccllnaaDoorHashS
import Derived.Test.YtoknlnhbccllnaaDoorShaAbc
import Derived.Test.YtoknlnhbccllnaaDoorPick
import Derived.Test.YtoknlnhbccllnaaDoorMany
import Derived.Deep.RegionHeld3
/- The walk of FnHashSum. -/
namespace Go.Proofs.YtoknlnhbccllnaaDoor
open Go Go.RowKit

def hashLits : List ByteArray := [⟨#[97]⟩, ⟨#[0]⟩, ⟨#[97, 98, 99]⟩]
def DrawHashP (w : World) (e : Ending) (w' : World) : Prop := ∃ s : ByteArray, s.size ≤ 1000 ∧ e = .returned (.string s) ∧ Below w.heap.size w w'
theorem nums_cells (w : World) (q : Int) (e : TypeId) (j : Nat) (hj : j < 6) : ∃ m : Int, (w.alloc (.cells #[.int .i64 q, .int .i64 18, .int .i64 19, .int .i64 55, .int .i64 56, .int .i64 64] e)).cell? ⟨w.heap.size, j, none⟩ = some (.int .i64 m) ∧ (m = q ∨ (18 ≤ m ∧ m ≤ 64)) := by
  match j, hj with
  | 0, _ => exact ⟨q, (Box.alloc w #[.int .i64 q, .int .i64 18, .int .i64 19, .int .i64 55, .int .i64 56, .int .i64 64] e 0 _ rfl).1, .inl rfl⟩
  | 1, _ => exact ⟨18, (Box.alloc w #[.int .i64 q, .int .i64 18, .int .i64 19, .int .i64 55, .int .i64 56, .int .i64 64] e 1 _ rfl).1, .inr (by omega)⟩
  | 2, _ => exact ⟨19, (Box.alloc w #[.int .i64 q, .int .i64 18, .int .i64 19, .int .i64 55, .int .i64 56, .int .i64 64] e 2 _ rfl).1, .inr (by omega)⟩
  | 3, _ => exact ⟨55, (Box.alloc w #[.int .i64 q, .int .i64 18, .int .i64 19, .int .i64 55, .int .i64 56, .int .i64 64] e 3 _ rfl).1, .inr (by omega)⟩
  | 4, _ => exact ⟨56, (Box.alloc w #[.int .i64 q, .int .i64 18, .int .i64 19, .int .i64 55, .int .i64 56, .int .i64 64] e 4 _ rfl).1, .inr (by omega)⟩
  | 5, _ => exact ⟨64, (Box.alloc w #[.int .i64 q, .int .i64 18, .int .i64 19, .int .i64 55, .int .i64 56, .int .i64 64] e 5 _ rfl).1, .inr (by omega)⟩

set_option maxRecDepth 100000 in
set_option maxHeartbeats 1000000 in
theorem drawHash_any (a : Option Addr) (c : Nat) (l : List UInt8) (w : World) (hl : l.length ≤ c) (hc : c ≤ maxLen) (h : BytesS w a l) :
    Calls Tryd.prog 5 #[.slice a l.length c] w (DrawHashP w) := by
  go_enter Tryd.func5, Tryd.ntmps5
  go_wp2_with fail
  refine (open_any a c l _ hl hc h).mono ?_
  rintro e w1 ⟨c1, l1, rfl, hrd, hb1⟩
  have hlt := hrd.lt
  have HR := Lib.hid hrd
  have z1 := hb1.size
  clear hrd
  go_wp2_with fail
  refine (of_any _ w.heap.size a c1 l1 0 (by omega) (HR.out.below (below_alloc _ _)) w1.heap.size 0 _ hashLits (by decide) (by decide) (by omega) (fun j hj => lit_cells w1 hashLits _ j hj)).mono ?_
  rintro e w2 ⟨s, hs, rfl, hr2, hk⟩
  have hs3 : s.size ≤ 3 := by
    simp only [hashLits, List.mem_cons, List.not_mem_nil, or_false] at hs
    rcases hs with rfl | rfl | rfl <;> simp [ByteArray.size]
  have G2 : Below w.heap.size w w2 := hk.below (hb1.trans ((below_alloc _ _).mono hb1.size)) (by simp; omega) (fun k hk => by omega)
  have HR2 := Lib.hid hr2
  have z2 := hk.size
  simp only [World.size_alloc] at z2
  clear hr2 hk hs HR
  go_wp2_with fail
  refine (pick_any 5 w2 w.heap.size a c1 l1 1 (by omega) (by omega) (by omega) HR2.out).mono ?_
  rintro e w3 ⟨q, rfl, hq0, hq1, hr3, hk3⟩
  have hq5 := hq1 (by omega)
  have HR3 := Lib.hid hr3
  have HK3 := Lib.hid hk3
  have z3 := hk3.size
  have G3 : Below w.heap.size w w3 := hk3.below G2 G2.size (fun k hk => by omega)
  clear hr3 hk3 hq1
  go_wp2_with fail
  refine (pick_any 6 _ w.heap.size a c1 l1 2 (by omega) (by omega) (by omega) (HR3.out.below (below_alloc _ _))).mono ?_
  rintro e w4 ⟨q2, rfl, hq20, hq21, hr4, hk4⟩
  have hq26 := hq21 (by omega)
  obtain ⟨j, rfl⟩ := Int.eq_ofNat_of_zero_le hq20
  obtain ⟨m, hm, hmb⟩ := nums_cells w3 q 3 j (by omega)
  have hm4 : w4.cell? ⟨w3.heap.size, j, none⟩ = some (.int .i64 m) := by
    rw [hk4.cell (p := ⟨w3.heap.size, j, none⟩) (by simp) (by show ¬ (w3.heap.size = w.heap.size); omega)]
    exact hm
  have z4 := hk4.size
  simp only [World.size_alloc] at z4
  have G4 : Below w.heap.size w w4 := hk4.below (G3.alloc G3.size _) (by simp; omega) (fun k hk => by omega)
  obtain ⟨mn, rfl⟩ : ∃ mn : Nat, m = (mn : Int) := ⟨m.toNat, by omega⟩
  have hmn : mn ≤ 64 := by omega
  have G4H := Lib.hid G4
  clear hr4 hk4 hm hmb hq21 hq20 G4 G3 G2 hb1
  have hj6 : (j : Int) < 6 := hq26
  go_wp2_with fail
  refine (many_any s mn _ (by omega) (by omega)).mono ?_
  rintro e w5 ⟨⟨t, ht, rfl⟩, rfl⟩
  have hts : t.size ≤ 1000 := by
    rw [ht]
    exact Nat.le_trans (Nat.mul_le_mul hs3 hmn) (by omega)
  have HTS := Lib.hid hts
  clear ht hts
  go_wp2
  go_ret
  exact ⟨t, HTS.out, rfl, G4H.out⟩

set_option maxRecDepth 100000 in
set_option maxHeartbeats 2000000 in
theorem fnHashSumWalk (a : Option Addr) (c : Nat) (l : List UInt8) (hl : l.length ≤ c) (hc : c ≤ maxLen) {w : World} (h : BytesS w a l) (ht : HashT w) :
    Calls Tryd.prog 3 #[.slice a l.length c] w fun e w' => e = .returned (.bool true) ∧ Below w.heap.size w w' := by
  have hcl := hc
  unfold maxLen at hcl
  have HT := Lib.hid ht
  clear ht
  have HA := Lib.hid (show (shaS ⟨#[97, 98, 99]⟩).toList = [98, 97, 55, 56, 49, 54, 98, 102, 56, 102, 48, 49, 99, 102, 101, 97, 52, 49, 52, 49, 52, 48, 100, 101, 53, 100, 97, 101, 50, 50, 50, 51, 98, 48, 48, 51, 54, 49, 97, 51, 57, 54, 49, 55, 55, 97, 57, 99, 98, 52, 49, 48, 102, 102, 54, 49, 102, 50, 48, 48, 49, 53, 97, 100] by rw [ByteArray.toList_eq]; exact sha_abc)
  by_cases hb : (1048576 : Int) < (l.length : Int)
  · go_enter Tryd.func3, Tryd.ntmps3
    go_wp2
    go_ret
    exact ⟨rfl, Below.refl _ _⟩
  have hb' : (l.length : Int) ≤ 1048576 := by omega
  clear hb
  go_enter Tryd.func3, Tryd.ntmps3
  go_wp2_with fail
  refine (drawHash_any a c l _ hl hc h).mono ?_
  rintro e w1 ⟨s, hs, rfl, b1⟩
  have B1 := Lib.hid b1
  clear b1
  have hsz := shaS_size s
  have HSZ := Lib.hid hsz
  clear hsz
  go_wp2_with fail
  refine (implHash_any s w1 (by omega) (HT.out.below B1.out)).mono ?_
  rintro e w2 ⟨rfl, b2⟩
  have B2 := Lib.hid (B1.out.trans (b2.mono B1.out.size))
  clear b2
  go_wp2_with fail
  refine (specHash_any s (by omega) w2).mono ?_
  rintro e w3 ⟨rfl, b3⟩
  have B3 := Lib.hid (B2.out.trans (b3.mono B2.out.size))
  clear b3
  go_wp2_with fail
  refine (implHash_any s w3 (by omega) (HT.out.below B3.out)).mono ?_
  rintro e w4 ⟨rfl, b4⟩
  have B4 := Lib.hid (B3.out.trans (b4.mono B3.out.size))
  clear b4
  have hs64 : (shaS s).size = 64 := HSZ.out
  go_wp2_with fail
  clear hs64
  refine (implHash_any ⟨#[97, 98, 99]⟩ w4 (by show 3 ≤ _; omega) (HT.out.below B4.out)).mono ?_
  rintro e w5 ⟨rfl, b5⟩
  have B5 := Lib.hid (B4.out.trans (b5.mono B4.out.size))
  clear b5
  have ha := HA.out
  go_wp2
  go_ret
  exact ⟨rfl, B5.out⟩
end Go.Proofs.YtoknlnhbccllnaaDoor
