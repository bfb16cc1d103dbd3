import Derived.Test.YtakcmjnfkcoilaaDoorDec
import Derived.Deep.RegionHeld3
import Derived.Handy
/- l3Wire and WirePut of the model. -/
namespace Go.Proofs.YtakcmjnfkcoilaaDoor
open Go Go.RowKit

def wordB (s : ByteArray) : ByteArray := decB s.size ++ ⟨#[58]⟩ ++ s ++ ⟨#[44]⟩
/-- the first k words, written -/
def wireTo (l : List ByteArray) : Nat → ByteArray
  | 0 => ⟨#[]⟩
  | k + 1 => match l[k]? with
    | some s => wireTo l k ++ decB s.size ++ ⟨#[58]⟩ ++ s ++ ⟨#[44]⟩
    | none => wireTo l k
theorem wireTo_succ {l : List ByteArray} {k : Nat} (h : k < l.length) : wireTo l (k + 1) = wireTo l k ++ decB l[k].size ++ ⟨#[58]⟩ ++ l[k] ++ ⟨#[44]⟩ := by
  simp [wireTo, List.getElem?_eq_getElem h]
theorem wireTo_size (l : List ByteArray) : ∀ k, k ≤ l.length → (wireTo l k).size ≤ 2 * sumSize (l.take k) + 3 * k
  | 0, _ => by simp [wireTo, ByteArray.size]
  | k + 1, h => by
    have ih := wireTo_size l k (by omega)
    rw [wireTo_succ (by omega), sumSize_take l k (by omega)]
    have := decB_size l[k].size
    simp only [ByteArray.size_append, show (⟨#[58]⟩ : ByteArray).size = 1 from rfl, show (⟨#[44]⟩ : ByteArray).size = 1 from rfl]
    omega

set_option maxRecDepth 100000 in
set_option maxHeartbeats 800000 in
theorem l3Wire_any (a : Option Addr) (ca : Nat) (l : List ByteArray) (w : World) (hl : l.length ≤ 1048576) (hsum : sumSize l ≤ 1048576) (h : StrS w a l) :
    Calls Tryd.prog 36 #[.slice a l.length ca] w fun e w' => e = .returned (.string (wireTo l l.length)) ∧ Below w.heap.size w w' := by
  go_enter Tryd.func36, Tryd.ntmps36
  go_wp2
  go_loopw [3, 4] (fun v3 v4 wr => ∃ k : Nat, k ≤ l.length ∧ v3 = .string (wireTo l k) ∧ v4 = .int .i64 k ∧ Below w.heap.size w wr) (fun _ v4 _ => l.length - (intOf v4).toNat)
  case atStart => exact ⟨0, Nat.zero_le _, rfl, rfl, Below.refl _ _⟩
  case round =>
    obtain ⟨k, hk, rfl, rfl, hbel⟩ := hrel
    by_cases hlt : k < l.length
    · obtain ⟨b, o, rfl, hc⟩ := h.2.2.resolve_left (by intro e; subst e; simp at hlt)
      have hk2 : (k : Int) < (l.length : Int) := by omega
      have HC := Lib.hid (show ∀ w', Below w.heap.size w w' → w'.cell? ⟨b, o + k, none⟩ = some (.string l[k]) from fun w' hb => by
        rw [hb.cell (by have := World.block_lt_of_cell? w _ (hc k hlt); simpa using this)]; exact hc k hlt)
      have c0 := HC.out _ hbel
      have hs := wireTo_size l k (by omega)
      have hs2 := sumSize_le l k
      have hs3 := sumSize_le l (k + 1)
      rw [sumSize_take l k hlt] at hs3
      have hd := decB_size l[k].size
      have HN := Lib.hid (wireTo_succ hlt)
      obtain ⟨acc, hacc⟩ : ∃ acc, acc = wireTo l k := ⟨_, rfl⟩
      obtain ⟨wd, hwd⟩ : ∃ wd, wd = l[k] := ⟨_, rfl⟩
      rw [← hacc, ← hwd] at HN
      rw [← hwd] at c0 hd hs3
      rw [← hacc] at hs
      rw [← hacc]
      have HCW := Lib.hid hwd
      obtain ⟨dg, hdg⟩ : ∃ dg, dg = decB wd.size := ⟨_, rfl⟩
      have HDG := Lib.hid hdg
      rw [← hdg] at HN hd
      have t1 : ¬ 9223372036854775807 < acc.size + dg.size := by omega
      have t2 : ¬ 9223372036854775807 < acc.size + dg.size + 1 := by omega
      have t3 : ¬ 9223372036854775807 < acc.size + dg.size + 1 + wd.size := by omega
      have t4 : ¬ 9223372036854775807 < acc.size + dg.size + 1 + wd.size + 1 := by omega
      clear hacc hwd hdg
      go_wp2_with fail
      go_region_held3 (fun w' => w'.cell? ⟨b, o + k, none⟩ = some (.string wd) ∧ Below w.heap.size w w')
        (first | exact ⟨c0, hbel⟩ | exact ⟨c0, hbel.drew⟩ | exact ⟨c1, B1⟩)
        ((go_at_call 57; refine (dec_any wd.size _ (by omega)).mono ?_; rintro e w1 ⟨rfl, b1⟩; rw [← HDG.out]; have B1 : Below w.heap.size w w1 := hbel.drew.trans (b1.mono hbel.size); have c1 : w1.cell? ⟨b, o + k, none⟩ = some (.string wd) := (by rw [HCW.out]; exact HC.out _ B1)))
      go_wp2
      go_roundw
      case rel => exact ⟨k + 1, by omega, by rw [HN.out], by go_num, B1⟩
      case measure => simp [intOf]; omega
    · have e : k = l.length := by omega
      subst e
      go_wp2
      go_ret
      exact ⟨rfl, hbel⟩

/-- words written, if they are not too long -/
def putB (l : List ByteArray) : ByteArray := if (wireTo l l.length).size ≤ 2000 then wireTo l l.length else ⟨#[]⟩

set_option maxHeartbeats 400000 in
theorem specWirePut_any (a : Option Addr) (ca : Nat) (l : List ByteArray) (w : World) (hl : l.length ≤ 1048576) (hsum : sumSize l ≤ 1048576) (h : StrS w a l) :
    Calls Tryd.prog 19 #[.slice a l.length ca] w fun e w' => e = .returned (.string (putB l)) ∧ Below w.heap.size w w' := by
  by_cases hb : 2000 < ((wireTo l l.length).size : Int)
  · have HP := Lib.hid (show putB l = ⟨#[]⟩ by unfold putB; rw [if_neg (by omega)])
    go_enter Tryd.func19, Tryd.ntmps19
    go_wp2_with (go_at_call 36; refine (l3Wire_any a ca l _ hl hsum h).mono ?_; rintro e w1 ⟨rfl, b1⟩)
    go_ret
    exact ⟨ret_str HP.out.symm, b1⟩
  · have hb2 : ((wireTo l l.length).size : Int) ≤ 2000 := by omega
    have HP := Lib.hid (show putB l = wireTo l l.length by unfold putB; rw [if_pos (by omega)])
    clear hb
    go_enter Tryd.func19, Tryd.ntmps19
    go_wp2_with (go_at_call 36; refine (l3Wire_any a ca l _ hl hsum h).mono ?_; rintro e w1 ⟨rfl, b1⟩)
    go_ret
    exact ⟨ret_str HP.out.symm, b1⟩
end Go.Proofs.YtakcmjnfkcoilaaDoor
