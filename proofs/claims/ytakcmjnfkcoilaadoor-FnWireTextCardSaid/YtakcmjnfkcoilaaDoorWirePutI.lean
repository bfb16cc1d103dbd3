import Derived.Test.YtakcmjnfkcoilaaDoorWirePutS
import Derived.Test.YtakcmjnfkcoilaaDoorBuild
import Derived.Test.YtakcmjnfkcoilaaDoorShelf
import Derived.Test.YtakcmjnfkcoilaaDoorItoa
import Derived.Lib.SmallJoins
/- WirePut of the program. -/
namespace Go.Proofs.YtakcmjnfkcoilaaDoor
open Go Go.RowKit

theorem bld_below {B b : Nat} {bs : List Value} {w w' : World} (hb : Below w.heap.size w w') (h : Lib.IsBuilder BldT 5 B b bs w) : Lib.IsBuilder BldT 5 B b bs w' := by
  have k : ∀ p, Lib.BuilderAt BldT 5 B b p bs w → Lib.BuilderAt BldT 5 B b p bs w' := fun p ⟨h1, v, h2, h3, h4⟩ =>
    ⟨h1, v, (hb.block b (Array.getElem?_eq_some_iff.1 h2).1).trans h2, own_below h3 hb, h4⟩
  exact h.imp (k _) (k _)
theorem wireTo_mono (l : List ByteArray) (k n : Nat) (h : k ≤ n) : (wireTo l k).size ≤ (wireTo l n).size := by
  induction n with
  | zero => rw [show k = 0 by omega]; exact Nat.le_refl _
  | succ n ih =>
    by_cases e : k = n + 1
    · rw [e]; exact Nat.le_refl _
    · refine Nat.le_trans (ih (by omega)) ?_
      conv => rhs; unfold wireTo
      split
      · simp only [ByteArray.size_append]; omega
      · exact Nat.le_refl _
theorem cells_of (s : ByteArray) : Lib.strCells s = Lib.byteCells s.data.toList := rfl
theorem itoa_nat (n : Nat) : (⟨(Lib.itoa (n : Int)).toArray⟩ : ByteArray) = decB n := by unfold decB Lib.itoa; rw [if_neg (by omega)]; simp

set_option maxRecDepth 100000 in
set_option maxHeartbeats 1000000 in
theorem implWirePut_any (a : Option Addr) (ca : Nat) (l : List ByteArray) (w : World) (hl : l.length ≤ 1048576) (hsum : sumSize l ≤ 1048576) (h : StrS w a l)
    (ht : Lib.TabIs Tryd.prog w "internal/strconv.uint64pow10" .u64 Lib.pow10Tab) :
    Calls Tryd.prog 17 #[.slice a l.length ca] w fun e w' => e = .returned (.string (putB l)) ∧ Below w.heap.size w w' := by
  go_enter Tryd.func17, Tryd.ntmps17
  go_wp2
  have F := Lib.hid (Lib.fresh_isBuilder BldT 5 w)
  go_loopw [9] (fun v9 wr => ∃ k : Nat, k ≤ l.length ∧ v9 = .int .i64 k ∧ (wireTo l k).size ≤ 2000 ∧ Lib.IsBuilder BldT 5 w.heap.size w.heap.size (Lib.byteCells (wireTo l k).data.toList) wr ∧ Below w.heap.size w wr) (fun v9 _ => l.length - (intOf v9).toNat)
  case atStart => exact ⟨0, Nat.zero_le _, rfl, show (⟨#[]⟩ : ByteArray).size ≤ 2000 by decide, F.out, (by repeat (first | exact Below.refl _ _ | (refine Below.alloc ?_ (by first | (simp; done) | (simp; omega)) _) | (refine Below.setCell ?_ (by first | (simp; done) | (simp; omega)) _) | (refine Below.drew ?_)))⟩
  case round =>
    obtain ⟨k, hk, rfl, hsz, hbd, hbel⟩ := hrel
    have HB := Lib.hid hbd
    clear hbd
    by_cases hlt : k < l.length
    · obtain ⟨b, o, rfl, hc⟩ := h.2.2.resolve_left (by intro e; subst e; simp at hlt)
      have hk2 : (k : Int) < (l.length : Int) := by omega
      have c0 : wr.cell? ⟨b, o + k, none⟩ = some (.string l[k]) := by
        rw [hbel.cell (by have := World.block_lt_of_cell? w _ (hc k hlt); simpa using this)]; exact hc k hlt
      have hs2 := sumSize_le l (k + 1)
      rw [sumSize_take l k hlt] at hs2
      have hd := decB_size l[k].size
      have HN := Lib.hid (wireTo_succ hlt)
      obtain ⟨acc, hacc⟩ : ∃ acc, acc = wireTo l k := ⟨_, rfl⟩
      rw [← hacc] at HN HB hsz
      obtain ⟨wd, hwd⟩ : ∃ wd, wd = l[k] := ⟨_, rfl⟩
      rw [← hwd] at HN c0 hd hs2
      obtain ⟨dg, hdg⟩ : ∃ dg, dg = decB wd.size := ⟨_, rfl⟩
      rw [← hdg] at HN hd
      have HDG := Lib.hid hdg
      have HTB := Lib.hid (show Lib.TabIs Tryd.prog wr "internal/strconv.uint64pow10" .u64 Lib.pow10Tab from tab_below ht hbel)
      have zr := hbel.size
      clear hacc hwd hdg
      go_wp2_with fail
      refine (Tryd.strconv_Itoa wd.size (by omega) (by omega) _ HTB.out).mono ?_
      rintro e w1 ⟨rfl, k1, os1, rfl⟩
      rw [itoa_nat, ← HDG.out]
      have b1 := below_grow wr k1 os1
      generalize Go.Sort.grow (wr.drewN k1) os1 = w1 at b1 ⊢
      have HB1 := Lib.hid (bld_below b1 HB.out)
      have hlen : (Lib.byteCells acc.data.toList).length = acc.size := by simp [Lib.byteCells_length]
      have z1 := b1.size
      have B1 := hbel.trans (b1.mono hbel.size)
      go_wp2_with fail
      refine (Tryd.Builder_Len w.heap.size w.heap.size _ w1 HB1.out).mono ?_
      rintro e w2 ⟨rfl, rfl⟩
      rw [hlen]
      by_cases hbig : 2000 < (acc.size : Int) + dg.size + wd.size + 2
      · have HP := Lib.hid (show putB l = ⟨#[]⟩ by
          unfold putB
          rw [if_neg]
          have h1 := wireTo_mono l (k + 1) l.length (by omega)
          rw [HN.out] at h1
          simp only [ByteArray.size_append, show (⟨#[58]⟩ : ByteArray).size = 1 from rfl, show (⟨#[44]⟩ : ByteArray).size = 1 from rfl] at h1
          omega)
        go_wp2
        go_ret
        exact ⟨ret_str HP.out.symm, B1⟩
      · have hle : (acc.size : Int) + dg.size + wd.size + 2 ≤ 2000 := by omega
        clear hbig
        have hlen2 : (Lib.byteCells acc.data.toList).length = acc.size := hlen
        go_wp2_with fail
        refine (writeStr_any w.heap.size w.heap.size _ dg _ HB1.out (by omega) B1.size).mono ?_
        rintro e w3 ⟨rfl, h3, b3⟩
        have H3 := Lib.hid h3
        have B3 := B1.trans b3
        clear h3 b3
        go_wp2_with fail
        refine (writeByte_any w.heap.size w.heap.size _ 58 _ (.inr H3.out) (by rw [List.length_append, hlen2, Lib.strCells_length]; omega) B3.size).mono ?_
        rintro e w4 ⟨rfl, h4, b4⟩
        have H4 := Lib.hid h4
        have B4 := B3.trans b4
        clear h4 b4
        go_wp2_with fail
        refine (writeStr_any w.heap.size w.heap.size _ wd _ (.inr H4.out) (by rw [List.length_append, List.length_append, hlen2, Lib.strCells_length]; simp; omega) B4.size).mono ?_
        rintro e w5 ⟨rfl, h5, b5⟩
        have H5 := Lib.hid h5
        have B5 := B4.trans b5
        clear h5 b5
        go_wp2_with fail
        refine (writeByte_any w.heap.size w.heap.size _ 44 _ (.inr H5.out) (by rw [List.length_append, List.length_append, List.length_append, hlen2, Lib.strCells_length, Lib.strCells_length]; simp; omega) B5.size).mono ?_
        rintro e w6 ⟨rfl, h6, b6⟩
        have H6 := Lib.hid h6
        have B6 := B5.trans b6
        clear h6 b6
        have H7 : Lib.IsBuilder BldT 5 w.heap.size w.heap.size (Lib.byteCells (wireTo l (k + 1)).data.toList) w6 := by
          rw [HN.out]
          have e : Lib.byteCells (acc ++ dg ++ ⟨#[58]⟩ ++ wd ++ ⟨#[44]⟩).data.toList = Lib.byteCells acc.data.toList ++ Lib.strCells dg ++ [.int .u8 58] ++ Lib.strCells wd ++ [.int .u8 44] := by
            simp [Lib.byteCells, Lib.strCells]
          rw [e]
          exact .inr H6.out
        have H8 := Lib.hid H7
        have hsz2 : (wireTo l (k + 1)).size ≤ 2000 := by
          rw [HN.out]
          simp only [ByteArray.size_append, show (⟨#[58]⟩ : ByteArray).size = 1 from rfl, show (⟨#[44]⟩ : ByteArray).size = 1 from rfl]
          omega
        clear H7
        go_wp2
        go_roundw
        case rel => exact ⟨k + 1, by omega, by go_num, hsz2, H8.out, B6⟩
        case measure => simp [intOf]; omega
    · have e : k = l.length := by omega
      subst e
      have HP := Lib.hid (show putB l = wireTo l l.length by unfold putB; rw [if_pos hsz])
      go_wp2_with fail
      refine (Tryd.Builder_String_any w.heap.size w.heap.size _ _ HB.out hbel.size).mono ?_
      rintro e w2 ⟨rfl, b2⟩
      have B2 := hbel.trans b2
      go_wp2
      go_ret
      exact ⟨ret_str (by rw [HP.out]), B2⟩
end Go.Proofs.YtakcmjnfkcoilaaDoor
