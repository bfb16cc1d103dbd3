import Derived.Test.YtgjfflfldddebaaDoorFrameGI
import Derived.Lib.SmallJoins
/- FrameGet of the program: the pieces put together. -/
namespace Go.Proofs.YtgjfflfldddebaaDoor
open Go Go.RowKit

theorem bld_belowF {B b : Nat} {bs : List Value} {w w' : World} (hb : Below w.heap.size w w') (h : Lib.IsBuilder BldT 5 B b bs w) : Lib.IsBuilder BldT 5 B b bs w' := by
  have k : ∀ p, Lib.BuilderAt BldT 5 B b p bs w → Lib.BuilderAt BldT 5 B b p bs w' := fun p ⟨h1, v, h2, h3, h4⟩ =>
    ⟨h1, v, (hb.block b (Array.getElem?_eq_some_iff.1 h2).1).trans h2, own_below h3 hb, h4⟩
  exact h.imp (k _) (k _)
theorem ret_sb {a b : ByteArray} {c d : Bool} (h : a = b) (k : c = d) : Ending.returned (.tuple #[.string a, .bool c]) = .returned (.tuple #[.string b, .bool d]) := by rw [h, k]
def JoinOut (t n : Int) (l : List ByteArray) (w : World) (e : Ending) (w' : World) : Prop := e = .returned (.tuple #[.string (joinI t n l).1, .bool (joinI t n l).2]) ∧ Below w.heap.size w w'
theorem joinOut_no {t n : Int} {l : List ByteArray} {w w' : World} (h : joinI t n l = (⟨#[]⟩, false)) (b : Below w.heap.size w w') : JoinOut t n l w (.returned (.tuple #[.string ⟨#[]⟩, .bool false])) w' := by
  unfold JoinOut; rw [h]; exact ⟨rfl, b⟩

set_option maxRecDepth 100000 in
set_option maxHeartbeats 2000000 in
theorem frameJoin_any (t n : Int) (ht : -9223372036854775808 ≤ t ∧ t ≤ 9223372036854775807) (hn : -9223372036854775808 ≤ n ∧ n ≤ 9223372036854775807) (a : Option Addr) (c : Nat) (l : List ByteArray) (w : World) (hl : StrS w a l) (hlen : l.length ≤ 1048576) (hz : sumSize l ≤ 1048576)
    (htab : Lib.TabIs Tryd.prog w "internal/strconv.uint64pow10" .u64 Lib.pow10Tab) :
    Calls Tryd.prog 33 #[.int .i64 t, .int .i64 n, .slice a l.length c] w (JoinOut t n l w) := by
  have HT := Lib.hid htab
  have HX := Lib.hid hl
  clear htab hl
  have F := Lib.hid (Lib.fresh_isBuilder BldT 5 w)
  go_enter Tryd.func33, Tryd.ntmps33
  go_wp2
  go_loopg [15] l.length (fun r v15 wr => ∃ k : Nat, k + r = l.length ∧ v15 = .int .i64 k ∧ (∀ j, (hj : j < l.length) → j < k → okP t n l.length j l[j] = true) ∧ Lib.IsBuilder BldT 5 w.heap.size w.heap.size (Lib.byteCells (catP t n l.length l k).data.toList) wr ∧ Below w.heap.size w wr)
  case atStart => exact ⟨0, by omega, rfl, fun j _ h => absurd h (by omega), F.out, (by repeat (first | exact Below.refl _ _ | (refine Below.alloc ?_ (by first | (simp; done) | (simp; omega)) _) | (refine Below.setCell ?_ (by first | (simp; done) | (simp; omega)) _) | (refine Below.drew ?_)))⟩
  case round =>
    obtain ⟨k, hkr, rfl, hok, hbd, hbel⟩ := hrel
    have HB := Lib.hid hbd
    have HKR := Lib.hid hkr
    have HOK := Lib.hid hok
    have hbz := hbel.size
    have hBB := Lib.hid hbel
    have hcs := catP_size t n l.length l k (by omega)
    have hcs2 := sumSize_le l k
    clear hbd hok
    by_cases hlt : k < l.length
    · obtain ⟨b, o, rfl, hc⟩ := HX.out.2.2.resolve_left (by intro e; subst e; simp at hlt)
      have hk2 : (k : Int) < (l.length : Int) := by omega
      have hk0 : (0 : Int) ≤ (k : Int) := by omega
      have hs2 := sumSize_le l (k + 1)
      rw [sumSize_take l k hlt] at hs2
      have hlw : b < w.heap.size := by have := World.block_lt_of_cell? w _ (hc k hlt); simpa using this
      have c0 : wr.cell? ⟨b, o + k, none⟩ = some (.string l[k]) := by
        rw [hbel.cell (by simpa using hlw)]; exact hc k hlt
      have HN := Lib.hid (catP_succ t n l.length (l := l) (k := k) hlt)
      have HNO := Lib.hid (show okP t n l.length k l[k] = false → joinI t n l = (⟨#[]⟩, false) from joinI_no hlt)
      have HOKN := Lib.hid (show okP t n l.length k l[k] = true → ∀ j, (hj : j < l.length) → j < k + 1 → okP t n l.length j l[j] = true from fun h j hj hj2 => by
        by_cases e : j = k
        · subst e; exact h
        · exact HOK.out j hj (by omega))
      obtain ⟨wd, hwd⟩ : ∃ wd, wd = l[k] := ⟨_, rfl⟩
      rw [← hwd] at HN c0 hs2 HNO HOKN
      clear hwd hc hkr hbel
      by_cases h16 : wd.size < 16
      · have h16i : (wd.size : Int) < 16 := by omega
        have HJ := Lib.hid (HNO.out (by unfold okP; rw [decide_eq_false (show ¬ 16 ≤ wd.size by omega)]; rfl))
        clear h16
        go_wp2
        go_ret2
        exact joinOut_no HJ.out hBB.out
      · have h16i : (16 : Int) ≤ (wd.size : Int) := by omega
        have h16d : decide ((wd.size : Int) < 16) = false := decide_eq_false (by omega)
        have HTB := Lib.hid (tab_below HT.out hBB.out.drew)
        obtain ⟨x, hx⟩ : ∃ x, x = wd.extract 16 wd.size := ⟨_, rfl⟩
        have HXX := Lib.hid hx
        have hxs : x.size ≤ wd.size := by rw [hx, ByteArray.size_extract]; omega
        have HOP := Lib.hid (show okP t n l.length k wd = hasB x (headI t n k l.length) by unfold okP; rw [decide_eq_true (show 16 ≤ wd.size by omega), hx]; rfl)
        have HPP := Lib.hid (show pieceP t n l.length k wd = trimB x (headI t n k l.length) by unfold pieceP; rw [hx])
        have hts := trimB_size x (headI t n k l.length)
        clear hx h16
        go_wp2_with fail
        go_region_held3 (fun _ => True) (trivial) ((first
          | (go_at_call 49; refine (frameHead_any t n k l.length ht hn (by omega) (by omega) _ HTB.out).mono ?_; rintro e w5 ⟨rfl, b5⟩; have hB5 := Lib.hid (hBB.out.drew.trans (b5.mono hBB.out.drew.size)); have hW5 := Lib.hid (bld_belowF b5 (bld_belowF (w := wr) (w' := wr.drew) ((Below.refl _ _).drew) HB.out)); clear b5)
          | (go_at_call 55; refine (cutPre_any _ _ _).mono ?_; rintro e w6 ⟨rfl, rfl⟩)))
        rw [← HXX.out]
        have HPP2 := Lib.hid HPP.out.symm
        have HOP2 := Lib.hid HOP.out.symm
        generalize trimB x (headI t n k l.length) = pc at HPP2 hts ⊢
        generalize hasB x (headI t n k l.length) = okb at HOP2 ⊢
        clear HPP HOP
        cases hb : okb with
        | false =>
          have HJ := Lib.hid (HNO.out (by rw [← HOP2.out, hb]))
          clear hb
          go_wp2
          go_ret2
          exact joinOut_no HJ.out hB5.out
        | true =>
          have HG := Lib.hid (HOKN.out (by rw [← HOP2.out, hb]))
          clear hb
          have hlen2 : (Lib.byteCells (catP t n l.length l k).data.toList).length = (catP t n l.length l k).size := by simp [Lib.byteCells_length]
          have HLEN := Lib.hid hlen2
          clear hlen2
          go_wp2_with fail
          refine (writeStr_any w.heap.size w.heap.size _ pc _ hW5.out (by rw [HLEN.out]; omega) hB5.out.size).mono ?_
          rintro e w7 ⟨rfl, h7, b7⟩
          have B7 := Lib.hid (hB5.out.trans b7)
          have H7 := Lib.hid (show Lib.IsBuilder BldT 5 w.heap.size w.heap.size (Lib.byteCells (catP t n l.length l (k + 1)).data.toList) w7 by
            rw [HN.out, ← HPP2.out]
            have e : Lib.byteCells (catP t n l.length l k ++ pc).data.toList = Lib.byteCells (catP t n l.length l k).data.toList ++ Lib.strCells pc := by simp [Lib.byteCells, Lib.strCells]
            rw [e]
            exact .inr h7)
          clear h7 b7
          go_wp2
          go_roundg (gk - 1)
          case measure => have := HKR.out; omega
          case rel => exact ⟨k + 1, by have := HKR.out; omega, by go_num, HG.out, H7.out, B7.out⟩
    · have e : k = l.length := by omega
      have HJ := Lib.hid (show joinI t n l = (catP t n l.length l l.length, true) from joinI_yes (fun i hi => HOK.out i hi (by omega)))
      subst e
      clear hkr hbel
      go_wp2_with fail
      refine (Tryd.Builder_String_any w.heap.size w.heap.size _ _ HB.out hBB.out.size).mono ?_
      rintro e w2 ⟨rfl, b2⟩
      have B2 := Lib.hid (hBB.out.trans b2)
      clear b2
      go_wp2
      go_ret2
      exact ⟨ret_sb (by rw [HJ.out]) (by rw [HJ.out]), B2.out⟩
end Go.Proofs.YtgjfflfldddebaaDoor
