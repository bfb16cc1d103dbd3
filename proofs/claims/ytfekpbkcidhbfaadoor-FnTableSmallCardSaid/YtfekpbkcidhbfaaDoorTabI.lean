import Derived.Test.YtfekpbkcidhbfaaDoorTabM
/- TableMake of the program. -/
namespace Go.Proofs.YtfekpbkcidhbfaaDoor
open Go Go.RowKit

theorem bld_keptT {S : Nat → Prop} {B b : Nat} {bs : List Value} {w w' : World} (hk : KeptOut S w w') (hS : ∀ k, S k → k < B) (h : Lib.IsBuilder BldT 5 B b bs w) : Lib.IsBuilder BldT 5 B b bs w' := by
  have k : ∀ p, Lib.BuilderAt BldT 5 B b p bs w → Lib.BuilderAt BldT 5 B b p bs w' := fun p ⟨h1, v, h2, h3, h4⟩ =>
    ⟨h1, v, (hk.block b (Array.getElem?_eq_some_iff.1 h2).1 (fun q => by have := hS b q; omega)).trans h2, own_kept h3 hk (fun c hc q => by have := hS c q; have := (h3.lt c hc).1; omega), h4⟩
  exact h.imp (k _) (k _)
theorem bld_belowT {B b : Nat} {bs : List Value} {w w' : World} (hb : Below w.heap.size w w') (h : Lib.IsBuilder BldT 5 B b bs w) : Lib.IsBuilder BldT 5 B b bs w' := by
  have k : ∀ p, Lib.BuilderAt BldT 5 B b p bs w → Lib.BuilderAt BldT 5 B b p bs w' := fun p ⟨h1, v, h2, h3, h4⟩ =>
    ⟨h1, v, (hb.block b (Array.getElem?_eq_some_iff.1 h2).1).trans h2, own_below h3 hb, h4⟩
  exact h.imp (k _) (k _)
theorem keys_take (l : List EntryD) (k : Nat) : keysE (l.take k) = (keysE l).take k := by unfold keysE; rw [List.map_take]
theorem bitK_nextE {l : List EntryD} {k : Nat} (h : k < l.length) : stepF (bitK ((keysE l).take k)) (shaS l[k].1) 3 = bitK ((keysE l).take (k + 1)) := by
  have hk : k < (keysE l).length := by unfold keysE; rwa [List.length_map]
  rw [← bitK_next hk]
  congr 2
  simp [keysE]
set_option maxRecDepth 100000 in
set_option maxHeartbeats 8000000 in
theorem implTable_any (a : Option Addr) (ca : Nat) (l : List EntryD) (w : World) (hl : ElS 4 encEntry w a l) (hok : ∀ x ∈ l, OkEntry x) (ht : HashT w) (htab : Lib.TabIs Tryd.prog w "internal/strconv.uint64pow10" .u64 Lib.pow10Tab) :
    Calls Tryd.prog 8 #[.slice a l.length ca] w fun e w' => e = .returned (.string (tableV l)) ∧ Below w.heap.size w w' := by
  have HT := Lib.hid ht
  have HP := Lib.hid htab
  clear ht htab
  cases h : entsB l with
  | false =>
    have HN := Lib.hid (tableV_no h)
    have H := Lib.hid h
    clear h
    go_enter Tryd.func8, Tryd.ntmps8
    go_wp2_with fail
    refine (implEntries_any _ _ l _ hl hok).mono ?_
    rintro e w1 ⟨rfl, b1⟩
    rw [H.out]
    go_wp2
    go_ret
    exact ⟨by rw [HN.out]; rfl, b1⟩
  | true =>
    have hn := (entsB_at h).1
    have HL := Lib.hid hl
    have HE := Lib.hid h
    clear hl
    go_enter Tryd.func8, Tryd.ntmps8
    go_wp2_with fail
    refine (implEntries_any _ _ l _ HL.out hok).mono ?_
    rintro e w1 ⟨rfl, b1⟩
    rw [h]
    clear h
    have B1 := Lib.hid b1
    clear b1
    obtain ⟨w2, hw2⟩ : ∃ W, (w1.alloc (.cells #[.int .u8 0, .int .u8 0, .int .u8 0, .int .u8 0, .int .u8 0, .int .u8 0, .int .u8 0, .int .u8 0, .int .u8 0, .int .u8 0, .int .u8 0, .int .u8 0, .int .u8 0, .int .u8 0, .int .u8 0, .int .u8 0] 40)).alloc (.cells #[.pointer none, .slice none 0 0] 43) = W := ⟨_, rfl⟩
    have X2 := Lib.hid (show Box w2 w1.heap.size (figV (bitK ((keysE l).take 0))) by
      rw [← hw2]
      exact (show Box (w1.alloc (.cells #[.int .u8 0, .int .u8 0, .int .u8 0, .int .u8 0, .int .u8 0, .int .u8 0, .int .u8 0, .int .u8 0, .int .u8 0, .int .u8 0, .int .u8 0, .int .u8 0, .int .u8 0, .int .u8 0, .int .u8 0, .int .u8 0] 40)) w1.heap.size (figV (bitK ((keysE l).take 0))) from Box.alloc w1 #[.int .u8 0, .int .u8 0, .int .u8 0, .int .u8 0, .int .u8 0, .int .u8 0, .int .u8 0, .int .u8 0, .int .u8 0, .int .u8 0, .int .u8 0, .int .u8 0, .int .u8 0, .int .u8 0, .int .u8 0, .int .u8 0] 40).below (below_alloc _ _))
    have D2 := Lib.hid (show Lib.IsBuilder BldT 5 (w1.heap.size + 1) (w1.heap.size + 1) (Lib.byteCells (linesTo l 0).data.toList) w2 by
      have g := Lib.fresh_isBuilder 43 5 (w1.alloc (.cells #[.int .u8 0, .int .u8 0, .int .u8 0, .int .u8 0, .int .u8 0, .int .u8 0, .int .u8 0, .int .u8 0, .int .u8 0, .int .u8 0, .int .u8 0, .int .u8 0, .int .u8 0, .int .u8 0, .int .u8 0, .int .u8 0] 40))
      rw [World.size_alloc] at g
      rw [← hw2]
      exact g)
    have B2 := Lib.hid (show Below w.heap.size w w2 by rw [← hw2]; exact (B1.out.alloc B1.out.size _).alloc (by rw [World.size_alloc]; have := B1.out.size; omega) _)
    have Z2 := Lib.hid (show w1.heap.size + 2 ≤ w2.heap.size by rw [← hw2]; simp)
    go_wp2
    clear hw2
    go_loopg [14, 7] l.length (fun q v14 v7 wr => ∃ k : Nat, k + q = l.length ∧ v14 = .int .i64 k ∧ Box wr w1.heap.size (figV (bitK ((keysE l).take k))) ∧ Lib.IsBuilder BldT 5 (w1.heap.size + 1) (w1.heap.size + 1) (Lib.byteCells (linesTo l k).data.toList) wr ∧ Below w.heap.size w wr ∧ w1.heap.size + 2 ≤ wr.heap.size)
    case atStart => exact ⟨0, by omega, rfl, X2.out, D2.out, B2.out, Z2.out⟩
    case round =>
      clear X2 D2 B2 Z2
      obtain ⟨k, hk, rfl, hx, hd, hb, hz⟩ := hrel
      have HK := Lib.hid hk
      have HX := Lib.hid hx
      have HD := Lib.hid hd
      have HB := Lib.hid hb
      have HZ := Lib.hid hz
      clear hk hx hd hb hz
      by_cases hlt : k < l.length
      · have hl0 : l ≠ [] := fun e => by rw [e] at hlt; simp at hlt
        obtain ⟨ba, oa, rfl, hc⟩ := HL.out.2.resolve_left hl0
        obtain ⟨c0, c1, c2, c3⟩ := cellsEntry HB.out hc k hlt
        have KC := Lib.hid hc
        have i1 : (k : Int) < (l.length : Int) := by omega
        have i2 : (0 : Int) ≤ (k : Int) := by omega
        have HN := Lib.hid (linesTo_next hlt)
        have HEK := Lib.hid ((entsB_at HE.out).2.1 k hlt)
        have sl := linesTo_size HE.out k (by omega)
        have sll := lineB_size (lastK l k) HEK.out
        have seb := ent_bounds HEK.out
        have HLS := Lib.hid (lastK_size HE.out hlt)
        have HBN := Lib.hid (bitK_nextE hlt)
        obtain ⟨t, ht⟩ : ∃ t, linesTo l k = t := ⟨_, rfl⟩
        rw [ht] at HN sl HD
        obtain ⟨⟨x0, x1, x2, x3⟩, hxk⟩ : ∃ x, l[k] = x := ⟨_, rfl⟩
        rw [hxk] at c0 c1 c2 c3 HN HEK sll seb HBN
        dsimp only at c0 c1 c2 c3 sll seb HBN
        obtain ⟨w3, hw3⟩ : ∃ W, wr.alloc (.cells #[.string x0, .int .i64 x1, .bool x2, .string x3] 32) = W := ⟨_, rfl⟩
        have b3 : Below wr.heap.size wr w3 := by rw [← hw3]; exact below_alloc _ _
        have Y3 := Lib.hid (show Box w3 wr.heap.size [.string x0, .int .i64 x1, .bool x2, .string x3] by rw [← hw3]; exact Box.alloc wr _ _)
        have X3 := Lib.hid (HX.out.below b3)
        have D3 := Lib.hid (bld_belowT b3 HD.out)
        have B3 := Lib.hid (HB.out.trans (b3.mono HB.out.size))
        have Z3 := Lib.hid (show w1.heap.size + 2 ≤ wr.heap.size ∧ wr.heap.size < w3.heap.size from ⟨HZ.out, by rw [← hw3]; simp⟩)
        have y0 := (Y3.out 0 _ rfl).1
        clear ht hl0 hxk b3 HX HD HB HZ hc
        by_cases hr : k % 4 = 0
        · have HLZ := Lib.hid (lastK_zero (l := l) hr)
          rw [HLZ.out] at HN sll HLS
          have i3 : ((k : Int)).tmod 4 = 0 := by rw [Int.tmod_eq_emod_of_nonneg (by omega)]; omega
          have i4 : (k : Int) % 4 = 0 := by omega
          clear hr
          go_wp2_with fail
          clear hw3 c0 c1 c2 c3 y0
          refine (add_is rfl HBN.out (by omega) w3 (HT.out.below B3.out) X3.out).mono ?_
          rintro e w4 ⟨⟨v4, rfl⟩, x4, k4⟩
          have X4 := Lib.hid x4
          have D4 := Lib.hid (bld_keptT k4 (fun q hq => by omega) D3.out)
          have Y4 := Y3.out.kept k4 (by have := Z3.out; omega)
          have B4 := Lib.hid (k4.below B3.out B3.out.size (fun q hq => by have := B1.out.size; omega))
          have Z4 := Lib.hid k4.size
          obtain ⟨⟨y0, -⟩, ⟨y1, -⟩, ⟨y2, -⟩, y3, -⟩ := show _ ∧ _ ∧ _ ∧ _ from ⟨Y4 0 _ rfl, Y4 1 _ rfl, Y4 2 _ rfl, Y4 3 _ rfl⟩
          clear x4 k4 Y4 X3 D3 B3 Y3
          go_wp2_with fail
          clear y0 y1 y2 y3
          obtain ⟨ln, hln⟩ : ∃ ln, lineB ⟨#[]⟩ (x0, x1, x2, x3) = ln := ⟨_, rfl⟩
          rw [hln] at HN sll
          have HLN := Lib.hid hln
          clear hln
          refine (lineI_any ⟨#[]⟩ x0 x1 x2 x3 HLS.out HEK.out w4 (tab_below HP.out B4.out)).mono ?_
          rw [HLN.out]
          rintro e w5 ⟨rfl, b⟩
          have X5 := Lib.hid (X4.out.below b)
          have D5 := Lib.hid (bld_belowT b D4.out)
          have B5 := Lib.hid (B4.out.trans (b.mono B4.out.size))
          have Z5 := Lib.hid b.size
          clear b X4 D4 B4
          go_wp2_with fail
          refine (writeStr_any (w1.heap.size + 1) (w1.heap.size + 1) _ ln w5 D5.out (by rw [Lib.byteCells_length]; simp; omega) (by have := Z3.out; have := Z4.out; have := Z5.out; omega)).mono ?_
          rintro e w6 ⟨rfl, hb6, b⟩
          have X6 := Lib.hid (X5.out.kept (S := fun q => w1.heap.size + 1 ≤ q) ⟨b.os, b.tape, b.output, b.size, fun q hq hn => b.block q (by omega)⟩ (by omega))
          have D6 := Lib.hid (show Lib.IsBuilder BldT 5 (w1.heap.size + 1) (w1.heap.size + 1) (Lib.byteCells (linesTo l (k + 1)).data.toList) w6 by
            rw [HN.out, show Lib.byteCells (t ++ ln).data.toList = Lib.byteCells t.data.toList ++ Lib.strCells ln by simp [Lib.byteCells, Lib.strCells]]
            exact .inr hb6)
          have B6 := Lib.hid (B5.out.trans (b.mono (by have := B1.out.size; omega)))
          have Z6 := Lib.hid b.size
          clear b hb6 X5 D5 B5
          go_wp2
          go_roundg (gk - 1)
          case measure => have := HK.out; omega
          case rel => exact ⟨k + 1, by have := HK.out; omega, by go_num, X6.out, D6.out, B6.out, by have := Z3.out; have := Z4.out; have := Z5.out; have := Z6.out; omega⟩
        · obtain ⟨j, hj⟩ : ∃ j, j = k - 1 := ⟨_, rfl⟩
          have hjl : j < l.length := by omega
          have HLZ := Lib.hid (lastK_pos (l := l) hr hj hjl)
          have e0 := (cellsEntry B3.out KC.out j hjl).1
          rw [HLZ.out] at HN sll HLS
          obtain ⟨la, hla⟩ : ∃ la, l[j].1 = la := ⟨_, rfl⟩
          rw [hla] at HN sll HLS e0
          have i3 : ¬ ((k : Int)).tmod 4 = 0 := by rw [Int.tmod_eq_emod_of_nonneg (by omega)]; omega
          have i4 : ¬ (k : Int) % 4 = 0 := by omega
          have i5 : (k : Int) - 1 = (j : Int) := by omega
          have i6 : (0 : Int) ≤ (j : Int) := by omega
          have i7 : (j : Int) < (l.length : Int) := by omega
          clear hr hj hla
          go_wp2_with fail
          clear e0
          clear hw3 c0 c1 c2 c3 y0
          refine (add_is rfl HBN.out (by omega) w3 (HT.out.below B3.out) X3.out).mono ?_
          rintro e w4 ⟨⟨v4, rfl⟩, x4, k4⟩
          have X4 := Lib.hid x4
          have D4 := Lib.hid (bld_keptT k4 (fun q hq => by omega) D3.out)
          have Y4 := Y3.out.kept k4 (by have := Z3.out; omega)
          have B4 := Lib.hid (k4.below B3.out B3.out.size (fun q hq => by have := B1.out.size; omega))
          have Z4 := Lib.hid k4.size
          obtain ⟨⟨y0, -⟩, ⟨y1, -⟩, ⟨y2, -⟩, y3, -⟩ := show _ ∧ _ ∧ _ ∧ _ from ⟨Y4 0 _ rfl, Y4 1 _ rfl, Y4 2 _ rfl, Y4 3 _ rfl⟩
          clear x4 k4 Y4 X3 D3 B3 Y3
          go_wp2_with fail
          clear y0 y1 y2 y3
          obtain ⟨ln, hln⟩ : ∃ ln, lineB la (x0, x1, x2, x3) = ln := ⟨_, rfl⟩
          rw [hln] at HN sll
          have HLN := Lib.hid hln
          clear hln
          refine (lineI_any la x0 x1 x2 x3 HLS.out HEK.out w4 (tab_below HP.out B4.out)).mono ?_
          rw [HLN.out]
          rintro e w5 ⟨rfl, b⟩
          have X5 := Lib.hid (X4.out.below b)
          have D5 := Lib.hid (bld_belowT b D4.out)
          have B5 := Lib.hid (B4.out.trans (b.mono B4.out.size))
          have Z5 := Lib.hid b.size
          clear b X4 D4 B4
          go_wp2_with fail
          refine (writeStr_any (w1.heap.size + 1) (w1.heap.size + 1) _ ln w5 D5.out (by rw [Lib.byteCells_length]; simp; omega) (by have := Z3.out; have := Z4.out; have := Z5.out; omega)).mono ?_
          rintro e w6 ⟨rfl, hb6, b⟩
          have X6 := Lib.hid (X5.out.kept (S := fun q => w1.heap.size + 1 ≤ q) ⟨b.os, b.tape, b.output, b.size, fun q hq hn => b.block q (by omega)⟩ (by omega))
          have D6 := Lib.hid (show Lib.IsBuilder BldT 5 (w1.heap.size + 1) (w1.heap.size + 1) (Lib.byteCells (linesTo l (k + 1)).data.toList) w6 by
            rw [HN.out, show Lib.byteCells (t ++ ln).data.toList = Lib.byteCells t.data.toList ++ Lib.strCells ln by simp [Lib.byteCells, Lib.strCells]]
            exact .inr hb6)
          have B6 := Lib.hid (B5.out.trans (b.mono (by have := B1.out.size; omega)))
          have Z6 := Lib.hid b.size
          clear b hb6 X5 D5 B5
          go_wp2
          go_roundg (gk - 1)
          case measure => have := HK.out; omega
          case rel => exact ⟨k + 1, by have := HK.out; omega, by go_num, X6.out, D6.out, B6.out, by have := Z3.out; have := Z4.out; have := Z5.out; have := Z6.out; omega⟩
      · have hke : k = l.length := by have := HK.out; omega
        have i1 : ¬ (k : Int) < (l.length : Int) := by omega
        have HXF := Lib.hid (show Box wr w1.heap.size (figV (bitK (keysE l))) by
          have g := HX.out
          rwa [List.take_of_length_le (by unfold keysE; rw [List.length_map]; omega)] at g)
        have sl := linesTo_size HE.out k (by omega)
        obtain ⟨t, ht⟩ : ∃ t, linesTo l k = t := ⟨_, rfl⟩
        rw [ht] at HD sl
        obtain ⟨d, hd⟩ : ∃ d, decI (l.length : Nat) = d := ⟨_, rfl⟩
        obtain ⟨bt, hbt⟩ : ∃ b, bloomB (bitK (keysE l)) = b := ⟨_, rfl⟩
        have sd : d.size ≤ 21 := by rw [← hd]; exact decI_size (by omega) (by omega)
        have sb : bt.size = 16 := by rw [← hbt]; exact bloomB_size _
        have HTB := Lib.hid (show tableB l = ⟨#[116, 97, 98, 108, 101, 32]⟩ ++ d ++ ⟨#[32]⟩ ++ bt ++ ⟨#[10]⟩ ++ t by unfold tableB headB headA spB nlB; rw [hd, hbt, ← hke, ht])
        have HDD := Lib.hid (fun W (h : Lib.TabIs Tryd.prog W "internal/strconv.uint64pow10" .u64 Lib.pow10Tab) => itoaI_any (n := (l.length : Int)) (by omega) (by omega) W h)
        rw [hd] at HDD
        have HBT := Lib.hid (fun W (g : Box W w1.heap.size (figV (bitK (keysE l)))) => bloomText_any w1.heap.size (bitK (keysE l)) W g)
        rw [hbt] at HBT
        have f1 : ¬ 9223372036854775807 < 6 + d.size := by omega
        have f2 : ¬ 9223372036854775807 < 6 + d.size + 1 := by omega
        have f3 : ¬ 9223372036854775807 < 6 + d.size + 1 + bt.size := by omega
        have f4 : ¬ 9223372036854775807 < 6 + d.size + 1 + bt.size + 1 := by omega
        have f5 : ¬ 9223372036854775807 < 6 + d.size + 1 + bt.size + 1 + t.size := by omega
        have hts : (tableB l).size = 6 + d.size + 1 + bt.size + 1 + t.size := by
          rw [HTB.out]
          simp only [ByteArray.size_append]
          rfl
        clear hd hbt ht hke HX
        go_wp2_with fail
        refine (HDD.out _ (tab_below HP.out HB.out)).mono ?_
        rintro e w5 ⟨rfl, b⟩
        have X5 := Lib.hid (HXF.out.below b)
        have D5 := Lib.hid (bld_belowT b HD.out)
        have B5 := Lib.hid (HB.out.trans (b.mono HB.out.size))
        have Z5 := Lib.hid (Nat.le_trans HZ.out b.size)
        clear b HXF HD HB
        go_wp2_with fail
        refine (HBT.out _ X5.out).mono ?_
        rintro e w6 ⟨rfl, b⟩
        have D6 := Lib.hid (bld_belowT b D5.out)
        have B6 := Lib.hid (B5.out.trans (b.mono B5.out.size))
        have Z6 := Lib.hid (Nat.le_trans Z5.out b.size)
        clear b X5 D5 B5
        go_wp2_with fail
        refine (Tryd.Builder_String_any (w1.heap.size + 1) (w1.heap.size + 1) _ _ D6.out (by have := Z6.out; omega)).mono ?_
        rintro e w7 ⟨rfl, b⟩
        have B7 := Lib.hid (B6.out.trans (b.mono (by have := B1.out.size; omega)))
        clear b D6 B6
        by_cases hbig : (tableB l).size ≤ 7000
        · have HV := Lib.hid ((tableV_yes HE.out hbig).trans HTB.out)
          have i7 : ¬ (7000 : Int) < (6 : Int) + (d.size : Int) + 1 + (bt.size : Int) + 1 + (t.size : Int) := by omega
          clear hts hbig
          go_wp2
          go_ret
          exact ⟨by rw [HV.out]; rfl, B7.out⟩
        · have HV := Lib.hid (tableV_long HE.out hbig)
          have i7 : (7000 : Int) < (6 : Int) + (d.size : Int) + 1 + (bt.size : Int) + 1 + (t.size : Int) := by omega
          clear hts hbig
          go_wp2
          go_ret
          exact ⟨by rw [HV.out]; rfl, B7.out⟩
end Go.Proofs.YtfekpbkcidhbfaaDoor
