import Derived.Test.YtjbkhamfingoiaaDriveOps
/- What a disk at work does that turns it: write, flush, crash. -/
namespace Go.Proofs.Ytjbkhamfingoiaa
open Go Go.RowKit

def dWrite (d : DiskD) (n : Int) (s : ByteArray) : DiskD := if d.2.2 = 0 then d else (d.1, d.2.1 ++ [(n, s)], spendL d.2.2)
def setAt (bl : List ByteArray) (x : WaitD) : List ByteArray := bl.set x.1.toNat x.2
/-- the blocks bl, the first j of what waits done, those that f picks -/
def upTo (f : Nat → Bool) (l : List WaitD) (bl : List ByteArray) : Nat → List ByteArray
  | 0 => bl
  | j + 1 => match l[j]? with
    | some x => if f j then setAt (upTo f l bl j) x else upTo f l bl j
    | none => upTo f l bl j
theorem upTo_yes {f : Nat → Bool} {l : List WaitD} {bl : List ByteArray} {j : Nat} (h : j < l.length) (e : f j = true) : upTo f l bl (j + 1) = setAt (upTo f l bl j) l[j] := by
  simp [upTo, List.getElem?_eq_getElem h, e]
theorem upTo_no {f : Nat → Bool} {l : List WaitD} {bl : List ByteArray} {j : Nat} (h : j < l.length) (e : f j = false) : upTo f l bl (j + 1) = upTo f l bl j := by
  simp [upTo, List.getElem?_eq_getElem h, e]
theorem upTo_len (f : Nat → Bool) (l : List WaitD) (bl : List ByteArray) : ∀ j, (upTo f l bl j).length = bl.length
  | 0 => rfl
  | j + 1 => by
    unfold upTo
    cases l[j]? with
    | none => exact upTo_len f l bl j
    | some x =>
      by_cases h : f j = true
      · simp [h, setAt, upTo_len f l bl j]
      · simp [h, upTo_len f l bl j]
def allB (_ : Nat) : Bool := true
def bitB (mask : Nat) (j : Nat) : Bool := mask.testBit (j % 60)
def dFlush (d : DiskD) : DiskD := if d.2.2 = 0 then d else (upTo allB d.2.1 d.1 d.2.1.length, [], spendL d.2.2)
def dCrash (mask : Nat) (d : DiskD) : DiskD := (upTo (bitB mask) d.2.1 d.1 d.2.1.length, [], -1)

theorem Drive.block {w : World} {base P : Nat} {nb : List Nat} {d : DiskD} (h : Drive w base P nb d) (n : Nat) (hn : n < 140) (s : ByteArray) : Drive (w.setCell ⟨P, n, none⟩ (.string s)) base P nb (d.1.set n s, d.2.1, d.2.2) := by
  refine ⟨by simp [h.len], h.nlen, h.ge, h.lt, h.asc, ?_, fun j b x hb hx => (h.node j b x hb hx).other _ (by have := h.lt b (List.mem_of_getElem? hb); simp; omega)⟩
  have := h.box.set (i := n) (.string s) (by simp [h.len]; omega)
  rw [List.set_append_left _ _ (by simp [h.len]; omega)] at this
  rwa [← List.map_set] at this
theorem Drive.clear {w : World} {base P : Nat} {nb : List Nat} {d : DiskD} (h : Drive w base P nb d) : Drive ((w.setCell ⟨P, 140, none⟩ (ptrTo none)).setCell ⟨P, 141, none⟩ (ptrTo none)) base P [] (d.1, [], d.2.2) := by
  refine ⟨h.len, rfl, h.ge, by simp, by simp, ?_, by simp⟩
  have := (h.box.set (i := 140) (ptrTo none) (by simp [h.len])).set (i := 141) (ptrTo none) (by simp [h.len])
  rwa [(tail_set (by simp [h.len]) _ _ _ _).1, (tail_set (by simp [h.len]) _ _ _ _).2.1] at this

theorem and_one (a : Nat) (ha : a < 9223372036854775808) : bits .and .i64 (a : Int) 1 = ((a % 2 : Nat) : Int) := by
  have h1 : (BitVec.ofInt 64 (a : Int)).toNat = a := by
    rw [BitVec.ofInt_natCast, BitVec.toNat_ofNat]; exact Nat.mod_eq_of_lt (by omega)
  show IntKind.i64.wrap ((BitVec.ofInt 64 (a : Int) &&& BitVec.ofInt 64 1).toNat : Int) = _
  rw [BitVec.toNat_and, h1, show (BitVec.ofInt 64 1).toNat = 1 from rfl, Nat.and_one_is_mod]
  have h2 := Nat.mod_lt a (show 0 < 2 by omega)
  obtain ⟨c, hc⟩ : ∃ c, c = a % 2 := ⟨_, rfl⟩
  rw [← hc] at h2 ⊢
  simp [IntKind.wrap, IntKind.bits, IntKind.signed]
  omega
theorem bit_and (m j : Nat) (hm : m ≤ 9223372036854775807) : (bits .and .i64 ((m : Int) / 2 ^ (j % 60)) 1 == 1) = bitB m j := by
  have h : ((m : Int) / 2 ^ (j % 60)) = ((m / 2 ^ (j % 60) : Nat) : Int) := by simp
  rw [h, and_one _ (Nat.lt_of_le_of_lt (Nat.div_le_self _ _) (by omega)), bitB, Nat.testBit_eq_decide_div_mod_eq, Bool.eq_iff_iff, beq_iff_eq, decide_eq_true_eq]
  omega

def ptrDown (n : Nat) : Value → Nat
  | .pointer (some a) => n - a.block
  | _ => 0
theorem ptrDown_some (n b : Nat) : ptrDown n (ptrTo (some b)) = n - b := rfl
theorem ptrDown_none (n : Nat) : ptrDown n (ptrTo none) = 0 := rfl

set_option maxRecDepth 100000 in
set_option maxHeartbeats 800000 in
theorem write_any (base P : Nat) (nb : List Nat) (d : DiskD) (n : Int) (s : ByteArray) (w : World) (h : Drive w base P nb d) (hlo : -1 ≤ d.2.2) (hhi : d.2.2 ≤ 9223372036854775807) :
    Calls Try.prog 108 #[.pointer (some ⟨P, 0, none⟩), .int .i64 n, .string s] w fun e w' =>
      e = .returned (.tuple #[]) ∧ (∃ nb', Drive w' base P nb' (dWrite d n s)) ∧ KeptOut (driveBlk P nb) w w' := by
  by_cases h0 : d.2.2 = 0
  · have HC := Lib.hid (show canB d.2.2 = false by simp [canB, h0])
    have HW := Lib.hid (show dWrite d n s = (d.1, d.2.1, spendL d.2.2) by obtain ⟨a, b, c⟩ := d; dsimp only at h0; subst h0; rfl)
    have HH := Lib.hid h
    clear h h0
    go_enter Try.func108, Try.ntmps108
    go_wp2_with fail
    refine (spend_any base P nb d _ HH.out hlo hhi).mono ?_
    rintro e w1 ⟨rfl, d1, k1⟩
    rw [HC.out]
    go_wp2
    go_returns
    exact ⟨rfl, ⟨nb, by rw [HW.out]; exact d1⟩, k1⟩
  · have HC := Lib.hid (show canB d.2.2 = true by simp [canB, h0])
    have HW := Lib.hid (show dWrite d n s = (d.1, d.2.1 ++ [(n, s)], spendL d.2.2) by simp [dWrite, h0])
    have HH := Lib.hid h
    clear h h0
    go_enter Try.func108, Try.ntmps108
    go_wp2_with fail
    refine (spend_any base P nb d _ HH.out hlo hhi).mono ?_
    rintro e w1 ⟨rfl, d1, k1⟩
    rw [HC.out]
    have HD := Lib.hid d1
    clear d1
    go_wp2_with fail
    refine (push_any base P nb _ n s _ HD.out).mono ?_
    rintro e w2 ⟨rfl, d2, k2⟩
    go_wp2
    go_returns
    exact ⟨rfl, ⟨_, by rw [HW.out]; exact d2⟩, k1.trans k2⟩

set_option maxRecDepth 100000 in
set_option maxHeartbeats 800000 in
theorem flush_any (base P : Nat) (nb : List Nat) (d : DiskD) (w : World) (h : Drive w base P nb d) (hlo : -1 ≤ d.2.2) (hhi : d.2.2 ≤ 9223372036854775807) (hat : ∀ x ∈ d.2.1, 0 ≤ x.1 ∧ x.1 ≤ 139) :
    Calls Try.prog 106 #[.pointer (some ⟨P, 0, none⟩)] w fun e w' =>
      e = .returned (.tuple #[]) ∧ (∃ nb', Drive w' base P nb' (dFlush d)) ∧ KeptOut (driveBlk P nb) w w' := by
  by_cases h0 : d.2.2 = 0
  · have HC := Lib.hid (show canB d.2.2 = false by simp [canB, h0])
    have HW := Lib.hid (show dFlush d = (d.1, d.2.1, spendL d.2.2) by obtain ⟨a, b, c⟩ := d; dsimp only at h0; subst h0; rfl)
    have HH := Lib.hid h
    clear h h0
    go_enter Try.func106, Try.ntmps106
    go_wp2_with fail
    refine (spend_any base P nb d _ HH.out hlo hhi).mono ?_
    rintro e w1 ⟨rfl, d1, k1⟩
    rw [HC.out]
    go_wp2
    go_returns
    exact ⟨rfl, ⟨nb, by rw [HW.out]; exact d1⟩, k1⟩
  · have HC := Lib.hid (show canB d.2.2 = true by simp [canB, h0])
    have HW := Lib.hid (show dFlush d = (upTo allB d.2.1 d.1 d.2.1.length, [], spendL d.2.2) by simp [dFlush, h0])
    have HH := Lib.hid h
    clear h h0
    go_enter Try.func106, Try.ntmps106
    go_wp2_with fail
    refine (spend_any base P nb d _ HH.out hlo hhi).mono ?_
    rintro e w1 ⟨rfl, d1, k1⟩
    rw [HC.out]
    obtain ⟨ds, dw, dl⟩ := d
    dsimp only at d1 hat hlo hhi HW ⊢
    obtain ⟨-, ⟨c0, -⟩, -, -⟩ := d1.cells
    have hnl := d1.nlen
    have hlt := d1.nodeLt
    have hlen := d1.len
    dsimp only at hnl hlen
    have HD := Lib.hid d1
    have HL := Lib.hid hlt
    have HT := Lib.hid hat
    clear d1 hlt hat
    obtain ⟨p0, hp0⟩ : ∃ p0 : Option Nat, p0 = nb.head? := ⟨_, rfl⟩
    rw [← hp0] at c0
    have HP := Lib.hid hp0
    clear hp0
    unfold ptrTo at c0
    go_wp2
    go_loopw [2] (fun v wr => ∃ j : Nat, j ≤ dw.length ∧ v = ptrTo nb[j]? ∧ Drive wr base P nb (upTo allB dw ds j, dw, spendL dl) ∧ KeptOut (driveBlk P nb) w1 wr ∧ wr.heap.size = w1.heap.size) (fun v _ => ptrDown w1.heap.size v)
    case atStart =>
      refine ⟨0, Nat.zero_le _, ?_, HD.out, KeptOut.refl _ _, rfl⟩
      rw [HP.out, List.head?_eq_getElem?]; rfl
    case round =>
      obtain ⟨j, hj, rfl, dr, kr, hz⟩ := hrel
      have HR := Lib.hid dr
      clear dr
      by_cases hlt : j < dw.length
      · obtain ⟨b, hb⟩ : ∃ b, nb[j]? = some b := ⟨_, List.getElem?_eq_getElem (by omega)⟩
        obtain ⟨n, hn⟩ := Int.eq_ofNat_of_zero_le (HT.out _ (List.getElem_mem hlt)).1
        have hn2 : n < 140 := by have := (HT.out _ (List.getElem_mem hlt)).2; omega
        have hbox := HR.out.node j b dw[j] hb (List.getElem?_eq_getElem hlt)
        unfold nodeCells at hbox
        have x0 := (hbox 0 _ rfl).1
        have x1 := (hbox 1 _ rfl).1
        have x3 := (hbox 3 _ rfl).1
        rw [hn] at x0
        obtain ⟨s0, hs0⟩ : ∃ s0, (upTo allB dw ds j)[n]? = some s0 := ⟨_, List.getElem?_eq_getElem (by rw [upTo_len]; omega)⟩
        obtain ⟨cy, fy⟩ := HR.out.cells.1 n s0 hs0
        have hPb := HR.out.lt b (List.mem_of_getElem? hb)
        have hblt := HL.out b (List.mem_of_getElem? hb)
        have HU := Lib.hid (upTo_yes (f := allB) (bl := ds) hlt rfl)
        have HN := Lib.hid hn
        have HB := Lib.hid hb
        obtain ⟨p3, hp3⟩ : ∃ p, p = nb[j + 1]? := ⟨_, rfl⟩
        rw [← hp3] at x3
        have HQ := Lib.hid hp3
        rw [hb]
        clear hb hn hbox hs0 hp3
        unfold ptrTo at x3
        unfold ptrTo
        have hn3 : (n : Int) < 140 := by omega
        have hn4 : (0 : Int) ≤ (n : Int) := by omega
        have hbP : P ≠ b := by omega
        have g0 : (wr.setCell ⟨P, n, none⟩ (.string dw[j].2)).cell? ⟨b, 0, none⟩ = some (.int .i64 (n : Int)) := (World.cell?_of_block (w := wr) (a := ⟨b, 0, none⟩) (Below.heap_setCell _ _ _ _ (fun e => hbP e.symm))).trans x0
        have g1 : (wr.setCell ⟨P, n, none⟩ (.string dw[j].2)).cell? ⟨b, 1, none⟩ = some (.string dw[j].2) := (World.cell?_of_block (w := wr) (a := ⟨b, 1, none⟩) (Below.heap_setCell _ _ _ _ (fun e => hbP e.symm))).trans x1
        go_wp2
        go_region_held3 (fun w' => w'.cell? ⟨b, 0, none⟩ = some (.int .i64 (n : Int)) ∧ w'.cell? ⟨b, 1, none⟩ = some (.string dw[j].2)) (first | exact ⟨x0, x1⟩ | exact ⟨g0, g1⟩) (fail)
        have x3' : (wr.setCell ⟨P, n, none⟩ (.string dw[j].2)).cell? ⟨b, 3, none⟩ = _ := (World.cell?_of_block (w := wr) (a := ⟨b, 3, none⟩) (Below.heap_setCell _ _ _ _ (fun e => hbP e.symm))).trans x3
        clear hn3 hn4 x0 x1 g0 g1
        go_wp2
        go_roundw
        case rel =>
          refine ⟨j + 1, by omega, by rw [← HQ.out], ?_, (kr.setCell (p := ⟨P, n, none⟩) (.inl rfl) _).trans (.of_below (by repeat (first | exact Below.refl _ _ | (refine Below.alloc ?_ (by first | (simp; done) | (simp; omega)) _) | (refine Below.setCell ?_ (by first | (simp; done) | (simp; omega)) _) | (refine Below.drew ?_)))), by simpa using hz⟩
          have := HR.out.block n hn2 dw[j].2
          rw [HU.out]
          unfold setAt
          rw [HN.out]
          exact this.below (by repeat (first | exact Below.refl _ _ | (refine Below.alloc ?_ (by first | (simp; done) | (simp; omega)) _) | (refine Below.setCell ?_ (by first | (simp; done) | (simp; omega)) _) | (refine Below.drew ?_)))
        case measure =>
          show ptrDown _ (ptrTo p3) < ptrDown _ (ptrTo (some b))
          rw [ptrDown_some]
          rcases p3 with _ | c
          · rw [ptrDown_none]; omega
          · rw [ptrDown_some]
            have := HR.out.asc j (j + 1) b c (by omega) HB.out HQ.out.symm
            omega
      · rw [show nb[j]? = none from List.getElem?_eq_none (by omega)]
        unfold ptrTo
        obtain ⟨-, ⟨z0, y0⟩, ⟨z1, y1⟩, -⟩ := HR.out.cells
        have D := HR.out.clear
        have K := ((k1.trans kr).setCell (p := ⟨P, 140, none⟩) (.inl rfl) (ptrTo none)).setCell (p := ⟨P, 141, none⟩) (.inl rfl) (ptrTo none)
        have e : j = dw.length := by omega
        subst e
        go_wp2
        go_returns
        exact ⟨rfl, ⟨_, by rw [HW.out]; exact D⟩, K⟩

set_option maxRecDepth 100000 in
set_option maxHeartbeats 800000 in
theorem crash_any (base P : Nat) (nb : List Nat) (d : DiskD) (m : Nat) (w : World) (hm : m ≤ 9223372036854775807) (h : Drive w base P nb d) (hat : ∀ x ∈ d.2.1, 0 ≤ x.1 ∧ x.1 ≤ 139) (hlw : d.2.1.length ≤ maxLen) :
    Calls Try.prog 104 #[.pointer (some ⟨P, 0, none⟩), .int .i64 m] w fun e w' =>
      e = .returned (.tuple #[]) ∧ (∃ nb', Drive w' base P nb' (dCrash m d)) ∧ KeptOut (driveBlk P nb) w w' := by
  unfold maxLen at hlw
  obtain ⟨ds, dw, dl⟩ := d
  dsimp only at hat hlw
  obtain ⟨-, ⟨c0, -⟩, -, -⟩ := h.cells
  have hnl := h.nlen
  have hlt := h.nodeLt
  have hlen := h.len
  dsimp only at hnl hlen
  have HD := Lib.hid h
  have HL := Lib.hid hlt
  have HT := Lib.hid hat
  clear h hlt hat
  obtain ⟨p0, hp0⟩ : ∃ p0 : Option Nat, p0 = nb.head? := ⟨_, rfl⟩
  rw [← hp0] at c0
  have HP := Lib.hid hp0
  clear hp0
  unfold ptrTo at c0
  go_enter Try.func104, Try.ntmps104
  go_wp2
  go_loopw [4, 5] (fun q v wr => ∃ j : Nat, j ≤ dw.length ∧ q = .int .i64 j ∧ v = ptrTo nb[j]? ∧ Drive wr base P nb (upTo (bitB m) dw ds j, dw, dl) ∧ KeptOut (driveBlk P nb) w wr ∧ wr.heap.size = w.heap.size) (fun _ v _ => ptrDown w.heap.size v)
  case atStart =>
    refine ⟨0, Nat.zero_le _, rfl, ?_, HD.out, KeptOut.refl _ _, rfl⟩
    rw [HP.out, List.head?_eq_getElem?]; rfl
  case round =>
    obtain ⟨j, hj, rfl, rfl, dr, kr, hz⟩ := hrel
    have HR := Lib.hid dr
    clear dr
    by_cases hlt : j < dw.length
    · obtain ⟨b, hb⟩ : ∃ b, nb[j]? = some b := ⟨_, List.getElem?_eq_getElem (by omega)⟩
      have hbox := HR.out.node j b dw[j] hb (List.getElem?_eq_getElem hlt)
      unfold nodeCells at hbox
      have x0 := (hbox 0 _ rfl).1
      have x1 := (hbox 1 _ rfl).1
      have x3 := (hbox 3 _ rfl).1
      obtain ⟨p3, hp3⟩ : ∃ p, p = nb[j + 1]? := ⟨_, rfl⟩
      rw [← hp3] at x3
      have HQ := Lib.hid hp3
      have HB := Lib.hid hb
      rw [hb]
      clear hb hbox hp3
      unfold ptrTo at x3
      unfold ptrTo
      have mdown : ptrDown w.heap.size (ptrTo p3) < ptrDown w.heap.size (ptrTo (some b)) := by
        have hblt := HL.out b (List.mem_of_getElem? HB.out)
        rw [ptrDown_some]
        rcases p3 with _ | c
        · rw [ptrDown_none]; omega
        · rw [ptrDown_some]
          have := HR.out.asc j (j + 1) b c (by omega) HB.out HQ.out.symm
          omega
      have HM := Lib.hid mdown
      clear mdown
      have hbb := bit_and m j hm
      cases hbit : bitB m j
      · rw [hbit] at hbb
        have HU := Lib.hid (upTo_no (f := bitB m) (bl := ds) hlt hbit)
        clear hbit
        go_wp2
        go_roundw
        case rel => exact ⟨j + 1, by omega, by go_num, by rw [← HQ.out], by rw [HU.out]; exact HR.out, kr, hz⟩
        case measure => exact HM.out
      · rw [hbit] at hbb
        obtain ⟨n, hn⟩ := Int.eq_ofNat_of_zero_le (HT.out _ (List.getElem_mem hlt)).1
        have hn2 : n < 140 := by have := (HT.out _ (List.getElem_mem hlt)).2; omega
        obtain ⟨s0, hs0⟩ : ∃ s0, (upTo (bitB m) dw ds j)[n]? = some s0 := ⟨_, List.getElem?_eq_getElem (by rw [upTo_len]; omega)⟩
        obtain ⟨cy, fy⟩ := HR.out.cells.1 n s0 hs0
        have hPb := HR.out.lt b (List.mem_of_getElem? HB.out)
        have HU := Lib.hid (upTo_yes (f := bitB m) (bl := ds) hlt hbit)
        have HN := Lib.hid hn
        rw [hn] at x0
        clear hbit hs0 hn
        have hn3 : (n : Int) < 140 := by omega
        have hn4 : (0 : Int) ≤ (n : Int) := by omega
        have hbP : P ≠ b := by omega
        have g0 : (wr.setCell ⟨P, n, none⟩ (.string dw[j].2)).cell? ⟨b, 0, none⟩ = some (.int .i64 (n : Int)) := (World.cell?_of_block (w := wr) (a := ⟨b, 0, none⟩) (Below.heap_setCell _ _ _ _ (fun e => hbP e.symm))).trans x0
        have g1 : (wr.setCell ⟨P, n, none⟩ (.string dw[j].2)).cell? ⟨b, 1, none⟩ = some (.string dw[j].2) := (World.cell?_of_block (w := wr) (a := ⟨b, 1, none⟩) (Below.heap_setCell _ _ _ _ (fun e => hbP e.symm))).trans x1
        go_wp2
        go_region_held3 (fun w' => w'.cell? ⟨b, 0, none⟩ = some (.int .i64 (n : Int)) ∧ w'.cell? ⟨b, 1, none⟩ = some (.string dw[j].2)) (first | exact ⟨x0, x1⟩ | exact ⟨g0, g1⟩) (fail)
        have x3' : (wr.setCell ⟨P, n, none⟩ (.string dw[j].2)).cell? ⟨b, 3, none⟩ = _ := (World.cell?_of_block (w := wr) (a := ⟨b, 3, none⟩) (Below.heap_setCell _ _ _ _ (fun e => hbP e.symm))).trans x3
        clear hn3 hn4 x0 x1 g0 g1
        go_wp2
        go_roundw
        case rel =>
          refine ⟨j + 1, by omega, by go_num, by rw [← HQ.out], ?_, (kr.setCell (p := ⟨P, n, none⟩) (.inl rfl) _).trans (.of_below (by repeat (first | exact Below.refl _ _ | (refine Below.alloc ?_ (by first | (simp; done) | (simp; omega)) _) | (refine Below.setCell ?_ (by first | (simp; done) | (simp; omega)) _) | (refine Below.drew ?_)))), by simpa using hz⟩
          have := HR.out.block n hn2 dw[j].2
          rw [HU.out]
          unfold setAt
          rw [HN.out]
          exact this.below (by repeat (first | exact Below.refl _ _ | (refine Below.alloc ?_ (by first | (simp; done) | (simp; omega)) _) | (refine Below.setCell ?_ (by first | (simp; done) | (simp; omega)) _) | (refine Below.drew ?_)))
        case measure => exact HM.out
    · rw [show nb[j]? = none from List.getElem?_eq_none (by omega)]
      unfold ptrTo
      obtain ⟨-, ⟨z0, y0⟩, ⟨z1, y1⟩, ⟨z2, y2⟩⟩ := HR.out.cells
      have D := HR.out.clear
      have D2 := D.left (-1)
      have K := (((kr).setCell (p := ⟨P, 140, none⟩) (.inl rfl) (ptrTo none)).setCell (p := ⟨P, 141, none⟩) (.inl rfl) (ptrTo none)).setCell (p := ⟨P, 142, none⟩) (.inl rfl) (.int .i64 (-1))
      have e : j = dw.length := by omega
      subst e
      go_wp2
      go_returns
      exact ⟨rfl, ⟨_, D2⟩, K⟩
end Go.Proofs.Ytjbkhamfingoiaa
