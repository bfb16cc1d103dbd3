import Derived.Test.YtjbkhamfingoiaaDriveStart
/- What a disk at work does: count, read, write. -/
namespace Go.Proofs.Ytjbkhamfingoiaa
open Go Go.RowKit

def spendL (n : Int) : Int := if 0 < n then n - 1 else n
def canB (n : Int) : Bool := decide (n ≠ 0)

/-- what block at has, as the first j of what waits tell, s ahead of them -/
def rdTo (l : List WaitD) (n : Int) (s : ByteArray) : Nat → ByteArray
  | 0 => s
  | j + 1 => match l[j]? with
    | some x => if x.1 = n then x.2 else rdTo l n s j
    | none => rdTo l n s j
theorem rdTo_yes {l : List WaitD} {n : Int} {s : ByteArray} {j : Nat} (h : j < l.length) (e : l[j].1 = n) : rdTo l n s (j + 1) = l[j].2 := by
  simp [rdTo, List.getElem?_eq_getElem h, e]
theorem rdTo_no {l : List WaitD} {n : Int} {s : ByteArray} {j : Nat} (h : j < l.length) (e : l[j].1 ≠ n) : rdTo l n s (j + 1) = rdTo l n s j := by
  simp [rdTo, List.getElem?_eq_getElem h, e]

/-- how far a pointer's block lies -/
def ptrRank : Value → Nat
  | .pointer (some a) => a.block + 1
  | _ => 0
theorem ptrRank_some (b : Nat) : ptrRank (ptrTo (some b)) = b + 1 := rfl
theorem ptrRank_none : ptrRank (ptrTo none) = 0 := rfl

theorem Drive.cells {w : World} {base P : Nat} {nb : List Nat} {d : DiskD} (h : Drive w base P nb d) :
    (∀ j x, d.1[j]? = some x → w.cell? ⟨P, j, none⟩ = some (.string x) ∧ w.frozen? ⟨P, j, none⟩ = false) ∧
    (w.cell? ⟨P, 140, none⟩ = some (ptrTo nb.head?) ∧ w.frozen? ⟨P, 140, none⟩ = false) ∧
    (w.cell? ⟨P, 141, none⟩ = some (ptrTo nb.getLast?) ∧ w.frozen? ⟨P, 141, none⟩ = false) ∧
    (w.cell? ⟨P, 142, none⟩ = some (.int .i64 d.2.2) ∧ w.frozen? ⟨P, 142, none⟩ = false) := by
  refine ⟨fun j x hx => ?_, ?_, ?_, ?_⟩
  · apply h.box
    have hj := (List.getElem?_eq_some_iff.1 hx).1
    rw [List.getElem?_append_left (by simpa using hj), List.getElem?_map, hx]; rfl
  all_goals
    apply h.box
    rw [List.getElem?_append_right (by simp [h.len])]; simp [h.len]

theorem Drive.left {w : World} {base P : Nat} {nb : List Nat} {d : DiskD} (h : Drive w base P nb d) (n : Int) : Drive (w.setCell ⟨P, 142, none⟩ (.int .i64 n)) base P nb (d.1, d.2.1, n) := by
  refine ⟨h.len, h.nlen, h.ge, h.lt, h.asc, ?_, fun j b x hb hx => (h.node j b x hb hx).other _ (by have := h.lt b (List.mem_of_getElem? hb); simp; omega)⟩
  have := h.box.set (i := 142) (.int .i64 n) (by simp [h.len])
  rwa [(tail_set (by simp [h.len]) _ _ _ _).2.2] at this

set_option maxRecDepth 100000 in
set_option maxHeartbeats 400000 in
theorem spend_any (base P : Nat) (nb : List Nat) (d : DiskD) (w : World) (h : Drive w base P nb d) (hlo : -1 ≤ d.2.2) (hhi : d.2.2 ≤ 9223372036854775807) :
    Calls Try.prog 110 #[.pointer (some ⟨P, 0, none⟩)] w fun e w' =>
      e = .returned (.bool (canB d.2.2)) ∧ Drive w' base P nb (d.1, d.2.1, spendL d.2.2) ∧ KeptOut (driveBlk P nb) w w' := by
  obtain ⟨-, -, -, c2, f2⟩ := h.cells
  obtain ⟨ds, dw, dl⟩ := d
  dsimp only at c2 hlo hhi ⊢
  have HH := Lib.hid h
  clear h
  by_cases h0 : dl = 0
  · subst h0
    go_enter Try.func110, Try.ntmps110
    go_wp2
    go_ret
    exact ⟨ret_bool (by simp [canB]), HH.out, KeptOut.refl _ _⟩
  have HB := Lib.hid (show canB dl = true by simp [canB, h0])
  have hq : (dl == 0) = false := by simp [h0]
  by_cases h1 : 0 < dl
  · have HS := Lib.hid (show spendL dl = dl - 1 by simp [spendL, h1])
    clear h0
    go_enter Try.func110, Try.ntmps110
    go_wp2
    go_ret
    rw [HS.out]
    exact ⟨ret_bool (by rw [HB.out]), HH.out.left _, (KeptOut.refl _ _).setCell (.inl rfl) _⟩
  · have HS := Lib.hid (show spendL dl = dl by simp [spendL, h1])
    clear h0
    go_enter Try.func110, Try.ntmps110
    go_wp2
    go_ret
    rw [HS.out]
    exact ⟨ret_bool (by rw [HB.out]), HH.out, KeptOut.refl _ _⟩

set_option maxRecDepth 100000 in
set_option maxHeartbeats 800000 in
theorem read_any (base P : Nat) (nb : List Nat) (d : DiskD) (n : Nat) (w : World) (h : Drive w base P nb d) (hn : n < d.1.length) :
    Calls Try.prog 107 #[.pointer (some ⟨P, 0, none⟩), .int .i64 n] w fun e w' =>
      e = .returned (.string (rdTo d.2.1 n d.1[n] d.2.1.length)) ∧ Below w.heap.size w w' := by
  obtain ⟨cb, -, ⟨c1, -⟩, -⟩ := h.cells
  have hl := h.nlen
  have hd := h.len
  have HN := Lib.hid h.node
  have HA := Lib.hid h.asc
  have cn := (cb n _ (List.getElem?_eq_getElem hn)).1
  obtain ⟨ds, dw, dl⟩ := d
  dsimp only at cn hl HN hn hd ⊢
  clear cb h
  have hn' : n < 140 := by omega
  have HC := Lib.hid c1
  clear c1
  obtain ⟨p0, hp0⟩ : ∃ p0 : Option Nat, p0 = nb.getLast? := ⟨_, rfl⟩
  have c1 : w.cell? ⟨P, 141, none⟩ = some (.pointer (p0.map fun b => ⟨b, 0, none⟩)) := by rw [HC.out, hp0]; rfl
  rw [List.getLast?_eq_getElem?] at hp0
  have HP := Lib.hid hp0
  clear hp0
  go_enter Try.func107, Try.ntmps107
  go_wp2
  go_loop [5] (fun v => ∃ j : Nat, j ≤ dw.length ∧ v = .pointer ((if j = 0 then none else nb[j - 1]?).map fun b => ⟨b, 0, none⟩) ∧ rdTo dw n ds[n] dw.length = rdTo dw n ds[n] j) ptrRank
  case atStart =>
    refine ⟨dw.length, Nat.le_refl _, ?_, rfl⟩
    rw [HP.out, hl]
    split
    · next h0 => rw [List.eq_nil_of_length_eq_zero (hl.trans h0)]; rfl
    · rfl
  case round =>
    obtain ⟨j, hj, rfl, hr⟩ := hrel
    have HR := Lib.hid hr
    clear hr
    rcases Nat.eq_zero_or_pos j with h0 | h0
    · subst h0
      go_wp2
      go_ret
      exact ⟨ret_str (by rw [HR.out]; rfl), (by repeat (first | exact Below.refl _ _ | (refine Below.alloc ?_ (by first | (simp; done) | (simp; omega)) _) | (refine Below.setCell ?_ (by first | (simp; done) | (simp; omega)) _) | (refine Below.drew ?_)))⟩
    · obtain ⟨b, hb⟩ : ∃ b, nb[j - 1]? = some b := ⟨_, List.getElem?_eq_getElem (by omega)⟩
      have hjl : j - 1 < dw.length := by omega
      have hbox := HN.out (j - 1) b dw[j - 1] hb (List.getElem?_eq_getElem hjl)
      unfold nodeCells at hbox
      rw [show j - 1 + 1 = j by omega] at hbox
      have x0 := (hbox 0 _ rfl).1
      have x1 := (hbox 1 _ rfl).1
      have x2 := (hbox 2 _ rfl).1
      rw [if_neg (by omega), hb]
      have HB := Lib.hid hb
      clear hb hbox
      go_wp2
      · go_ret
        have e := (by assumption : (dw[j - 1].1 == (n : Int)) = true)
        have e2 := rdTo_yes (s := ds[n]) hjl (by simpa using e)
        rw [show j - 1 + 1 = j by omega] at e2
        exact ⟨ret_str (by rw [HR.out, e2]), (by repeat (first | exact Below.refl _ _ | (refine Below.alloc ?_ (by first | (simp; done) | (simp; omega)) _) | (refine Below.setCell ?_ (by first | (simp; done) | (simp; omega)) _) | (refine Below.drew ?_)))⟩
      · have e := (by assumption : (dw[j - 1].1 == (n : Int)) = false)
        have e2 := rdTo_no (s := ds[n]) hjl (by simpa using e)
        rw [show j - 1 + 1 = j by omega] at e2
        go_round
        case rel => exact ⟨j - 1, by omega, rfl, by rw [HR.out, e2]⟩
        case measure =>
          show ptrRank _ < b + 1
          by_cases h1 : j - 1 = 0
          · rw [if_pos h1, ptrRank_none]; omega
          · rw [if_neg h1]
            obtain ⟨a, ha⟩ : ∃ a, nb[j - 1 - 1]? = some a := ⟨_, List.getElem?_eq_getElem (by omega)⟩
            rw [ha, ptrRank_some]
            have := HA.out _ _ _ _ (by omega) ha HB.out
            omega
end Go.Proofs.Ytjbkhamfingoiaa
