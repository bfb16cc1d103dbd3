import Derived.Test.YtlaehhdbagiciabUseS
/- UseMay of the model. -/
namespace Go.Proofs.Ytlaehhdbagiciab
open Go Go.RowKit

theorem l8Use_is {a : Option Addr} {u : List UseD} {name : ByteArray} {w : World} (hl : ElS 2 encUse w a u) {z : Int} (h : useN u name = z) (ca : Nat) :
    Calls Try.prog 96 #[.slice a u.length ca, .string name] w fun e w' => e = .returned (.int .i64 z) ∧ w' = w :=
  (l8Use_any a ca u name w hl).mono fun _ _ ⟨h1, k⟩ => ⟨by rw [h1, h], k⟩
def UsB (u : List UseD) : Prop := ∀ x ∈ u, 0 ≤ x.2 ∧ x.2 ≤ 99999
theorem useN_bound {u : List UseD} (h : UsB u) (name : ByteArray) : 0 ≤ useN u name ∧ useN u name ≤ 99999 := by
  unfold useN
  cases e : u.find? (isU name) with
  | none => exact ⟨Int.le_refl 0, by show (0 : Int) ≤ 99999; omega⟩
  | some x => exact h x (List.mem_of_find?_eq_some e)
def limS (l : List SpaceD) (i : Nat) : Int := (l.getD i default).2.2.1
/-- a space cannot take so much more -/
def exI (l : List SpaceD) (u : List UseD) (more : Int) (i : Nat) : Bool := decide (0 ≤ limS l i) && decide (limS l i < useN u (nmS l i) + more)
def exN (l : List SpaceD) (u : List UseD) (more : Int) (x : ByteArray) : Bool := match idxS l x with | some i => exI l u more i | none => false
def mayN (l : List SpaceD) (u : List UseD) (name : ByteArray) (more : Int) : ByteArray := ((upS l name).find? (exN l u more)).getD ⟨#[]⟩
theorem find_hit {α : Type} {p : α → Bool} {l : List α} {k : Nat} (hk : k < l.length) (h : p l[k] = true) (ht : ∀ j, j < k → ∀ (hl : j < l.length), p l[j] = false) : l.find? p = some l[k] := by
  rw [List.find?_eq_some_iff_getElem]
  exact ⟨h, k, hk, rfl, fun j hj => by simp [ht j hj (by omega)]⟩
theorem find_miss {α : Type} {p : α → Bool} {l : List α} (h : ∀ j (hj : j < l.length), p l[j] = false) : l.find? p = none := by
  rw [List.find?_eq_none]
  intro x hx
  obtain ⟨j, hj, rfl⟩ := List.mem_iff_getElem.1 hx
  simp [h j hj]

set_option maxRecDepth 100000 in
set_option maxHeartbeats 2000000 in
theorem l8May_any (a b : Option Addr) (ca cb : Nat) (l : List SpaceD) (u : List UseD) (name : ByteArray) (more : Int) (w : World) (hl : ElS 5 encSpace w a l) (hok : ∀ x ∈ l, OkSpace x) (hu : ElS 2 encUse w b u) (hub : UsB u) (hm0 : 0 ≤ more) (hm1 : more ≤ 99999) :
    Calls Try.prog 64 #[.slice a l.length ca, .slice b u.length cb, .string name, .int .i64 more] w fun e w' => e = .returned (.string (mayN l u name more)) ∧ Below w.heap.size w w' := by
  have HX := Lib.hid hl
  have HY := Lib.hid hu
  have HUB := Lib.hid hub
  obtain ⟨v, hv⟩ : ∃ v, upS l name = v := ⟨_, rfl⟩
  have HU := Lib.hid hv
  have HUS := Lib.hid (show ∀ s ∈ v, s.size ≤ maxLen by rw [← hv]; exact upS_size hok name)
  have HUM := Lib.hid (show ∀ x ∈ v, ∃ i, ∃ hi : i < l.length, x = l[i].1 by rw [← hv]; exact fun x hx => upS_mem hx)
  have hv8 : v.length ≤ 8 := by rw [← hv]; exact upS_len l name
  have HI := Lib.hid (show mayN l u name more = (v.find? (exN l u more)).getD ⟨#[]⟩ by rw [← hv]; rfl)
  clear hv hl hok hu hub
  go_enter Try.func64, Try.ntmps64
  go_wp2_with (go_at_call 76; refine (l8Up_any _ ca l name _ (HX.out.below (by repeat (first | exact Below.refl _ _ | (refine Below.alloc ?_ (by first | (simp; done) | (simp; omega)) _) | (refine Below.setCell ?_ (by first | (simp; done) | (simp; omega)) _) | (refine Below.drew ?_))))).mono ?_; rintro e w2 ⟨vv, rfl, o2, b2⟩; rw [HU.out] at o2; obtain ⟨va, vc, rfl⟩ := own_shpU o2; have hs2 := own_str (by unfold maxLen; omega) HUS.out o2)
  have HS := Lib.hid hs2
  have B2 := Lib.hid b2
  clear hs2 o2 b2
  go_loopw [10] (fun i wr => ∃ k : Nat, k ≤ v.length ∧ i = .int .i64 k ∧ (∀ j, j < k → ∀ (hl : j < v.length), exN l u more v[j] = false) ∧ Below w2.heap.size w2 wr) (fun i _ => v.length - (intOf i).toNat)
  case atStart => exact ⟨0, Nat.zero_le _, rfl, fun j hj => absurd hj (Nat.not_lt_zero _), Below.refl _ _⟩
  case round =>
    obtain ⟨k, hk, rfl, hto, hbel⟩ := hrel
    have HT := Lib.hid hto
    have HB := Lib.hid hbel
    clear hto
    by_cases hlt : k < v.length
    · obtain ⟨b1, ob, rfl, hcell⟩ := (HS.out.below hbel).2.2.resolve_left (fun e => by rw [e] at hlt; simp at hlt)
      have c0 := hcell k hlt
      have hk0 : (0 : Int) ≤ (k : Int) := by omega
      have hk1 : (k : Int) < (v.length : Int) := by omega
      clear hcell hbel
      obtain ⟨i, hi⟩ : ∃ i, idxS l v[k] = some i := by
        obtain ⟨j, hj, e⟩ := HUM.out _ (List.getElem_mem hlt)
        rw [e]
        exact Option.isSome_iff_exists.1 (idxS_self hj)
      have hil := idxS_lt hi
      have hi0 : (0 : Int) ≤ (i : Int) := by omega
      have hi1 : (i : Int) < (l.length : Int) := by omega
      have HID := Lib.hid hi
      have HNM := Lib.hid (show l[i].1 = v[k] from idxS_name hi)
      have HX2 := HX.out.below (B2.out.trans (HB.out.mono B2.out.size))
      obtain ⟨b5, o5, rfl, hcell5⟩ := HX.out.2.resolve_left (fun e => by rw [e] at hil; simp at hil)
      have HC5 := Lib.hid hcell5
      obtain ⟨z, hz⟩ : ∃ z, useN u l[i].1 = z := ⟨_, rfl⟩
      obtain ⟨hz0, hz1⟩ := useN_bound HUB.out l[i].1
      rw [hz] at hz0 hz1
      have HZ := Lib.hid hz
      have HG := Lib.hid (show exN l u more v[k] = (decide (0 ≤ l[i].2.2.1) && decide (l[i].2.2.1 < z + more)) by
        unfold exN; rw [hi]; show exI l u more i = _
        unfold exI limS; rw [getD_sp hil, nmS_at hil, hz])
      clear hi hcell5 hz
      by_cases g0 : 0 ≤ l[i].2.2.1
      · have gd0 : decide (0 ≤ l[i].2.2.1) = true := decide_eq_true g0
        have hzm : IntKind.i64.wrap (z + more) = z + more := by simp [IntKind.wrap, IntKind.bits, IntKind.signed]; omega
        by_cases g1 : l[i].2.2.1 < z + more
        · have gd1 : decide (l[i].2.2.1 < z + more) = true := decide_eq_true g1
          have HN := Lib.hid (show mayN l u name more = v[k] by rw [HI.out, find_hit hlt (by rw [HG.out, decide_eq_true g0, decide_eq_true g1]; rfl) HT.out]; rfl)
          go_wp2_with (go_at_call 62; refine (l8At_any _ ca l v[k] _ HX2).mono ?_; rintro e w3 ⟨rfl, b3⟩; rw [HID.out, show optI (some i) = (i : Int) from rfl]; have B3 := HB.out.trans (b3.mono HB.out.size); obtain ⟨c50, c51, c52, c53, c54⟩ := cellsSpace (B2.out.trans (B3.mono B2.out.size)) HC5.out i hil)
          go_quiet ((go_at_call 96; exact Calls.quiet_of_same (l8Use_is (HY.out.below (((B2.out.trans (B3.mono B2.out.size)).alloc (by have := B2.out.size; have := B3.size; omega) _).trans (below_drewN (Below.refl _ _) _))) HZ.out _)))
          go_wp2_with fail
          go_ret
          exact ⟨ret_str (by rw [HN.out]; exact HNM.out), B2.out.trans ((below_drewN (B3.alloc B3.size _) _).mono B2.out.size)⟩
        · have gd1 : decide (l[i].2.2.1 < z + more) = false := decide_eq_false g1
          have HF : exN l u more v[k] = false := by rw [HG.out, decide_eq_false g1]; simp
          have HN := Lib.hid (show ∀ j, j < k + 1 → ∀ (hl : j < v.length), exN l u more v[j] = false from fun j hj hl' => by
          by_cases hjk : j < k
          · exact HT.out j hjk hl'
          · obtain rfl : j = k := by omega
            exact HF)
          clear HF
          go_wp2_with (go_at_call 62; refine (l8At_any _ ca l v[k] _ HX2).mono ?_; rintro e w3 ⟨rfl, b3⟩; rw [HID.out, show optI (some i) = (i : Int) from rfl]; have B3 := HB.out.trans (b3.mono HB.out.size); obtain ⟨c50, c51, c52, c53, c54⟩ := cellsSpace (B2.out.trans (B3.mono B2.out.size)) HC5.out i hil)
          go_quiet ((go_at_call 96; exact Calls.quiet_of_same (l8Use_is (HY.out.below (((B2.out.trans (B3.mono B2.out.size)).alloc (by have := B2.out.size; have := B3.size; omega) _).trans (below_drewN (Below.refl _ _) _))) HZ.out _)))
          go_wp2_with fail
          go_roundw
          case rel => exact ⟨k + 1, by omega, by go_num, HN.out, below_drewN (B3.alloc B3.size _) _⟩
          case measure => simp [intOf]; omega
      · have gd0 : decide (0 ≤ l[i].2.2.1) = false := decide_eq_false g0
        have HF : exN l u more v[k] = false := by rw [HG.out, decide_eq_false g0]; rfl
        have HN := Lib.hid (show ∀ j, j < k + 1 → ∀ (hl : j < v.length), exN l u more v[j] = false from fun j hj hl' => by
          by_cases hjk : j < k
          · exact HT.out j hjk hl'
          · obtain rfl : j = k := by omega
            exact HF)
        clear HF
        go_wp2_with (go_at_call 62; refine (l8At_any _ ca l v[k] _ HX2).mono ?_; rintro e w3 ⟨rfl, b3⟩; rw [HID.out, show optI (some i) = (i : Int) from rfl]; have B3 := HB.out.trans (b3.mono HB.out.size); obtain ⟨c50, c51, c52, c53, c54⟩ := cellsSpace (B2.out.trans (B3.mono B2.out.size)) HC5.out i hil)
        go_quiet ((go_at_call 96; exact Calls.quiet_of_same (l8Use_is (HY.out.below (((B2.out.trans (B3.mono B2.out.size)).alloc (by have := B2.out.size; have := B3.size; omega) _).trans (below_drewN (Below.refl _ _) _))) HZ.out _)))
        go_wp2_with fail
        go_roundw
        case rel => exact ⟨k + 1, by omega, by go_num, HN.out, below_drewN (B3.alloc B3.size _) _⟩
        case measure => simp [intOf]; omega
    · have HN := Lib.hid (show mayN l u name more = ⟨#[]⟩ by rw [HI.out, find_miss (fun j hj => HT.out j (by omega) hj)]; rfl)
      go_wp2
      go_ret
      exact ⟨ret_str HN.out.symm, B2.out.trans (HB.out.mono B2.out.size)⟩

theorem l8Uses_is {a b : Option Addr} {l : List SpaceD} {u : List UseD} {w : World} (hl : ElS 5 encSpace w a l) (hu : ElS 2 encUse w b u) {q : Bool} (h : usesB l u = q) (ca cb : Nat) :
    Calls Try.prog 61 #[.slice a l.length ca, .slice b u.length cb] w fun e w' => e = .returned (.bool q) ∧ Below w.heap.size w w' :=
  (l8Uses_any a b ca cb l u w hl hu).mono fun _ _ ⟨h1, k⟩ => ⟨by rw [h1, h], k⟩
theorem l8At_is {a : Option Addr} {l : List SpaceD} {name : ByteArray} {w : World} (hl : ElS 5 encSpace w a l) {z : Int} (h : optI (idxS l name) = z) (ca : Nat) :
    Calls Try.prog 62 #[.slice a l.length ca, .string name] w fun e w' => e = .returned (.int .i64 z) ∧ Below w.heap.size w w' :=
  (l8At_any a ca l name w hl).mono fun _ _ ⟨h1, k⟩ => ⟨by rw [h1, h], k⟩
theorem usesB_ub {l : List SpaceD} {u : List UseD} (h : usesB l u = true) : UsB u ∧ u.length = l.length ∧ ∀ i (hi : i < u.length), u[i].1 = nmS l i := by
  unfold usesB at h
  simp only [Bool.and_eq_true, decide_eq_true_eq] at h
  obtain ⟨hn, hu⟩ := h
  have hp : ∀ i (hi : i < u.length), u[i].1 = nmS l i ∧ 0 ≤ u[i].2 ∧ u[i].2 ≤ 99999 := fun i hi => by
    have := List.all_eq_true.1 hu i (List.mem_range.2 hi)
    unfold useP inB at this
    rw [getD_us hi] at this
    simpa using this
  refine ⟨fun x hx => ?_, hn, fun i hi => (hp i hi).1⟩
  obtain ⟨i, hi, rfl⟩ := List.mem_iff_getElem.1 hx
  exact (hp i hi).2
/-- what UseMay wants -/
def mayOk (l : List SpaceD) (u : List UseD) (name : ByteArray) (more : Int) : Bool := spsOk l && (usesB l u && ((idxS l name).isSome && inB more 0 99999))
def mayO (l : List SpaceD) (u : List UseD) (name : ByteArray) (more : Int) : ByteArray := if mayOk l u name more then mayN l u name more else name
theorem mayO_no {l : List SpaceD} {u : List UseD} {name : ByteArray} {more : Int} (h : mayOk l u name more = false) : mayO l u name more = name := by unfold mayO; rw [h]; rfl
theorem mayO_yes {l : List SpaceD} {u : List UseD} {name : ByteArray} {more : Int} (h : mayOk l u name more = true) : mayO l u name more = mayN l u name more := by unfold mayO; rw [h]; rfl

set_option maxRecDepth 100000 in
set_option maxHeartbeats 2000000 in
theorem specUseMay_any (a b : Option Addr) (ca cb : Nat) (l : List SpaceD) (u : List UseD) (name : ByteArray) (more : Int) (w : World) (hl : ElS 5 encSpace w a l) (hok : ∀ x ∈ l, OkSpace x) (hlen : l.length ≤ 1048576) (hu : ElS 2 encUse w b u) :
    Calls Try.prog 21 #[.slice a l.length ca, .slice b u.length cb, .string name, .int .i64 more] w fun e w' => e = .returned (.string (mayO l u name more)) ∧ Below w.heap.size w w' := by
  have HX := Lib.hid hl
  have HY := Lib.hid hu
  have HK := Lib.hid hok
  clear hl hu hok
  cases h0 : spsOk l with
  | false =>
    have H0 := Lib.hid h0
    have HF := Lib.hid (mayO_no (show mayOk l u name more = false by unfold mayOk; rw [h0]; rfl))
    clear h0
    go_enter Try.func21, Try.ntmps21
    go_wp2_with (go_at_call 35; refine (specSpaces_is (HX.out.below (by repeat (first | exact Below.refl _ _ | (refine Below.alloc ?_ (by first | (simp; done) | (simp; omega)) _) | (refine Below.setCell ?_ (by first | (simp; done) | (simp; omega)) _) | (refine Below.drew ?_)))) HK.out hlen H0.out ca).mono ?_; rintro e w1 ⟨rfl, b1⟩)
    go_ret
    exact ⟨ret_str HF.out.symm, b1⟩
  | true =>
    have H0 := Lib.hid h0
    clear h0
    cases h1 : usesB l u with
    | false =>
      have H1 := Lib.hid h1
      have HF := Lib.hid (mayO_no (show mayOk l u name more = false by unfold mayOk; rw [H0.out, h1]; rfl))
      clear h1
      go_enter Try.func21, Try.ntmps21
      go_wp2_with (first
        | (go_at_call 35; refine (specSpaces_is (HX.out.below (by repeat (first | exact Below.refl _ _ | (refine Below.alloc ?_ (by first | (simp; done) | (simp; omega)) _) | (refine Below.setCell ?_ (by first | (simp; done) | (simp; omega)) _) | (refine Below.drew ?_)))) HK.out hlen H0.out ca).mono ?_; rintro e w1 ⟨rfl, b1⟩)
        | (go_at_call 61; refine (l8Uses_is (HX.out.below b1) (HY.out.below b1) H1.out ca cb).mono ?_; rintro e w2 ⟨rfl, b2⟩))
      go_ret
      exact ⟨ret_str HF.out.symm, b1.trans (b2.mono b1.size)⟩
    | true =>
      have H1 := Lib.hid h1
      have hub := (usesB_ub h1).1
      have HUB := Lib.hid hub
      clear h1 hub
      cases hi : idxS l name with
      | none =>
        have H2 := Lib.hid (show optI (idxS l name) = -1 by rw [hi]; rfl)
        have HF := Lib.hid (mayO_no (show mayOk l u name more = false by unfold mayOk; rw [H0.out, H1.out, hi]; rfl))
        clear hi
        go_enter Try.func21, Try.ntmps21
        go_wp2_with (first
          | (go_at_call 35; refine (specSpaces_is (HX.out.below (by repeat (first | exact Below.refl _ _ | (refine Below.alloc ?_ (by first | (simp; done) | (simp; omega)) _) | (refine Below.setCell ?_ (by first | (simp; done) | (simp; omega)) _) | (refine Below.drew ?_)))) HK.out hlen H0.out ca).mono ?_; rintro e w1 ⟨rfl, b1⟩)
          | (go_at_call 61; refine (l8Uses_is (HX.out.below b1) (HY.out.below b1) H1.out ca cb).mono ?_; rintro e w2 ⟨rfl, b2⟩; have B2 := b1.trans (b2.mono b1.size))
          | (go_at_call 62; refine (l8At_is (HX.out.below B2) H2.out ca).mono ?_; rintro e w3 ⟨rfl, b3⟩; have B3 := B2.trans (b3.mono B2.size)))
        go_ret
        exact ⟨ret_str HF.out.symm, B3⟩
      | some i =>
        have H2 := Lib.hid (show optI (idxS l name) = (i : Int) by rw [hi]; rfl)
        have hin : (0 : Int) ≤ (i : Int) := by omega
        have HIS := Lib.hid (show (idxS l name).isSome = true by rw [hi]; rfl)
        clear hi
        cases h3 : inB more 0 99999 with
        | false =>
          have H3 := Lib.hid h3
          have HF := Lib.hid (mayO_no (show mayOk l u name more = false by unfold mayOk; rw [H0.out, H1.out, HIS.out, h3]; rfl))
          clear h3
          go_enter Try.func21, Try.ntmps21
          go_wp2_with (first
            | (go_at_call 35; refine (specSpaces_is (HX.out.below (by repeat (first | exact Below.refl _ _ | (refine Below.alloc ?_ (by first | (simp; done) | (simp; omega)) _) | (refine Below.setCell ?_ (by first | (simp; done) | (simp; omega)) _) | (refine Below.drew ?_)))) HK.out hlen H0.out ca).mono ?_; rintro e w1 ⟨rfl, b1⟩)
            | (go_at_call 61; refine (l8Uses_is (HX.out.below b1) (HY.out.below b1) H1.out ca cb).mono ?_; rintro e w2 ⟨rfl, b2⟩; have B2 := b1.trans (b2.mono b1.size))
            | (go_at_call 62; refine (l8At_is (HX.out.below B2) H2.out ca).mono ?_; rintro e w3 ⟨rfl, b3⟩; have B3 := B2.trans (b3.mono B2.size))
            | (go_at_call 63; refine (in_is H3.out _).mono ?_; rintro e wq ⟨rfl, rfl⟩))
          go_ret
          exact ⟨ret_str HF.out.symm, B3⟩
        | true =>
          have H3 := Lib.hid h3
          have HF := Lib.hid (mayO_yes (show mayOk l u name more = true by unfold mayOk; rw [H0.out, H1.out, HIS.out, h3]; rfl))
          obtain ⟨hm0, hm1⟩ := of_decide_eq_true h3
          clear h3
          go_enter Try.func21, Try.ntmps21
          go_wp2_with (first
            | (go_at_call 35; refine (specSpaces_is (HX.out.below (by repeat (first | exact Below.refl _ _ | (refine Below.alloc ?_ (by first | (simp; done) | (simp; omega)) _) | (refine Below.setCell ?_ (by first | (simp; done) | (simp; omega)) _) | (refine Below.drew ?_)))) HK.out hlen H0.out ca).mono ?_; rintro e w1 ⟨rfl, b1⟩)
            | (go_at_call 61; refine (l8Uses_is (HX.out.below b1) (HY.out.below b1) H1.out ca cb).mono ?_; rintro e w2 ⟨rfl, b2⟩; have B2 := b1.trans (b2.mono b1.size))
            | (go_at_call 62; refine (l8At_is (HX.out.below B2) H2.out ca).mono ?_; rintro e w3 ⟨rfl, b3⟩; have B3 := B2.trans (b3.mono B2.size))
            | (go_at_call 63; refine (in_is H3.out _).mono ?_; rintro e wq ⟨rfl, rfl⟩)
            | (go_at_call 64; refine (l8May_any _ _ ca cb l u name more _ (HX.out.below B3) HK.out (HY.out.below B3) HUB.out hm0 hm1).mono ?_; rintro e w4 ⟨rfl, b4⟩))
          go_ret
          exact ⟨ret_str HF.out.symm, B3.trans (b4.mono B3.size)⟩
end Go.Proofs.Ytlaehhdbagiciab
