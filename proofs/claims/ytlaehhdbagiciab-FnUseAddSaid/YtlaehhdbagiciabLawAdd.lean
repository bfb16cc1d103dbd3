import Derived.Test.YtlaehhdbagiciabLawUses
import Derived.Test.YtlaehhdbagiciabWmU
/- The walk of FnUseAdd. -/
namespace Go.Proofs.Ytlaehhdbagiciab
open Go Go.RowKit

theorem specAdd_is {b bu : Option Addr} {cb cu : Nat} {L : List SpaceD} {U : List UseD} {x : ByteArray} {m : Int} {w : World} (hl : ElS 5 encSpace w b L) (hE : AnySp L) (hL : L.length ≤ 7) (hu : ElS 2 encUse w bu U) (hU : AnyUs U) {n : Nat} (hn : U.length = n) {X : List UseD} (hX : addO L U x m = X) :
    Calls Try.prog 25 #[.slice b L.length cb, .slice bu n cu, .string x, .int .i64 m] w (AddPost w X) := by
  subst hn
  subst hX
  exact specUseAdd_any b bu cb cu L U x m w hl hE.ok (by omega) hu hU.ok
theorem wmUses_is {a b : Option Addr} {ca cb : Nat} {l l' : List UseD} {w : World} (hl : ElS 2 encUse w a l) (hm : ElS 2 encUse w b l') (he : l = l') {n n' : Nat} (hn : l.length = n) (hn' : l.length = n') :
    Calls Try.prog 48 #[.slice a n ca, .slice b n' cb] w fun e w' => e = .returned (.bool true) ∧ Below w.heap.size w w' := by
  subst he; subst hn; subst hn'
  exact wmUses_eq a b ca cb l w hl hm
theorem addU_any {l : List SpaceD} {u : List UseD} {name : ByteArray} {more : Int} (h : AnyUs u) : AnyUs (addO l u name more) := by
  unfold addO
  split
  · intro x hx
    obtain ⟨y, hy, rfl⟩ := List.mem_map.1 hx
    rw [addN_name]
    exact h y hy
  · intro x hx; cases hx
set_option maxRecDepth 100000 in
set_option maxHeartbeats 4000000 in
theorem fnUseAddWalk (a : Option Addr) (c : Nat) (l : List UInt8) {w : World} (hl : l.length ≤ c) (hc : c ≤ maxLen) (h : BytesS w a l) :
    Calls Try.prog 11 #[.slice a l.length c] w fun e w' => e = .returned (.bool true) ∧ Below w.heap.size w w' := by
  have hcl := hc
  unfold maxLen at hcl
  by_cases hb : (1048576 : Int) < (l.length : Int)
  · go_enter Try.func11, Try.ntmps11
    go_wp2
    go_ret
    exact ⟨rfl, Below.refl _ _⟩
  have hb1 : (l.length : Int) ≤ 1048576 := by omega
  clear hb
  go_enter Try.func11, Try.ntmps11
  go_wp2_with fail
  refine (drawAdd_any a c l _ hl hc h).mono ?_
  rintro e w1 ⟨v, v', L, U, x, m, rfl, ow, hE, hn, ou, hU, hUl, hs, b1⟩
  obtain ⟨b, cb, rfl, -, -⟩ := id ow
  obtain ⟨bu, cu, rfl, -, -⟩ := id ou
  have E5 := Lib.hid (show ElS 5 encSpace w1 b L by obtain ⟨a', c', e, hl, _⟩ := ow.vw; cases e; exact hl)
  have V5 := Lib.hid (show ElS 2 encUse w1 bu U by obtain ⟨a', c', e, hl, _⟩ := ou.vw; cases e; exact hl)
  have HE := Lib.hid hE
  have HU := Lib.hid hU
  have B5 := Lib.hid b1
  clear ow hE ou hU b1
  obtain ⟨X, hX⟩ : ∃ X, addO L U x m = X := ⟨_, rfl⟩
  have HX := Lib.hid hX
  have HXU := Lib.hid (show AnyUs X by rw [← hX]; exact addU_any HU.out)
  clear hX
  go_wp2_with fail
  refine (implAdd_is E5.out HE.out V5.out HU.out hUl HX.out).mono ?_
  rintro e w6 ⟨v6, rfl, o6, b6⟩
  obtain ⟨bx, cx, rfl, -, -⟩ := id o6
  have B6 := Lib.hid (B5.out.trans (b6.mono B5.out.size))
  have E6 := Lib.hid (E5.out.below b6)
  have V6 := Lib.hid (V5.out.below b6)
  have X6 := Lib.hid (show ElS 2 encUse w6 bx X by obtain ⟨a', c', e, hl, _⟩ := o6.vw; cases e; exact hl)
  clear b6 E5 V5 B5 o6
  by_cases h0 : X = []
  · have hX0 : X.length = 0 := by rw [h0]; rfl
    have h0b : ((X.length : Int) == 0) = true := by rw [h0]; rfl
    go_wp2_with fail
    refine (specAdd_is E6.out HE.out hn V6.out HU.out hUl HX.out).mono ?_
    rintro e w7 ⟨v7, rfl, o7, b7⟩
    obtain ⟨by', cy, rfl, -, -⟩ := id o7
    have B7 := Lib.hid (B6.out.trans (b7.mono B6.out.size))
    have E7 := Lib.hid (E6.out.below b7)
    have V7 := Lib.hid (V6.out.below b7)
    have X7 := Lib.hid (X6.out.below b7)
    have Y7 := Lib.hid (show ElS 2 encUse w7 by' X by obtain ⟨a', c', e, hl, _⟩ := o7.vw; cases e; exact hl)
    clear b7 E6 V6 X6 B6 o7
    go_wp2_with fail
    refine (wmUses_is X7.out Y7.out rfl hX0 hX0).mono ?_
    rintro e w8 ⟨rfl, b8⟩
    have B8 := Lib.hid (B7.out.trans (b8.mono B7.out.size))
    have E8 := Lib.hid (E7.out.below b8)
    have V8 := Lib.hid (V7.out.below b8)
    have X8 := Lib.hid (X7.out.below b8)
    clear b8 E7 V7 X7 B7 Y7
    go_wp2_with fail
    refine (specAdd_is E8.out HE.out hn V8.out HU.out hUl HX.out).mono ?_
    rintro e w9 ⟨v9, rfl, o9, b9⟩
    obtain ⟨bz, cz, rfl, -, -⟩ := id o9
    have B9 := Lib.hid (B8.out.trans (b9.mono B8.out.size))
    have X9 := Lib.hid (X8.out.below b9)
    have Y9 := Lib.hid (show ElS 2 encUse w9 bz X by obtain ⟨a', c', e, hl, _⟩ := o9.vw; cases e; exact hl)
    clear b9 E8 V8 X8 B8 o9
    go_wp2_with fail
    refine (wmUses_is X9.out Y9.out rfl hX0 hX0).mono ?_
    rintro e w10 ⟨rfl, b10⟩
    go_wp2_with fail
    go_ret
    exact ⟨rfl, B9.out.trans (b10.mono B9.out.size)⟩
  have HA := Lib.hid (show addOk L U x m = true from addO_ne (by rw [HX.out]; exact h0))
  have hXl : X.length = L.length := by rw [← HX.out, addO_len HA.out]; exact hUl
  have hXp : 0 < X.length := List.length_pos_iff.2 h0
  have hLp : 0 < L.length := by omega
  have h0b : ((L.length : Int) == 0) = false := by rw [beq_eq_false_iff_ne]; omega
  have hLn : ¬ L.length = 0 := by omega
  have hLe : ¬ L = [] := List.length_pos_iff.1 hLp
  obtain ⟨hm1, hm2⟩ := (addOk_parts HA.out).2.2.1
  have HAT := Lib.hid (show ∀ (k : Nat) (hk : k < X.length) (hu : k < U.length), X[k].1 = U[k].1 ∧ X[k].2 = U[k].2 + (if inV L x X[k].1 then m else 0) ∧ (0 ≤ U[k].2 ∧ U[k].2 ≤ 99999) ∧ 0 ≤ X[k].2 ∧ X[k].2 ≤ 99999 from by
    have hx := HX.out
    subst hx
    intro k hk hu
    have hp := addOk_parts HA.out
    rw [addO_at HA.out hk hu, addN_name, addN_units]
    have h1 := (usesB_ub hp.2.1).1 U[k] (List.getElem_mem _)
    have h2 := (usesB_ub hp.2.2.2).1 (addN L x m U[k]) (by unfold addU; exact List.mem_map_of_mem (List.getElem_mem hu))
    rw [addN_units] at h2
    unfold inV
    rw [hp.1, Bool.true_and]
    exact ⟨rfl, rfl, h1, h2⟩)
  have HBK := Lib.hid (show addO L X x (-m) = U from by
    have hx := HX.out
    subst hx
    exact addO_back HA.out)
  clear h0
  go_wp2_with fail
  refine (specAdd_is E6.out HE.out hn V6.out HU.out hUl HX.out).mono ?_
  rintro e w7 ⟨v7, rfl, o7, b7⟩
  obtain ⟨by', cy, rfl, -, -⟩ := id o7
  have B7 := Lib.hid (B6.out.trans (b7.mono B6.out.size))
  have E7 := Lib.hid (E6.out.below b7)
  have V7 := Lib.hid (V6.out.below b7)
  have X7 := Lib.hid (X6.out.below b7)
  have Y7 := Lib.hid (show ElS 2 encUse w7 by' X by obtain ⟨a', c', e, hl, _⟩ := o7.vw; cases e; exact hl)
  clear b7 E6 V6 X6 B6 o7
  go_wp2_with fail
  refine (wmUses_is X7.out Y7.out rfl hXl hXl).mono ?_
  rintro e w8 ⟨rfl, b8⟩
  have B8 := Lib.hid (B7.out.trans (b8.mono B7.out.size))
  have E8 := Lib.hid (E7.out.below b8)
  have V8 := Lib.hid (V7.out.below b8)
  have X8 := Lib.hid (X7.out.below b8)
  clear b8 E7 V7 X7 B7 Y7
  go_wp2_with fail
  go_loopw [8, 9] (fun i _ wr => ∃ k : Nat, k ≤ L.length ∧ i = .int .i64 k ∧ Below w8.heap.size w8 wr) (fun i _ _ => L.length - (intOf i).toNat)
  case atStart => exact ⟨0, Nat.zero_le _, rfl, Below.refl _ _⟩
  case round =>
    obtain ⟨k, hk, rfl, hbel⟩ := hrel
    have HB := Lib.hid hbel
    have E9 := Lib.hid (E8.out.below hbel)
    have X9 := Lib.hid (X8.out.below hbel)
    have V9 := Lib.hid (V8.out.below hbel)
    have B9 := Lib.hid (B8.out.trans (hbel.mono B8.out.size))
    clear hbel
    by_cases hlt : k < L.length
    · have hkX : k < X.length := by omega
      have hkU : k < U.length := by omega
      have hd : decide (k < L.length) = true := decide_eq_true hlt
      obtain ⟨-, hx2, hx3, hx4⟩ := HAT.out k hkX hkU
      obtain ⟨bd, od, rfl, hcd⟩ := X9.out.2.resolve_left (fun e => by rw [e] at hkX; simp at hkX)
      obtain ⟨d0, d1⟩ := cellsUse (Below.refl _ _) hcd k hkX
      obtain ⟨bv, ov, rfl, hcv⟩ := V9.out.2.resolve_left (fun e => by rw [e] at hkU; simp at hkU)
      obtain ⟨-, v1⟩ := cellsUse (Below.refl _ _) hcv k hkU
      clear hcd hcv
      cases hin : inV L x X[k].1 with
      | true =>
        rw [hin] at hx2
        have hx2 : X[k].2 = U[k].2 + m := hx2
        have hwr : IntKind.i64.wrap (U[k].2 + m) = X[k].2 := by rw [← hx2]; exact wrap_small _ (by omega) (by omega)
        have HIN := Lib.hid hin
        clear hin hx2
        go_wp2_with fail
        refine (inV_c x X[k].1 E9.out HE.out HIN.out).mono ?_
        rintro e w10 ⟨rfl, b10⟩
        have d1 := (b10.cell (p := ⟨bd, od + k * 2 + 1, none⟩) (by have := World.block_lt_of_cell? wr _ d1; simpa using this)).trans d1
        have v1 := (b10.cell (p := ⟨bv, ov + k * 2 + 1, none⟩) (by have := World.block_lt_of_cell? wr _ v1; simpa using this)).trans v1
        go_wp2_with fail
        go_quiet (fail)
        go_wp2_with fail
        go_roundw
        case rel => exact ⟨k + 1, by omega, by go_num, HB.out.trans ((b10.trans (below_drewN (Below.refl _ _) _)).mono HB.out.size)⟩
        case measure => simp [intOf]; omega
      | false =>
        rw [hin] at hx2
        have hx2 : X[k].2 = U[k].2 := by have : X[k].2 = U[k].2 + 0 := hx2; omega
        have hwr : IntKind.i64.wrap (U[k].2) = X[k].2 := by rw [← hx2]; exact wrap_small _ (by omega) (by omega)
        have hwr2 : IntKind.i64.wrap (U[k].2 + 0) = X[k].2 := by rw [Int.add_zero]; exact hwr
        have HIN := Lib.hid hin
        clear hin hx2
        go_wp2_with fail
        refine (inV_c x X[k].1 E9.out HE.out HIN.out).mono ?_
        rintro e w10 ⟨rfl, b10⟩
        have d1 := (b10.cell (p := ⟨bd, od + k * 2 + 1, none⟩) (by have := World.block_lt_of_cell? wr _ d1; simpa using this)).trans d1
        have v1 := (b10.cell (p := ⟨bv, ov + k * 2 + 1, none⟩) (by have := World.block_lt_of_cell? wr _ v1; simpa using this)).trans v1
        go_wp2_with fail
        go_quiet (fail)
        go_wp2_with fail
        go_roundw
        case rel => exact ⟨k + 1, by omega, by go_num, HB.out.trans ((b10.trans (below_drewN (Below.refl _ _) _)).mono HB.out.size)⟩
        case measure => simp [intOf]; omega
    · have hd : decide (k < L.length) = false := decide_eq_false hlt
      have hneg : IntKind.i64.wrap (-m) = -m := by simp [IntKind.wrap, IntKind.bits, IntKind.signed]; omega
      go_wp2_with fail
      refine (implAdd_is E9.out HE.out X9.out HXU.out hXl HBK.out).mono ?_
      rintro e w10 ⟨v10, rfl, o10, b10⟩
      obtain ⟨bz, cz, rfl, -, -⟩ := id o10
      have B10 := Lib.hid (B9.out.trans (b10.mono B9.out.size))
      have V10 := Lib.hid (V9.out.below b10)
      have Y10 := Lib.hid (show ElS 2 encUse w10 bz U by obtain ⟨a', c', e, hl, _⟩ := o10.vw; cases e; exact hl)
      clear b10 o10
      go_wp2_with fail
      refine (wmUses_is Y10.out V10.out rfl hUl hUl).mono ?_
      rintro e w11 ⟨rfl, b11⟩
      go_wp2_with fail
      go_ret
      exact ⟨rfl, B10.out.trans (b11.mono B10.out.size)⟩
end Go.Proofs.Ytlaehhdbagiciab
