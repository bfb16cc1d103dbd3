import Derived.Test.YtjbkhamfingoiaaDrawCrash
import Derived.Test.YtjbkhamfingoiaaCrashLaw
import Derived.Test.YtjbkhamfingoiaaWm
import Derived.Handy
/- The walk of FnDiskCrash. -/
namespace Go.Proofs.Ytjbkhamfingoiaa
open Go Go.RowKit

theorem AnyX.okC {d : DiskD} (h : AnyX d) : OkDisk d := ⟨by have := h.1; unfold maxLen; omega, fun s hs => by have := h.2.2.1 s hs; unfold maxLen; omega, by have := h.2.1; unfold maxLen; omega, fun x hx => by have := h.2.2.2.1 x hx; unfold OkWait maxLen; omega⟩
theorem wmc_left {w : World} {a : Option Addr} {ca : Nat} {e : Option Addr} {ce : Nat} {t : DiskD} (h : DiskR w (.agg #[.slice a t.1.length ca, .slice e t.2.1.length ce, .int .i64 t.2.2]) t) : StrS w a t.1 ∧ ElS 2 encWait w e t.2.1 := by
  obtain ⟨a', ca', b', cb', he, h1, h2, _⟩ := h
  simp only [Value.agg.injEq, Array.mk.injEq, List.cons.injEq, Value.slice.injEq, and_true, true_and] at he
  obtain ⟨⟨rfl, rfl⟩, rfl, rfl⟩ := he
  exact ⟨h1, h2⟩
theorem str_beq (a b : ByteArray) : (a.toList == b.toList) = decide (a = b) := by
  rw [Bool.eq_iff_iff, beq_iff_eq, decide_eq_true_eq, ByteArray.toList_eq, ByteArray.toList_eq]
  exact ⟨fun h => bytes_ext h, fun h => by rw [h]⟩
theorem getD_cell {l : List ByteArray} {i : Nat} (h : i < l.length) : l.getD i nilB = l[i] := by simp [List.getD, h]

set_option maxRecDepth 100000 in
set_option maxHeartbeats 4000000 in
theorem fnDiskCrashWalk (a : Option Addr) (c : Nat) (l : List UInt8) {w : World} (hl : l.length ≤ c) (hc : c ≤ maxLen) (h : BytesS w a l) :
    Calls Try.prog 5 #[.slice a l.length c] w fun e w' => e = .returned (.bool true) ∧ Below w.heap.size w w' := by
  have hcl := hc
  unfold maxLen at hcl
  by_cases hb : (1048576 : Int) < (l.length : Int)
  · go_enter Try.func5, Try.ntmps5
    go_wp2
    go_ret
    exact ⟨rfl, Below.refl _ _⟩
  have hb' : (l.length : Int) ≤ 1048576 := by omega
  clear hb
  go_enter Try.func5, Try.ntmps5
  go_wp2_with fail
  refine (drawCrash_any a c l _ hl hc h).mono ?_
  rintro e w1 ⟨u, d, n, rfl, r1, ax, n0, n1, b1⟩
  obtain ⟨a1, ca1, e1, ce1, rfl, _⟩ := id r1
  have hhi : d.2.2 ≤ 9223372036854775807 := by have := ax.2.2.2.2; omega
  have hlw : d.2.1.length ≤ 1048576 := by have := ax.2.1; omega
  have hnn : n ≤ 9223372036854775807 := by omega
  have okd := ax.okC
  have bd := Box.alloc w1 #[.slice a1 d.1.length ca1, .slice e1 d.2.1.length ce1, .int .i64 d.2.2] 26
  have R1 := r1.below (below_alloc w1 (.cells #[.slice a1 d.1.length ca1, .slice e1 d.2.1.length ce1, .int .i64 d.2.2] 26))
  have B1 := b1.alloc b1.size (.cells #[.slice a1 d.1.length ca1, .slice e1 d.2.1.length ce1, .int .i64 d.2.2] 26)
  clear b1 r1
  go_wp2_with fail
  refine (implCrash_any _ d n _ R1 hnn hhi hlw).mono ?_
  rintro e w2 ⟨u2, rfl, o2, b2⟩
  obtain ⟨t, ht⟩ : ∃ t, t = crashTop d n := ⟨_, rfl⟩
  rw [← ht] at o2
  have okt : OkDisk t := by rw [ht]; exact crashTop_ok n okd
  obtain ⟨a3, ca3, e3, ce3, rfl, _⟩ := id o2
  have bx := Box.alloc w2 #[.slice a3 t.1.length ca3, .slice e3 t.2.1.length ce3, .int .i64 t.2.2] 26
  have AL := below_alloc w2 (.cells #[.slice a3 t.1.length ca3, .slice e3 t.2.1.length ce3, .int .i64 t.2.2] 26)
  have bd2 := (bd.below b2).below AL
  have R2 := Lib.hid ((R1.below b2).below AL)
  have X2 := Lib.hid ((o2.read okt).below AL)
  have B2 : Below w.heap.size w (w2.alloc (.cells #[.slice a3 t.1.length ca3, .slice e3 t.2.1.length ce3, .int .i64 t.2.2] 26)) := (B1.trans (b2.mono B1.size)).trans (AL.mono (by have := B1.size; have := b2.size; omega))
  have HT := Lib.hid ht
  have ZZ : w1.heap.size + 1 ≤ w2.heap.size := by have := b2.size; simpa using this
  clear ht R1 o2 bd B1 b2 AL
  go_wp2_with fail
  generalize w2.alloc (.cells #[.slice a3 t.1.length ca3, .slice e3 t.2.1.length ce3, .int .i64 t.2.2] 26) = w3 at bx bd2 R2 X2 B2 ⊢
  have KS : ∀ w' : World, Below w3.heap.size w3 w' → w'.cell? ⟨w1.heap.size, 0, none⟩ = some (.slice a1 d.1.length ca1) ∧ w'.cell? ⟨w1.heap.size, 1, none⟩ = some (.slice e1 d.2.1.length ce1) ∧ w'.cell? ⟨w1.heap.size, 2, none⟩ = some (.int .i64 d.2.2) ∧ w'.cell? ⟨w2.heap.size, 0, none⟩ = some (.slice a3 t.1.length ca3) ∧ w'.cell? ⟨w2.heap.size, 1, none⟩ = some (.slice e3 t.2.1.length ce3) ∧ w'.cell? ⟨w2.heap.size, 2, none⟩ = some (.int .i64 t.2.2) ∧ Below w3.heap.size w3 w' :=
    fun w' hb => ⟨((bd2.below hb) 0 _ rfl).1, ((bd2.below hb) 1 _ rfl).1, ((bd2.below hb) 2 _ rfl).1, ((bx.below hb) 0 _ rfl).1, ((bx.below hb) 1 _ rfl).1, ((bx.below hb) 2 _ rfl).1, hb⟩
  obtain ⟨x0, x1, x2, y0, y1, y2, -⟩ := KS w3 (Below.refl _ _)
  obtain ⟨bok, hbok⟩ : ∃ bok, bok = diskOk d := ⟨_, rfl⟩
  have HO := Lib.hid hbok.symm
  clear hbok
  go_region_held3 (fun w' => w'.cell? ⟨w1.heap.size, 0, none⟩ = some (.slice a1 d.1.length ca1) ∧ w'.cell? ⟨w1.heap.size, 1, none⟩ = some (.slice e1 d.2.1.length ce1) ∧ w'.cell? ⟨w1.heap.size, 2, none⟩ = some (.int .i64 d.2.2) ∧ w'.cell? ⟨w2.heap.size, 0, none⟩ = some (.slice a3 t.1.length ca3) ∧ w'.cell? ⟨w2.heap.size, 1, none⟩ = some (.slice e3 t.2.1.length ce3) ∧ w'.cell? ⟨w2.heap.size, 2, none⟩ = some (.int .i64 t.2.2) ∧ Below w3.heap.size w3 w')
    ((refine KS _ ?_; (first | exact C7 | exact C6 | exact C5 | exact C4 | exact Below.refl _ _ | exact (Below.refl _ _).drew)))
    (first
      | (go_at_call 30; refine (specCrash_any _ d n _ (R2.out.below ((Below.refl _ _).drew)) hnn hhi hlw).mono ?_; rintro e w4 ⟨u4, rfl, o4, b4⟩; rw [← HT.out] at o4; have C4 : Below w3.heap.size w3 w4 := (Below.refl _ _).drew.trans b4)
      | (go_at_call 18; refine (wmDisk_any _ _ t _ (X2.out.below C4) (o4.read okt)).mono ?_; rintro e w5 ⟨rfl, b5⟩; have C5 : Below w3.heap.size w3 w5 := C4.trans (b5.mono C4.size))
      | (go_at_call 20; refine (implDiskOk_any _ d _ (R2.out.below C5)).mono ?_; rintro e w6 ⟨rfl, b6⟩; rw [HO.out]; have C6 : Below w3.heap.size w3 w6 := C5.trans (b6.mono C5.size))
      | (go_at_call 21; refine (specDiskOk_any _ d _ (R2.out.below C6)).mono ?_; rintro e w7 ⟨rfl, b7⟩; rw [HO.out]; have C7 : Below w3.heap.size w3 w7 := C6.trans (b7.mono C6.size)))
  clear x0 x1 x2 y0 y1 y2
  obtain ⟨x0, x1, x2, y0, y1, y2, -⟩ := KS _ C7
  go_wp2_with fail
  refine (specDiskOk_any _ d _ (R2.out.below C7)).mono ?_
  rintro e w8 ⟨rfl, b8⟩
  rw [HO.out]
  have C8 : Below w3.heap.size w3 w8 := C7.trans (b8.mono C7.size)
  clear x0 x1 x2 y0 y1 y2
  obtain ⟨x0, x1, x2, y0, y1, y2, -⟩ := KS _ C8
  have BW : Below w.heap.size w w8 := B2.trans (C8.mono B2.size)
  cases bok
  · have hz : ((t.1.length : Int) == 0) = true := by rw [HT.out]; unfold crashTop; rw [HO.out]; rfl
    go_wp2
    go_ret
    exact ⟨rfl, BW⟩
  · by_cases hneg : n < 0
    · have hz : ((t.1.length : Int) == 0) = true := by rw [HT.out]; unfold crashTop; rw [HO.out, decide_eq_false (by omega)]; rfl
      go_wp2
      go_ret
      exact ⟨rfl, BW⟩
    · have hn0 : 0 ≤ n := by omega
      obtain ⟨m, rfl⟩ := Int.eq_ofNat_of_zero_le hn0
      clear hneg n0
      have hd1 : d.1.length = 140 := (diskOk_all HO.out).1
      have ht1 : t.1.length = 140 := by rw [HT.out, crashTop_eq m HO.out, ← hd1]; exact upTo_len _ _ _ _
      have hw9 : d.2.1.length ≤ 9 := ax.2.1
      obtain ⟨sx, -⟩ := wmc_left X2.out
      obtain ⟨sd, ed⟩ := wmc_left R2.out
      obtain ⟨qx, ox, rfl, hcx⟩ := sx.2.2.resolve_left (by intro e; rw [e] at ht1; simp at ht1)
      obtain ⟨qd, od, rfl, hcd⟩ := sd.2.2.resolve_left (by intro e; rw [e] at hd1; simp at hd1)
      have KC : ∀ w', Below w3.heap.size w3 w' → ∀ i, i < 140 → w'.cell? ⟨qx, ox + i, none⟩ = some (.string (t.1.getD i nilB)) ∧ w'.cell? ⟨qd, od + i, none⟩ = some (.string (d.1.getD i nilB)) := fun w' hb i hi => by
        rw [getD_cell (by omega), getD_cell (by omega)]
        have h1 := hcx i (by omega)
        have h2 := hcd i (by omega)
        exact ⟨(hb.cell (by have := World.block_lt_of_cell? _ _ h1; simpa using this)).trans h1, (hb.cell (by have := World.block_lt_of_cell? _ _ h2; simpa using this)).trans h2⟩
      have HKC := Lib.hid KC
      have HED := Lib.hid ed
      have HT1 := Lib.hid ht1
      have HD1 := Lib.hid hd1
      have hl1 : (t.1.length : Int) ≤ 140 := by omega
      have hl2 : (140 : Int) ≤ (t.1.length : Int) := by omega
      have hl3 : (140 : Int) ≤ (d.1.length : Int) := by omega
      clear KC ed ht1 hd1 sx sd hcx hcd
      go_wp2_with fail
      go_loopw [6] (fun i wr => ∃ k : Nat, k ≤ 140 ∧ i = .int .i64 k ∧ Below w3.heap.size w3 wr) (fun i _ => 140 - (intOf i).toNat)
      case atStart => exact ⟨0, by omega, rfl, C8⟩
      case round =>
        obtain ⟨k, hk, rfl, hbel⟩ := hrel
        clear x0 x1 x2 y0 y1 y2
        obtain ⟨x0, x1, x2, y0, y1, y2, -⟩ := KS _ hbel
        by_cases hlt : k < 140
        · have hk9 : (k : Int) < (t.1.length : Int) := by omega
          have hk10 : (k : Int) < (d.1.length : Int) := by omega
          obtain ⟨cx, cd⟩ := HKC.out _ hbel k hlt
          obtain ⟨T, hT⟩ : ∃ T, T = t.1.getD k nilB := ⟨_, rfl⟩
          obtain ⟨D, hD⟩ : ∃ D, D = d.1.getD k nilB := ⟨_, rfl⟩
          rw [← hT] at cx
          rw [← hD] at cd
          have HTT := Lib.hid hT
          have HDD := Lib.hid hD
          clear hT hD
          go_wp2_with fail
          go_quiet (fail)
          have hb1 := below_drewN hbel nq
          rw [str_beq]
          go_wp2_with fail
          have H0 := Lib.hid (show decide (T = D) = okTo d k T 0 by unfold okTo; rw [HDD.out]; simp)
          go_loopw [7, 8] (fun v7 v8 w' => ∃ (b : Bool) (j : Nat), j ≤ d.2.1.length ∧ v7 = .bool b ∧ b = okTo d k T j ∧ v8 = .int .i64 j ∧ Below w3.heap.size w3 w') (fun _ v8 _ => d.2.1.length - (intOf v8).toNat)
          case atStart => exact ⟨_, 0, Nat.zero_le _, rfl, H0.out, rfl, hb1⟩
          case round =>
            obtain ⟨b, j, hj, rfl, hb, rfl, hbe⟩ := hrel
            have HB := Lib.hid hb
            clear x0 x1 x2 y0 y1 y2 cx cd hb
            obtain ⟨x0, x1, x2, y0, y1, y2, -⟩ := KS _ hbe
            by_cases hjl : j < d.2.1.length
            · obtain ⟨be, oe, rfl, hce⟩ := HED.out.2.resolve_left (by intro e; rw [e] at hjl; simp at hjl)
              obtain ⟨e0, e1⟩ := cellsWait hbe hce j hjl
              obtain ⟨cx, -⟩ := HKC.out _ hbe k hlt
              rw [← HTT.out] at cx
              have hj9 : (j : Int) < (d.2.1.length : Int) := by omega
              have HS := Lib.hid (okTo_succ d k T j hjl)
              cases b
              · by_cases hat : d.2.1[j].1 = (k : Int)
                · have hq : (d.2.1[j].1 == (k : Int)) = true := by simp [hat]
                  have HR := Lib.hid (show decide (d.2.1[j].2 = T) = okTo d k T (j + 1) by rw [HS.out, ← HB.out]; simp [hat])
                  clear hat
                  go_wp2_with fail
                  go_quiet (fail)
                  rw [str_beq]
                  go_wp2
                  go_roundw
                  case rel => exact ⟨_, j + 1, by omega, rfl, HR.out, by go_num, below_drewN hbe nq⟩
                  case measure => simp [intOf]; omega
                · have hq : (d.2.1[j].1 == (k : Int)) = false := by simp [hat]
                  have HR := Lib.hid (show false = okTo d k T (j + 1) by rw [HS.out, ← HB.out]; simp [hat])
                  clear hat
                  go_wp2_with fail
                  go_quiet (fail)
                  go_wp2
                  go_roundw
                  case rel => exact ⟨_, j + 1, by omega, rfl, HR.out, by go_num, below_drewN hbe nq⟩
                  case measure => simp [intOf]; omega
              · have HR := Lib.hid (show true = okTo d k T (j + 1) by rw [HS.out, ← HB.out]; simp)
                go_wp2_with fail
                go_quiet (fail)
                go_wp2
                go_roundw
                case rel => exact ⟨_, j + 1, by omega, rfl, HR.out, by go_num, below_drewN hbe nq⟩
                case measure => simp [intOf]; omega
            · have hje : j = d.2.1.length := by omega
              subst hje
              have hbt : b = true := by rw [HB.out, HTT.out, HT.out]; exact okTo_full m HO.out k hlt
              subst hbt
              go_wp2
              go_roundw
              case rel => exact ⟨k + 1, by omega, by go_num, hbe⟩
              case measure => simp [intOf]; omega
        · have hk9 : k = 140 := by omega
          subst hk9
          go_wp2_with fail
          refine (implCrash_any _ d ((0 : Nat) : Int) _ (R2.out.below hbel) (by omega) hhi hlw).mono ?_
          rintro e w11 ⟨u11, rfl, o11, b11⟩
          obtain ⟨y, hy⟩ : ∃ y, y = crashTop d ((0 : Nat) : Int) := ⟨_, rfl⟩
          rw [← hy] at o11
          have oky : OkDisk y := by rw [hy]; exact crashTop_ok _ okd
          have HY1 := Lib.hid (show y.1 = d.1 by rw [hy]; exact crash_none HO.out)
          clear hy
          obtain ⟨a5, ca5, e5, ce5, rfl, _⟩ := id o11
          have D11 : Below w3.heap.size w3 w11 := hbel.trans (b11.mono hbel.size)
          have ALn := below_alloc w11 (.cells #[.slice a5 y.1.length ca5, .slice e5 y.2.1.length ce5, .int .i64 y.2.2] 26)
          have D12 : Below w3.heap.size w3 (w11.alloc (.cells #[.slice a5 y.1.length ca5, .slice e5 y.2.1.length ce5, .int .i64 y.2.2] 26)) := D11.trans (ALn.mono D11.size)
          have bn := Box.alloc w11 #[.slice a5 y.1.length ca5, .slice e5 y.2.1.length ce5, .int .i64 y.2.2] 26
          have YR := Lib.hid ((o11.read oky).below ALn)
          clear o11 b11 ALn x0 x1 x2 y0 y1 y2
          obtain ⟨x0, x1, x2, y0, y1, y2, -⟩ := KS _ D11
          have l11 : w1.heap.size < w11.heap.size := Nat.lt_of_lt_of_le (bd2.lt) D11.size
          go_wp2_with fail
          refine (implCrash_any _ d ((288230376151711743 : Nat) : Int) _ (R2.out.below D12) (by omega) hhi hlw).mono ?_
          rintro e w13 ⟨u13, rfl, o13, b13⟩
          obtain ⟨z, hz⟩ : ∃ z, z = crashTop d ((288230376151711743 : Nat) : Int) := ⟨_, rfl⟩
          rw [← hz] at o13
          have okz : OkDisk z := by rw [hz]; exact crashTop_ok _ okd
          have HZR := Lib.hid (fun (i : Nat) (hi : i < 9) => (show z.1.getD i nilB = readTop d i by rw [hz]; exact crash_all HO.out (by omega) i (by omega)))
          have hz1 : z.1.length = 140 := by rw [hz, crashTop_eq _ HO.out]; exact (upTo_len _ _ _ _).trans HD1.out
          clear hz
          obtain ⟨a7, ca7, e7, ce7, rfl, _⟩ := id o13
          have D13 : Below w3.heap.size w3 w13 := D12.trans (b13.mono D12.size)
          have ALz := below_alloc w13 (.cells #[.slice a7 z.1.length ca7, .slice e7 z.2.1.length ce7, .int .i64 z.2.2] 26)
          have D14 : Below w3.heap.size w3 (w13.alloc (.cells #[.slice a7 z.1.length ca7, .slice e7 z.2.1.length ce7, .int .i64 z.2.2] 26)) := D13.trans (ALz.mono D13.size)
          have bz := Box.alloc w13 #[.slice a7 z.1.length ca7, .slice e7 z.2.1.length ce7, .int .i64 z.2.2] 26
          have bn2 := (bn.below b13).below ALz
          have YR2 := Lib.hid ((YR.out.below b13).below ALz)
          obtain ⟨sz, -⟩ := wmc_left ((o13.read okz).below ALz)
          obtain ⟨qz, oz, rfl, hcz⟩ := sz.2.2.resolve_left (by intro e; rw [e] at hz1; simp at hz1)
          have HZ1 := Lib.hid hz1
          have hz2 : (9 : Int) ≤ (z.1.length : Int) := by omega
          clear o13 b13 ALz bn x0 x1 x2 y0 y1 y2 hz1 sz
          go_wp2_with fail
          obtain ⟨w15, hw15⟩ : ∃ w15, w15 = w13.alloc (.cells #[.slice (some ⟨qz, oz, none⟩) z.1.length ca7, .slice e7 z.2.1.length ce7, .int .i64 z.2.2] 26) := ⟨_, rfl⟩
          rw [← hw15] at D14 bz bn2 YR2 hcz ⊢
          clear hw15
          have bd15 := bd2.below D14
          have bx15 := bx.below D14
          have BW15 : Below w.heap.size w w15 := B2.trans (D14.mono B2.size)
          have KS3 : ∀ w' : World, Below w15.heap.size w15 w' → w'.cell? ⟨w1.heap.size, 0, none⟩ = some (.slice (some ⟨qd, od, none⟩) d.1.length ca1) ∧ w'.cell? ⟨w1.heap.size, 1, none⟩ = some (.slice e1 d.2.1.length ce1) ∧ w'.cell? ⟨w1.heap.size, 2, none⟩ = some (.int .i64 d.2.2) ∧ w'.cell? ⟨w13.heap.size, 0, none⟩ = some (.slice (some ⟨qz, oz, none⟩) z.1.length ca7) ∧ Below w15.heap.size w15 w' :=
            fun w' hb => ⟨((bd15.below hb) 0 _ rfl).1, ((bd15.below hb) 1 _ rfl).1, ((bd15.below hb) 2 _ rfl).1, ((bz.below hb) 0 _ rfl).1, hb⟩
          have RD15 := Lib.hid (R2.out.below D14)
          go_loopw [11] (fun i wr => ∃ k : Nat, k ≤ 9 ∧ i = .int .i64 k ∧ Below w15.heap.size w15 wr) (fun i _ => 9 - (intOf i).toNat)
          case atStart => exact ⟨0, by omega, rfl, Below.refl _ _⟩
          case round =>
            obtain ⟨k, hk, rfl, hb5⟩ := hrel
            by_cases hlt : k < 9
            · have hk9 : (k : Int) < 9 := by omega
              have hk10 : (k : Int) < (z.1.length : Int) := by omega
              obtain ⟨x0, x1, x2, z0, -⟩ := KS3 _ hb5
              obtain ⟨rr, hrr⟩ : ∃ rr, rr = readTop d k := ⟨_, rfl⟩
              have HA := Lib.hid hrr.symm
              have HQ := Lib.hid (show ∀ w', Below w15.heap.size w15 w' → w'.cell? ⟨qz, oz + k, none⟩ = some (.string rr) from fun w' hb => by
                have h1 := hcz k (by have := HZ1.out; omega)
                rw [← getD_cell (by have := HZ1.out; omega), HZR.out k hlt, ← hrr] at h1
                exact (hb.cell (by have := World.block_lt_of_cell? _ _ h1; simpa using this)).trans h1)
              have q0 := HQ.out _ hb5
              clear hrr
              go_wp2_with fail
              go_region_held3 (fun w' => w'.cell? ⟨w1.heap.size, 0, none⟩ = some (.slice (some ⟨qd, od, none⟩) d.1.length ca1) ∧ w'.cell? ⟨w1.heap.size, 1, none⟩ = some (.slice e1 d.2.1.length ce1) ∧ w'.cell? ⟨w1.heap.size, 2, none⟩ = some (.int .i64 d.2.2) ∧ w'.cell? ⟨w13.heap.size, 0, none⟩ = some (.slice (some ⟨qz, oz, none⟩) z.1.length ca7) ∧ Below w15.heap.size w15 w' ∧ w'.cell? ⟨qz, oz + k, none⟩ = some (.string rr))
                (first
                  | exact ⟨(KS3 _ E1).1, (KS3 _ E1).2.1, (KS3 _ E1).2.2.1, (KS3 _ E1).2.2.2.1, E1, HQ.out _ E1⟩
                  | exact ⟨x0, x1, x2, z0, hb5.drew, q0⟩ | exact ⟨x0, x1, x2, z0, hb5, q0⟩)
                ((go_at_call 23; refine (implRead_any _ d k _ (RD15.out.below hb5.drew)).mono ?_; rintro e w16 ⟨rfl, b16⟩; rw [HA.out]; have E1 : Below w15.heap.size w15 w16 := hb5.drew.trans (b16.mono hb5.size)))
              go_wp2
              go_roundw
              case rel => exact ⟨k + 1, by omega, by go_num, E1⟩
              case measure => simp [intOf]; omega
            · have hk9 : k = 9 := by omega
              subst hk9
              have bx16 := bx15.below hb5
              have bn16 := bn2.below hb5
              obtain ⟨x0, x1, x2, z0, -⟩ := KS3 _ hb5
              obtain ⟨y0, -⟩ := bx16 0 _ rfl
              obtain ⟨y1, -⟩ := bx16 1 _ rfl
              obtain ⟨y2, -⟩ := bx16 2 _ rfl
              obtain ⟨n0', -⟩ := bn16 0 _ rfl
              have hT0 : ((t.2.1.length : Int) == 0) = true := by rw [HT.out, crashTop_eq m HO.out]; rfl
              have hT1 : (t.2.2 == -1) = true := by rw [HT.out, crashTop_eq m HO.out]; rfl
              go_wp2_with fail
              rw [HY1.out]
              refine (wmWords_any _ _ _ _ d.1 _ (by have h := (wmc_left (YR2.out.below hb5)).1; rw [HY1.out] at h; exact h) (wmc_left (RD15.out.below hb5)).1).mono ?_
              rintro e w17 ⟨rfl, b17⟩
              have E2 : Below w15.heap.size w15 w17 := hb5.trans (b17.mono hb5.size)
              go_wp2
              go_ret
              exact ⟨rfl, BW15.trans (E2.mono BW15.size)⟩
end Go.Proofs.Ytjbkhamfingoiaa
