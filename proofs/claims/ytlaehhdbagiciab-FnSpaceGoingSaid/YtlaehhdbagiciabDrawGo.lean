import Derived.Test.YtlaehhdbagiciabDrawSps
/- Drawn spaces, some of them to go, with a name. -/
namespace Go.Proofs.Ytlaehhdbagiciab
open Go Go.RowKit

theorem in13_n (w : World) (r : Nat) (a : Option Addr) (c : Nat) (l : List UInt8) (p : Nat) (hp : p ≤ 10000000) (h : Rd w r a c l p) (b : Option Addr) (cb : Nat) (L : List SpaceD) {n : Nat} (hnn : L.length = n) (hE : AnySp L) (hn : L.length ≤ 7) (hL : ElS 5 encSpace w b L) (hb : ∀ k, b.map Addr.block = some k → k ≠ r) :
    Calls Try.prog 75 #[.pointer (some ⟨r, 0, none⟩), .slice b n cb] w (InPost w r a c l p) := by
  subst hnn
  exact in13_any w r a c l p hp h b cb L hE hn hL hb
theorem own_elN {w : World} {base n : Nat} {a : Option Addr} {cb : Nat} {L : List SpaceD} (hn : L.length = n) (h : w.ownsRow base 52 5 (.slice a n cb) n (L.flatMap encSpace)) (hm : n ≤ maxLen) : ElS 5 encSpace w a L := by
  subst hn
  exact own_el encSpace_len hm h
set_option maxRecDepth 100000 in
set_option maxHeartbeats 1600000 in
theorem drawGoing_any (a : Option Addr) (c : Nat) (l : List UInt8) (w : World) (hl : l.length ≤ c) (hc : c ≤ maxLen) (h : BytesS w a l) :
    Calls Try.prog 40 #[.slice a l.length c] w (UpDraw w) := by
  go_enter Try.func40, Try.ntmps40
  go_wp2_with fail
  refine (open_any a c l _ hl hc h).mono ?_
  rintro e w1 ⟨c1, l1, rfl, h1, b1⟩
  have z1 : w.heap.size < w1.heap.size := h1.lt
  have HAR := Lib.hid (rd_har h1)
  have H1 := Lib.hid h1
  clear h1
  go_wp2_with fail
  refine (anySp_any _ w.heap.size a c1 l1 0 (by omega) H1.out).mono ?_
  rintro e w2 ⟨v2, L, p2, rfl, o2, hE, hn, h2, hp2, k2⟩
  obtain ⟨b, cb, rfl⟩ := own_shape o2
  have z2 := k2.size
  have O2 := Lib.hid o2
  have HE := Lib.hid hE
  have H2 := Lib.hid h2
  have K2 := Lib.hid k2
  clear o2 hE h2 k2 H1
  go_wp2_with fail
  go_loopw [6] (fun i wr => ∃ (k : Nat) (M : List SpaceD) (p : Nat), k ≤ L.length ∧ i = .int .i64 k ∧ M.length = L.length ∧ wr.ownsRow w1.heap.size 52 5 (.slice b L.length cb) L.length (M.flatMap encSpace) ∧ AnySp M ∧ Rd wr w.heap.size a c1 l1 p ∧ p ≤ 200 + k ∧ KeptOut (fun b => b = w.heap.size) w1 wr) (fun i _ => L.length - (intOf i).toNat)
  case atStart => exact ⟨0, L, p2, Nat.zero_le _, rfl, rfl, O2.out, HE.out, H2.out, by omega, K2.out⟩
  case round =>
    obtain ⟨k, M, p, hk, rfl, hM, o3, hE3, h3, hp3, k3⟩ := hrel
    have z3 := k3.size
    have O3 := Lib.hid o3
    have HE3 := Lib.hid hE3
    have H3 := Lib.hid h3
    have K3 := Lib.hid k3
    clear o3 hE3 h3 k3
    by_cases hlt : k < L.length
    · have hkM : k < M.length := by omega
      have hkI : (k : Int) < (L.length : Int) := by omega
      obtain ⟨g, rfl, hgc, hg0, hg1⟩ := own_partsS O3.out (by omega)
      have hx := HE3.out M[k] (List.getElem_mem _)
      have hE4 := Lib.hid (own_elN hM O3.out (by unfold maxLen; omega))
      obtain ⟨-, hcc⟩ := hE4.out
      obtain ⟨b2, oo, hbo, hcb⟩ := hcc.resolve_left (fun e => by rw [e] at hkM; simp at hkM)
      cases hbo
      obtain ⟨ck0, ck1, ck2, ck3, ck4⟩ := cellsSpace (Below.refl _ wr) hcb k hkM
      simp only [Nat.zero_add] at ck0 ck1 ck2 ck3 ck4
      clear hcb hcc hE4
      have hd : decide (k < L.length) = true := decide_eq_true hlt
      by_cases hov : M[k].2.1 = ⟨#[]⟩
      · have hov' : M[k].2.1.toList = [] := by rw [hov]; simp
        have hov2 : M[k].2.1.toList.isEmpty = true := by rw [hov]; simp
        go_wp2_with fail
        go_roundw
        case rel => exact ⟨k + 1, M, p, by omega, by go_num, hM, O3.out, HE3.out, H3.out, by omega, K3.out⟩
        case measure => simp [intOf]; omega
      · have hov' : ¬ M[k].2.1.toList = [] := List.isEmpty_eq_false_iff.1 (isEmpty_no hov)
        have hov2 : M[k].2.1.toList.isEmpty = false := isEmpty_no hov
        go_wp2_with fail
        refine (pick_any 3 _ w.heap.size a c1 l1 p (by omega) (by omega) (by omega) H3.out).mono ?_
        rintro e w4 ⟨q, rfl, q0, q1, h4, k4⟩
        have z4 := k4.size
        have H4 := Lib.hid h4
        have K4 := Lib.hid (K3.out.trans k4)
        have O4 := Lib.hid (own_kept O3.out k4 (fun q hq e => by have := (O3.out.lt q hq).1; omega))
        clear h4 k4 q1 H3 K3 O3 ck0 ck1 ck2 ck3 ck4
        by_cases hq : q = 0
        · subst hq
          obtain ⟨⟨vo, co⟩, fo⟩ := own_cells O4.out (Below.refl _ _) (k * 5 + 3) (by omega)
          go_wp2_with fail
          have KS := (KeptOut.refl (fun b => b = g) w4).setCell (p := ⟨g, k * 5 + 3, none⟩) rfl (.bool true)
          go_roundw
          case rel =>
            exact ⟨k + 1, M.set k (M[k].1, M[k].2.1, M[k].2.2.1, true, M[k].2.2.2.2), p + 1, by omega, by go_num, by simp [hM], by rw [← flat_setS M k 3 hkM (by omega) (.bool true) _ rfl]; exact (O4.out.stored _ _).1, HE3.out.set hx.1 hx.2, H4.out.kept2 KS (by omega) (fun hn x hx => by have := HAR.out hn x hx; omega), by omega, K4.out.step KS (fun b hb => .inl (by omega))⟩
          case measure => simp [intOf]; omega
        · have hq' : (q == 0) = false := by simp [hq]
          clear hq
          go_wp2_with fail
          go_roundw
          case rel => exact ⟨k + 1, M, p + 1, by omega, by go_num, hM, O4.out, HE3.out, H4.out, by omega, K4.out⟩
          case measure => simp [intOf]; omega
    · have hd : decide (k < L.length) = false := decide_eq_false hlt
      go_wp2_with fail
      refine (in13_n _ w.heap.size a c1 l1 p (by omega) H3.out b cb M hM HE3.out (by omega) (own_elN hM O3.out (by unfold maxLen; omega)) (fun k hk e => by have := (O3.out.lt k (blk_map hk)).1; omega)).mono ?_
      rintro e w4 ⟨s, p4, rfl, hs, h4, hp4, k4⟩
      have O4 := Lib.hid (own_kept O3.out k4 (fun k hk e => by have := (O3.out.lt k hk).1; omega))
      have K4 := Lib.hid (K3.out.trans k4)
      clear h4 k4
      go_wp2
      go_returns
      exact ⟨_, M, s, rfl, drawn_own (base := w1.heap.size) (by rw [hM]; exact O4.out) (by omega) (by omega) HE3.out, HE3.out, by omega, hs, K4.out.below b1 b1.size (fun k hk => by omega)⟩
end Go.Proofs.Ytlaehhdbagiciab
