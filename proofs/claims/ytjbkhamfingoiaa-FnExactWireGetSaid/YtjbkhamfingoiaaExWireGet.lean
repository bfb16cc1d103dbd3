import Derived.Test.YtjbkhamfingoiaaWireS
import Derived.Test.YtjbkhamfingoiaaDiskD
/- The walk of FnExactWireGet. -/
namespace Go.Proofs.Ytjbkhamfingoiaa
open Go Go.RowKit

theorem own_shape {w : World} {base : Nat} {e : TypeId} {size : Nat} {v : Value} {n : Nat} {xs : List Value} (h : w.ownsRow base e size v n xs) : ∃ a c, v = .slice a n c := by
  rcases h.2 with ⟨hv, hn⟩ | ⟨g, cap, cur, hv, _⟩
  · exact ⟨none, 0, by rw [hv, hn]⟩
  · exact ⟨_, _, hv⟩

theorem wires_bound : ∀ (n : Nat) (s : ByteArray) (l : List ByteArray), s.size ≤ n → wires s = some l → l.length ≤ s.size ∧ ∀ x ∈ l, x.size ≤ s.size := by
  intro n
  induction n with
  | zero =>
    intro s l hs h
    rw [wires_nil (by omega)] at h
    cases h
    simp
  | succ n ih =>
    intro s l hs h
    by_cases h0 : s.size = 0
    · rw [wires_nil h0] at h
      cases h
      simp
    · by_cases hk : wordOk s = true
      · rw [wires_yes h0 hk, Option.map_eq_some_iff] at h
        obtain ⟨m, hm, rfl⟩ := h
        have hr := wordR_size s hk
        obtain ⟨h1, h2⟩ := ih (wordR s) m (by omega) hm
        have hw := wordW_size s
        refine ⟨by simp; omega, ?_⟩
        intro x hx
        rcases List.mem_cons.1 hx with rfl | hx
        · exact hw
        · have := h2 x hx; omega
      · rw [wires_no h0 (by simpa using hk)] at h
        cases h

theorem wireGet_bound (s : ByteArray) : (wireGet s).1.length ≤ 2000 ∧ ∀ x ∈ (wireGet s).1, x.size ≤ maxLen := by
  unfold wireGet
  split
  · next hs =>
    cases hw : wires s with
    | none => simp [wireOf]
    | some l =>
      obtain ⟨h1, h2⟩ := wires_bound s.size s l (Nat.le_refl _) hw
      simp only [wireOf]
      exact ⟨by omega, fun x hx => by have := h2 x hx; unfold maxLen; omega⟩
  · simp

set_option maxRecDepth 100000 in
set_option maxHeartbeats 2000000 in
theorem fnExactWireGetWalk (s : ByteArray) (hs : s.size ≤ maxLen) {w : World} :
    Calls Try.prog 14 #[.string s] w fun e w' => e = .returned (.bool true) ∧ Below w.heap.size w w' := by
  have hs' := hs
  unfold maxLen at hs'
  by_cases hb : (1048576 : Int) < (s.size : Int)
  · go_enter Try.func14, Try.ntmps14
    go_wp2
    go_ret
    exact ⟨rfl, Below.refl _ _⟩
  have hb' : (s.size : Int) ≤ 1048576 := by omega
  clear hb
  obtain ⟨l, hl⟩ : ∃ l, l = (wireGet s).1 := ⟨_, rfl⟩
  obtain ⟨b, hbb⟩ : ∃ b, b = (wireGet s).2 := ⟨_, rfl⟩
  obtain ⟨hn, hok⟩ := wireGet_bound s
  rw [← hl] at hn hok
  have hlm : l.length ≤ maxLen := by unfold maxLen; omega
  have HL := Lib.hid hl
  have HB := Lib.hid hbb
  have hneb : (b != b) = false := by simp
  have mlen : (marksS 1 l.length).length ≤ maxLen := by rw [marksS_len]; exact hlm
  have mok : ∀ x ∈ marksS 1 l.length, x.size ≤ maxLen := by
    intro x hx
    simp only [marksS, marks, List.mem_map, List.mem_range] at hx
    obtain ⟨j, hj, rfl⟩ := hx
    exact markB_size _ (by omega)
  clear hl hbb
  go_enter Try.func14, Try.ntmps14
  -- w0, w1
  go_wp2_with fail
  refine (specWire_any s _ hs).mono ?_
  rintro e w1 ⟨v1, rfl, o1, b1⟩
  rw [← HL.out] at o1
  rw [← HB.out]
  obtain ⟨a1, c1, rfl⟩ := own_shape o1
  have G1 : Below w.heap.size w w1 := b1
  have L1 := Lib.hid o1.lt
  -- g0, g1
  go_wp2_with fail
  refine (implWire_any s _ hs).mono ?_
  rintro e w2 ⟨v2, rfl, o2, b2⟩
  rw [← HL.out] at o2
  rw [← HB.out]
  obtain ⟨a2, c2, rfl⟩ := own_shape o2
  have G2 : Below w.heap.size w w2 := G1.trans (b2.mono G1.size)
  have Z2 := b2.size
  replace o1 := own_below o1 b2
  have L2 := Lib.hid o2.lt
  have O1 := Lib.hid o1
  have O2 := Lib.hid o2
  clear o1 o2
  -- eq
  go_wp2_with fail
  refine (eqStr_yes _ _ _ _ _ _ (own_str hlm hok O2.out) (own_str hlm hok O1.out)).mono ?_
  rintro e w3 ⟨rfl, b3⟩
  have G3 : Below w.heap.size w w3 := G2.trans (b3.mono G2.size)
  have Z3 := b3.size
  have P1 := Lib.hid (own_below O1.out b3)
  have P2 := Lib.hid (own_below O2.out b3)
  clear O1 O2
  -- mark
  go_wp2_with fail
  refine (markStr_any _ _ _ _ _ _ (by omega) (by omega) (by omega) P2.out).mono ?_
  rintro e w4 ⟨rfl, o4, k4⟩
  have Z4 := k4.size
  have G4 : Below w.heap.size w w4 := k4.below G3 G3.size (fun k hk => Nat.le_trans G1.size (L2.out k hk).1)
  have Q1 := Lib.hid (own_kept P1.out k4 (fun k hk hk2 => by have h1 := L1.out k hk; have h2 := L2.out k hk2; omega))
  have Q2 := Lib.hid o4
  clear P1 P2 o4
  -- held
  go_wp2_with fail
  refine (heldStr_any _ _ _ _ _ (by omega) (by omega) (by omega) (own_str mlen mok (by rw [marksS_len]; exact Q2.out))).mono ?_
  rintro e w5 ⟨rfl, b5⟩
  have G5 : Below w.heap.size w w5 := G4.trans (b5.mono G4.size)
  have Z5 := b5.size
  have R1 := Lib.hid (own_below Q1.out b5)
  have R2 := Lib.hid (own_below Q2.out b5)
  clear Q1 Q2
  -- h0, h1
  go_wp2_with fail
  refine (implWire_any s _ hs).mono ?_
  rintro e w6 ⟨v3, rfl, o3, b6⟩
  rw [← HL.out] at o3
  rw [← HB.out]
  obtain ⟨a3, c3, rfl⟩ := own_shape o3
  have G6 : Below w.heap.size w w6 := G5.trans (b6.mono G5.size)
  have Z6 := b6.size
  have S1 := Lib.hid (own_below R1.out b6)
  have S2 := Lib.hid (own_below R2.out b6)
  have S3 := Lib.hid o3
  clear R1 R2 o3
  go_wp2_with fail
  refine (eqStr_yes _ _ _ _ _ _ (own_str hlm hok S3.out) (own_str hlm hok S1.out)).mono ?_
  rintro e w7 ⟨rfl, b7⟩
  have G7 : Below w.heap.size w w7 := G6.trans (b7.mono G6.size)
  have T2 := Lib.hid (own_below S2.out b7)
  clear S1 S2 S3
  go_wp2_with fail
  refine (heldStr_any _ _ _ _ _ (by omega) (by omega) (by omega) (own_str mlen mok (by rw [marksS_len]; exact T2.out))).mono ?_
  rintro e w8 ⟨rfl, b8⟩
  have G8 : Below w.heap.size w w8 := G7.trans (b8.mono G7.size)
  go_wp2
  go_ret
  exact ⟨rfl, G8⟩
end Go.Proofs.Ytjbkhamfingoiaa
