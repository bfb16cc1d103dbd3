import Derived.Test.YtakcmjnfkcoilaaDoorDrawFrame
import Derived.Test.YtakcmjnfkcoilaaDoorFramePI
import Derived.Test.YtakcmjnfkcoilaaDoorShape
import Derived.Test.YtakcmjnfkcoilaaDoorRowM
import Derived.Test.YtakcmjnfkcoilaaDoorKept
import Derived.Lib.ConvBytes
import Derived.Laws.IdiomStrings
/- Drawn blocks. -/
namespace Go.Proofs.YtakcmjnfkcoilaaDoor
open Go Go.RowKit

def bCells (l : List UInt8) : List Value := l.map fun b => .int .u8 (b.toNat : Int)
theorem bCells_get {l : List UInt8} {j : Nat} (h : j < l.length) : (bCells l)[j]? = some (.int .u8 (l[j].toNat : Int)) := by simp [bCells, h]
theorem bCells_set (l : List UInt8) (j : Nat) (y : UInt8) : (bCells l).set j (.int .u8 (y.toNat : Int)) = bCells (l.set j y) := by simp [bCells, List.map_set]
theorem box_bytes {w : World} {base : Nat} {e : TypeId} {g n c : Nat} {xs : List Value} (h : OwnsM w base e 1 (.slice (some ⟨g, 0, none⟩) n c) n xs) : Box w g xs := by
  intro i v hv
  have hl := h.1
  have hi : i < xs.length := (List.getElem?_eq_some_iff.1 hv).1
  obtain ⟨g', c', e', -, -, -, -, hc⟩ := h.at (by omega)
  cases e'
  refine ⟨hc i v hv, ?_⟩
  rcases h.2 with ⟨hn, _⟩ | ⟨g', cap, cur, fz, hv2, _, hg, hm, h1, _, h3, _⟩
  · cases hn
  · simp only [Value.slice.injEq, Option.some.injEq, Addr.mk.injEq] at hv2
    obtain ⟨⟨rfl, -⟩, -, rfl⟩ := hv2
    unfold World.frozen?
    rw [hg]
    obtain ⟨lo, hi2⟩ := fz
    show (decide (lo ≤ i) && decide (i < hi2)) = false
    rcases hm with hm | hm
    · have : ¬ lo ≤ i := by simp only at hm; omega
      simp [this]
    · simp only at hm
      subst hm
      simp
theorem box_set {w : World} {b : Nat} {cs : List Value} (h : Box w b cs) (i : Nat) (v : Value) : Box (w.setCell ⟨b, i, none⟩ v) b (cs.set i v) := by
  intro j u hj
  by_cases e : j = i
  · subst e
    have hl : j < cs.length := by
      have := (List.getElem?_eq_some_iff.1 hj).1
      simpa using this
    rw [List.getElem?_set_self hl] at hj
    cases hj
    obtain ⟨h1, h2⟩ := h j cs[j] (List.getElem?_eq_getElem hl)
    exact ⟨by simp [go_sem, h1], by simp [go_sem, h2]⟩
  · rw [List.getElem?_set_ne (fun q => e q.symm)] at hj
    obtain ⟨h1, h2⟩ := h j u hj
    have e2 : ¬ i = j := fun q => e q.symm
    exact ⟨by simp [go_sem, h1], by simp [go_sem, h2]⟩
theorem wrap_byte {q : Nat} (h : q ≤ 100) : IntKind.u8.wrap (q : Int) = (q : Int) := by
  show ((q : Int)) % 256 = q
  omega
theorem bits_byte (a b : Int) : ∃ y : UInt8, bits .xor .u8 a b = (y.toNat : Int) := by
  obtain ⟨z, hz⟩ : ∃ z : Int, bits .xor .u8 a b = z % 256 := ⟨_, rfl⟩
  refine ⟨UInt8.ofNat (z % 256).toNat, ?_⟩
  rw [hz]
  simp
  omega
theorem own_prefixF {w : World} {base : Nat} {e : TypeId} {g n c k : Nat} {xs : List Value} (h : w.ownsRow base e 1 (.slice (some ⟨g, 0, none⟩) n c) n xs) (hk : k ≤ n) : w.ownsRow base e 1 (.slice (some ⟨g, 0, none⟩) k c) k (xs.take k) := by
  have hl := h.1
  refine ⟨by rw [List.length_take, hl]; omega, ?_⟩
  rcases h.2 with ⟨hv, hn⟩ | ⟨g', cap, cur, hv, hb, hg, h1, h2, h3, h4⟩
  · cases hv
  · simp only [Value.slice.injEq] at hv
    obtain ⟨ha, -, rfl⟩ := hv
    cases ha
    refine .inr ⟨g, c, cur, rfl, hb, hg, Nat.le_trans hk h1, h2, h3, ?_⟩
    rw [← h4, List.take_take, Nat.mul_one, Nat.mul_one, Nat.min_eq_left hk]
theorem own_partsG {w : World} {base : Nat} {e : TypeId} {size : Nat} {a : Option Addr} {n c : Nat} {xs : List Value} (h : w.ownsRow base e size (.slice a n c) n xs) (hn : 0 < n) : ∃ g, a = some ⟨g, 0, none⟩ ∧ n ≤ c ∧ base ≤ g ∧ g < w.heap.size := by
  rcases h.2 with ⟨_, h0⟩ | ⟨g, cap, cur, hv, hb, hg, h1, h2, _⟩
  · omega
  · simp only [Value.slice.injEq] at hv
    obtain ⟨rfl, _, rfl⟩ := hv
    exact ⟨g, rfl, h1, hb, (Array.getElem?_eq_some_iff.1 hg).1⟩
theorem infoStrD : (Tryd.prog.info? 9).map (fun i => (i.zero, i.size, i.bytes)) = some (some (.string ⟨#[]⟩), 1, 16) := by kernel_rfl
theorem cellsNewD (w : World) (cs : List Value) (e : TypeId) : ∀ j u, cs[j]? = some u → (w.alloc (.cells cs.toArray e)).cell? ((⟨w.heap.size, 0, none⟩ : Addr).add j) = some u := by
  intro j u h
  rw [addr_add, Nat.zero_add]
  exact (Box.alloc w cs.toArray e j u (by simpa using h)).1
def FrGetP (w : World) (e : Ending) (w' : World) : Prop := ∃ (t n : Int) (v : Value) (L : List ByteArray), e = .returned (.tuple #[.int .i64 t, .int .i64 n, v]) ∧ w'.ownsRow w.heap.size 9 1 v L.length (L.map .string) ∧ (∀ s ∈ L, s.size ≤ 400) ∧ L.length ≤ 6 ∧ (0 ≤ t ∧ t ≤ 10) ∧ (0 ≤ n ∧ n ≤ 10) ∧ Below w.heap.size w w'
def litA3 : List ByteArray := [⟨#[]⟩, ⟨#[120]⟩, ⟨#[97, 110, 111, 116, 104, 101, 114, 32, 98, 108, 111, 99, 107]⟩]
theorem litA3_size : ∀ s ∈ litA3, s.size ≤ 24 := by
  intro s hs
  simp only [litA3, List.mem_cons, List.not_mem_nil, or_false] at hs
  rcases hs with rfl | rfl | rfl <;> decide
theorem putB_pos {t n : Nat} {x y : ByteArray} (h : y ∈ putB t n x) : 16 ≤ y.size := by
  unfold putB putL at h
  obtain ⟨l, hl, rfl⟩ := List.mem_map.1 h
  obtain ⟨i, _, rfl⟩ := List.mem_map.1 hl
  have := block_len t n (partsN x.data.toList.length) i x.data.toList
  show 16 ≤ (blockL t n (partsN x.data.toList.length) i x.data.toList).length
  omega
def GByte (r gb cap : Nat) (s : ByteArray) (k j : Nat) (x : UInt8) : Nat → Value → World → Prop
  | 0, v, _ | 2, v, _ => v = .slice (some ⟨gb, 0, none⟩) s.size cap
  | 1, v, _ | 3, v, _ => v = .int .i64 (j : Int)
  | 4, v, _ | 11, v, _ => v = .pointer (some ⟨gb, j, none⟩)
  | 5, v, _ => v = .int .u8 (x.toNat : Int)
  | 6, v, _ => v = .pointer (some ⟨r, 0, none⟩)
  | 7, v, _ => FNat 100 v
  | 8, v, _ => ∃ q : Nat, q ≤ 100 ∧ v = .int .i64 (q : Int)
  | 9, v, _ => ∃ q : Nat, q ≤ 100 ∧ v = .int .u8 (q : Int)
  | 10, v, _ => ∃ y : UInt8, v = .int .u8 (y.toNat : Int)
  | _, _, _ => k = k
theorem putB_small {t n : Nat} (ht : t < 10) (hn : n < 10) {x : ByteArray} (hx : x.size ≤ 300) : 1 ≤ (putB t n x).length ∧ (putB t n x).length ≤ 5 ∧ ∀ y ∈ putB t n x, y.size ≤ 200 := by
  have h : frameOkB t n x = true := by
    unfold frameOkB inB
    simp only [Bool.and_eq_true, decide_eq_true_eq]
    omega
  have e : putI t n x = putB t n x := by rw [putI_yes h]; simp
  have h1 := putI_small t n x
  have h2 := putI_none h
  rw [e] at h1 h2
  refine ⟨h2, ?_, h1.2⟩
  rw [putB_len]
  unfold partsN
  omega
set_option maxRecDepth 100000 in
set_option maxHeartbeats 4000000 in
theorem drawFrameGet_any (a : Option Addr) (c : Nat) (l : List UInt8) (w : World) (hl : l.length ≤ c) (hc : c ≤ maxLen) (h : BytesS w a l) :
    Calls Tryd.prog 12 #[.slice a l.length c] w (FrGetP w) := by
  obtain ⟨i0, hi, hz0, hz1, hz2⟩ := info_parts infoStrD
  go_enter Tryd.func12, Tryd.ntmps12
  go_wp2_with fail
  refine (open_any a c l _ hl hc h).mono ?_
  rintro e w1 ⟨c1, l1, rfl, h1, b1⟩
  have z1 : w.heap.size < w1.heap.size := h1.lt
  have HAR := Lib.hid (rd_har h1)
  have H1 := Lib.hid h1
  have B1 := Lib.hid b1
  clear h1 b1
  go_wp2_with fail
  refine (pick_any 4 _ w.heap.size a c1 l1 0 (by omega) (by omega) (by omega) H1.out).mono ?_
  rintro e w2 ⟨t, rfl, t0, t1, h2, k2⟩
  have t2 := t1 (by omega)
  have z2 := k2.size
  obtain ⟨t, rfl⟩ := Int.eq_ofNat_of_zero_le t0
  have H2 := Lib.hid h2
  have K2 := Lib.hid k2
  clear h2 k2 t0 t1 H1
  go_wp2_with fail
  refine (pick_any 4 _ w.heap.size a c1 l1 (0 + 1) (by omega) (by omega) (by omega) H2.out).mono ?_
  rintro e w3 ⟨n, rfl, n0, n1, h3, k3⟩
  have n2 := n1 (by omega)
  have z3 := k3.size
  obtain ⟨n, rfl⟩ := Int.eq_ofNat_of_zero_le n0
  have H3 := Lib.hid h3
  have K3 := Lib.hid (K2.out.trans k3)
  clear h3 k3 n0 n1 H2 K2
  go_wp2_with fail
  refine (l12Text_any _ w.heap.size a c1 l1 (0 + 1 + 1) (by omega) H3.out).mono ?_
  rintro e w4 ⟨x, rfl, hx, h4, k4⟩
  have z4 := k4.size
  have H4 := Lib.hid h4
  have K4 := Lib.hid (K3.out.trans k4)
  clear h4 k4 H3 K3
  go_wp2_with fail
  refine (l3Put_any t n (by omega) (by omega) x (by omega) _).mono ?_
  rintro e w5 ⟨v5, rfl, o5, b5⟩
  have z5 := b5.size
  obtain ⟨p1, p2, p3⟩ := putB_small (t := t) (n := n) (by omega) (by omega) hx
  obtain ⟨L, hL⟩ : ∃ L, putB t n x = L := ⟨_, rfl⟩
  rw [hL] at o5 p1 p2 p3
  obtain ⟨av, cv, rfl⟩ := own_shape o5
  obtain ⟨g, rfl, hgc, hg0, hg1⟩ := own_partsG o5 (by omega)
  have HP := Lib.hid p3
  have HPOS := Lib.hid (show ∀ y ∈ L, 16 ≤ y.size from fun y hy => by rw [← hL] at hy; exact putB_pos hy)
  have H5 := Lib.hid (H4.out.below b5)
  have K5 := Lib.hid (K4.out.trans (KeptOut.of_below (S := fun b => b = w.heap.size) b5))
  have O5 := Lib.hid o5
  clear hL o5 b5 p3 H4 K4
  go_wp2_with fail
  refine (pick_any 7 _ w.heap.size a c1 l1 (0 + 1 + 1 + 1) (by omega) (by omega) (by omega) H5.out).mono ?_
  rintro e w6 ⟨q, rfl, q0, q1, h6, k6⟩
  have q2 := q1 (by omega)
  have z6 := k6.size
  obtain ⟨q, rfl⟩ := Int.eq_ofNat_of_zero_le q0
  have H6 := Lib.hid h6
  have K6 := Lib.hid (K5.out.trans k6)
  have O6 := Lib.hid (own_kept O5.out k6 (fun b hb e => by have := (O5.out.lt b hb).1; omega))
  have HB6 := Lib.hid (show Below w.heap.size w w6 from K6.out.below B1.out B1.out.size (fun q hq => by omega))
  clear h6 k6 q0 q1 H5 K5 O5
  have P4 := Lib.hid (show ∀ s ∈ L, s.size ≤ 400 from fun s hs => by have := HP.out s hs; omega)
  have hL0 : (0 : Int) < (L.length : Int) := by omega
  rcases (show q = 0 ∨ q = 1 ∨ q = 2 ∨ q = 3 ∨ q = 4 ∨ 5 ≤ q by omega) with rfl | rfl | rfl | rfl | rfl | h5
  · obtain ⟨m, hm⟩ : ∃ m, L.length = m + 1 := ⟨L.length - 1, by omega⟩
    have HO := Lib.hid (show w6.ownsRow w.heap.size 9 1 (.slice (some ⟨g, 0, none⟩) m cv) (L.take m).length ((L.take m).map .string) by
      rw [List.map_take, List.length_take, Nat.min_eq_left (by omega)]
      exact own_mono (by omega) (own_prefixF O6.out (by omega)))
    have HP0 := Lib.hid (show ∀ s ∈ L.take m, s.size ≤ 400 from fun s hs => P4.out s (List.mem_of_mem_take hs))
    have hlen : (L.take m).length ≤ 6 := by rw [List.length_take]; omega
    have e1 : (L.length : Int) - 1 = (m : Int) := by omega
    have e2 : (m : Int) ≤ (cv : Int) := by omega
    have e3 : (0 : Int) ≤ (m : Int) := by omega
    have e4 : m ≤ cv := by omega
    have HM := Lib.hid hm
    clear hm
    go_wp2
    go_returns
    exact ⟨t, n, _, L.take m, rfl, HO.out, HP0.out, hlen, by omega, by omega, HB6.out⟩
  · go_wp2
    go_returns
    exact ⟨(t : Int) + 1, n, _, L, rfl, own_mono (by omega) O6.out, P4.out, by omega, by omega, by omega, HB6.out⟩
  · go_wp2
    go_returns
    exact ⟨t, (n : Int) + 1, _, L, rfl, own_mono (by omega) O6.out, P4.out, by omega, by omega, by omega, HB6.out⟩
  · go_wp2_with fail
    refine (pick_any (L.length : Nat) _ w.heap.size a c1 l1 (0 + 1 + 1 + 1 + 1) (by omega) (by omega) (by omega) H6.out).mono ?_
    rintro e w7 ⟨k, rfl, k0, k1, h7, k7⟩
    have k3 := k1 (by omega)
    have z7 := k7.size
    obtain ⟨k, rfl⟩ := Int.eq_ofNat_of_zero_le k0
    have hk : k < L.length := by omega
    have H7 := Lib.hid h7
    have K7 := Lib.hid (K6.out.trans k7)
    have O7 := Lib.hid (own_kept O6.out k7 (fun b hb e => by have := (O6.out.lt b hb).1; omega))
    clear h7 k7 k0 k1 H6 K6 O6
    obtain ⟨s, hs⟩ : ∃ s, L[k] = s := ⟨_, rfl⟩
    have hss : s.size ≤ 200 := by rw [← hs]; exact HP.out _ (List.getElem_mem hk)
    have ck : w7.cell? ⟨g, k, none⟩ = some (.string s) := by
      have := O7.out.cells (g := g) rfl k (.string s) (by rw [List.getElem?_map, List.getElem?_eq_getElem hk, hs]; rfl)
      rw [addr_add] at this
      simpa using this
    have HS := Lib.hid hs
    have hs16 : 16 ≤ s.size := by rw [← hs]; exact HPOS.out _ (List.getElem_mem hk)
    obtain ⟨ob, bb⟩ := ownsM_bytes (w := w7) (base := w7.heap.size) 5 s (Nat.le_refl _) (by unfold maxLen; omega)
    have kc := Lib.run_convert_string_bytes (P := Tryd.prog) w7 9 22 5 s Tryd.underlying9 Tryd.underlying22 Tryd.underlying5
    have BX := Lib.hid (show Box (Lib.bytesWorld w7 5 s) w7.heap.size (bCells s.data.toList) from box_bytes ob)
    have BB := Lib.hid bb
    have zb := bb.size
    have hgr := Lib.hid (grownCap_ge w7 s.size 0 5)
    obtain ⟨cap, hcap⟩ : ∃ cap, grownCap w7 s.size 0 5 = cap := ⟨_, rfl⟩
    rw [hcap] at kc hgr
    have hz8 : w7.heap.size < (Lib.bytesWorld w7 5 s).heap.size := by rw [Lib.bytesWorld_size]; omega
    generalize Lib.bytesWorld w7 5 s = w8 at BX BB kc zb hz8
    clear hs ob bb hcap
    go_wp2_with fail
    clear kc ck
    have HHK8 := Lib.hid (K7.out.trans (KeptOut.of_below (S := fun b => b = w.heap.size) BB.out))
    refine (pick_any (s.size : Nat) _ w.heap.size a c1 l1 (0 + 1 + 1 + 1 + 1 + 1) (by omega) (by omega) (by omega) (H7.out.below BB.out)).mono ?_
    rintro e w9 ⟨j, rfl, j0, j1, h9, k9⟩
    have j3 := j1 (by omega)
    have z9 := k9.size
    obtain ⟨j, rfl⟩ := Int.eq_ofNat_of_zero_le j0
    have hj : j < s.data.toList.length := by show j < s.size; omega
    have H9 := Lib.hid h9
    have K9 := Lib.hid (HHK8.out.trans k9)
    have BX9 := Lib.hid (BX.out.kept k9 (by omega))
    have O9 := Lib.hid (own_kept (own_below O7.out BB.out) k9 (fun b hb e => by have := (O7.out.lt b hb).1; omega))
    clear h9 k9 j0 j1 H7 K7 O7 BX HHK8
    go_wp2_with fail
    refine wp_region_slotsW (G := GByte w.heap.size w7.heap.size cap s k j (s.data.toList[j])) (S := SFr w9 w.heap.size a c1 l1 30) (by kernel_rfl) 12 83 rfl (by kernel_rfl) (fun W W' => KeptOut (fun b => b = w.heap.size) W W') (fun i v W W' h _ => by unfold GByte at h ⊢; split at h <;> exact h) ⟨(KeptOut.refl _ _).drew, 0 + 1 + 1 + 1 + 1 + 1 + 1, by simp, H9.out⟩ ?step (fun A W e => absurd e (by decide)) ?last
    case step =>
      intro i o A W kk K him ho hs0 hd hS hK
      obtain ⟨hkw, p3, hp3, hrd⟩ := hS
      have hr2 : w.heap.size < W.heap.size := hrd.lt
      have hszW := hkw.size
      match i, him, ho, hd, hK with
      | 0, _, ho, hd, hK =>
        obtain rfl := Option.some.inj ho
        have e : A.tmps.getD 10 undef = .slice (some ⟨w7.heap.size, 0, none⟩) s.size cap := hs0.keep (by kernel_rfl)
        go_simp
        exact hK _ _ (KeptOut.refl _ _) rfl ⟨hkw, p3, by omega, hrd⟩
      | 1, _, ho, hd, hK =>
        obtain rfl := Option.some.inj ho
        have e : A.tmps.getD 11 undef = .int .i64 (j : Int) := hs0.keep (by kernel_rfl)
        go_simp
        exact hK _ _ (KeptOut.refl _ _) rfl ⟨hkw, p3, by omega, hrd⟩
      | 2, _, ho, hd, hK =>
        obtain rfl := Option.some.inj ho
        have e : A.tmps.getD 10 undef = .slice (some ⟨w7.heap.size, 0, none⟩) s.size cap := hs0.keep (by kernel_rfl)
        go_simp
        exact hK _ _ (KeptOut.refl _ _) rfl ⟨hkw, p3, by omega, hrd⟩
      | 3, _, ho, hd, hK =>
        obtain rfl := Option.some.inj ho
        have e : A.tmps.getD 11 undef = .int .i64 (j : Int) := hs0.keep (by kernel_rfl)
        go_simp
        exact hK _ _ (KeptOut.refl _ _) rfl ⟨hkw, p3, by omega, hrd⟩
      | 4, _, ho, hd, hK =>
        obtain rfl := Option.some.inj ho
        have e0 : A.tmps.getD 57 undef = .slice (some ⟨w7.heap.size, 0, none⟩) s.size cap := hd ⟨2, .data⟩ (by simp) rfl
        have e1 : A.tmps.getD 58 undef = .int .i64 (j : Int) := hd ⟨3, .data⟩ (by simp) rfl
        have e0' := (Array.getD_eq_getD_getElem? ..).symm.trans e0
        have e1' := (Array.getD_eq_getD_getElem? ..).symm.trans e1
        have q0 : (0 : Int) ≤ (j : Int) := by omega
        have q1 : (j : Int) < (s.size : Int) := by omega
        go_simp
        exact hK _ _ (KeptOut.refl _ _) (by first | rfl | simp) ⟨hkw, p3, by omega, hrd⟩
      | 5, _, ho, hd, hK =>
        obtain rfl := Option.some.inj ho
        have e0 : A.tmps.getD 59 undef = .pointer (some ⟨w7.heap.size, j, none⟩) := hd ⟨4, .data⟩ (by simp) rfl
        have y := ((BX9.out.kept hkw (by omega)) j _ (bCells_get hj)).1
        have e0' := (Array.getD_eq_getD_getElem? ..).symm.trans e0
        go_simp
        exact hK _ _ (KeptOut.refl _ _) rfl ⟨hkw, p3, by omega, hrd⟩
      | 6, _, ho, hd, hK =>
        obtain rfl := Option.some.inj ho
        have e : A.tmps.getD 5 undef = .pointer (some ⟨w.heap.size, 0, none⟩) := hs0.keep (by kernel_rfl)
        go_simp
        exact hK _ _ (KeptOut.refl _ _) rfl ⟨hkw, p3, by omega, hrd⟩
      | 7, _, ho, hd, hK =>
        obtain rfl := Option.some.inj ho
        have e0 : A.tmps.getD 61 undef = .pointer (some ⟨w.heap.size, 0, none⟩) := hd ⟨6, .data⟩ (by simp) rfl
        go_simp
        refine (pick_any 100 _ w.heap.size a c1 l1 p3 (by omega) (by omega) (by omega) hrd).mono ?_
        rintro e w' ⟨q, rfl, q0, q1, h1, k1⟩
        obtain ⟨q, rfl⟩ := Int.eq_ofNat_of_zero_le q0
        have q2 := q1 (by omega)
        exact hK _ _ k1 ⟨q, by omega, rfl⟩ ⟨hkw.trans k1, p3 + 1, by omega, h1⟩
      | 8, _, ho, hd, hK =>
        obtain rfl := Option.some.inj ho
        obtain ⟨q, hq, e0⟩ := (show FNat 100 (A.tmps.getD 62 undef) from hd ⟨7, .data⟩ (by simp) rfl)
        have e0' := (Array.getD_eq_getD_getElem? ..).symm.trans e0
        have hw : IntKind.i64.wrap (1 + (q : Int)) = ((1 + q : Nat) : Int) := by rw [wrap_small _ (by omega) (by omega)]; omega
        go_simp
        exact hK _ _ (KeptOut.refl _ _) ⟨1 + q, by omega, by first | rfl | simp⟩ ⟨hkw, p3, by omega, hrd⟩
      | 9, _, ho, hd, hK =>
        obtain rfl := Option.some.inj ho
        obtain ⟨q, hq, e0⟩ := (show ∃ q : Nat, q ≤ 100 ∧ (A.tmps.getD 63 undef) = .int .i64 (q : Int) from hd ⟨8, .data⟩ (by simp) rfl)
        have e0' := (Array.getD_eq_getD_getElem? ..).symm.trans e0
        have hw : IntKind.u8.wrap (q : Int) = (q : Int) := wrap_byte hq
        go_simp
        exact hK _ _ (KeptOut.refl _ _) ⟨q, hq, by first | rfl | simp⟩ ⟨hkw, p3, by omega, hrd⟩
      | 10, _, ho, hd, hK =>
        obtain rfl := Option.some.inj ho
        have e0 : A.tmps.getD 60 undef = .int .u8 ((s.data.toList[j]).toNat : Int) := hd ⟨5, .data⟩ (by simp) rfl
        obtain ⟨q, hq, e1⟩ := (show ∃ q : Nat, q ≤ 100 ∧ (A.tmps.getD 64 undef) = .int .u8 (q : Int) from hd ⟨9, .data⟩ (by simp) rfl)
        have e0' := (Array.getD_eq_getD_getElem? ..).symm.trans e0
        have e1' := (Array.getD_eq_getD_getElem? ..).symm.trans e1
        go_simp
        exact hK _ _ (KeptOut.refl _ _) (let ⟨y, hy⟩ := bits_byte _ _; ⟨y, congrArg (Value.int .u8) hy⟩) ⟨hkw, p3, by omega, hrd⟩
      | 11, _, ho, hd, hK =>
        obtain rfl := Option.some.inj ho
        have e0 : A.tmps.getD 55 undef = .slice (some ⟨w7.heap.size, 0, none⟩) s.size cap := hd ⟨0, .data⟩ (by simp) rfl
        have e1 : A.tmps.getD 56 undef = .int .i64 (j : Int) := hd ⟨1, .data⟩ (by simp) rfl
        have e0' := (Array.getD_eq_getD_getElem? ..).symm.trans e0
        have e1' := (Array.getD_eq_getD_getElem? ..).symm.trans e1
        have q0 : (0 : Int) ≤ (j : Int) := by omega
        have q1 : (j : Int) < (s.size : Int) := by omega
        go_simp
        exact hK _ _ (KeptOut.refl _ _) (by first | rfl | simp) ⟨hkw, p3, by omega, hrd⟩
      | n + 12, him, ho, hd, hK => omega
    case last =>
      intro o A W K ho hs0 hG hS hK
      obtain ⟨hkw, p3, hp3, hrd⟩ := hS
      obtain rfl := Option.some.inj ho
      have e0 : A.tmps.getD 66 undef = .pointer (some ⟨w7.heap.size, j, none⟩) := hG 11 (by decide)
      obtain ⟨y, e1⟩ := (show ∃ y : UInt8, (A.tmps.getD 65 undef) = .int .u8 (y.toNat : Int) from hG 10 (by decide))
      have e0' := (Array.getD_eq_getD_getElem? ..).symm.trans e0
      have e1' := (Array.getD_eq_getD_getElem? ..).symm.trans e1
      have BW := BX9.out.kept hkw (by omega)
      obtain ⟨y0, f0⟩ := BW j _ (bCells_get hj)
      go_simp
      refine hK _ _ ?_
      have k5' : at_ A 5 = .pointer (some ⟨w.heap.size, 0, none⟩) := hs0.keep (by kernel_rfl)
      have k6' : at_ A 6 = .int .i64 (t : Int) := hs0.keep (by kernel_rfl)
      have k7' : at_ A 7 = .int .i64 (n : Int) := hs0.keep (by kernel_rfl)
      have k8' : at_ A 8 = .slice (some ⟨g, 0, none⟩) L.length cv := hs0.keep (by kernel_rfl)
      have k9' : at_ A 9 = .int .i64 (k : Int) := hs0.keep (by kernel_rfl)
      have k10' : at_ A 10 = .slice (some ⟨w7.heap.size, 0, none⟩) s.size cap := hs0.keep (by kernel_rfl)
      rw [act_lit (n := 83) hs0.size hs0.defers]
      change Exit.then _ _ _ { tmps := #[at_ A 0, at_ A 1, at_ A 2, at_ A 3, at_ A 4, at_ A 5, at_ A 6, at_ A 7, at_ A 8, at_ A 9, at_ A 10, at_ A 11, at_ A 12, at_ A 13, at_ A 14, at_ A 15, at_ A 16, at_ A 17, at_ A 18, at_ A 19, at_ A 20, at_ A 21, at_ A 22, at_ A 23, at_ A 24, at_ A 25, at_ A 26, at_ A 27, at_ A 28, at_ A 29, at_ A 30, at_ A 31, at_ A 32, at_ A 33, at_ A 34, at_ A 35, at_ A 36, at_ A 37, at_ A 38, at_ A 39, at_ A 40, at_ A 41, at_ A 42, at_ A 43, at_ A 44, at_ A 45, at_ A 46, at_ A 47, at_ A 48, at_ A 49, at_ A 50, at_ A 51, at_ A 52, at_ A 53, at_ A 54, at_ A 55, at_ A 56, at_ A 57, at_ A 58, at_ A 59, at_ A 60, at_ A 61, at_ A 62, at_ A 63, at_ A 64, at_ A 65, at_ A 66, at_ A 67, at_ A 68, at_ A 69, at_ A 70, at_ A 71, at_ A 72, at_ A 73, at_ A 74, at_ A 75, at_ A 76, at_ A 77, at_ A 78, at_ A 79, at_ A 80, at_ A 81, at_ A 82], defers := [] } _
      (try dsimp only)
      rw [k5', k6', k7', k8', k9', k10']
      generalize at_ A 0 = zz0
      generalize at_ A 1 = zz1
      generalize at_ A 2 = zz2
      generalize at_ A 3 = zz3
      generalize at_ A 4 = zz4
      generalize at_ A 11 = zz11
      generalize at_ A 12 = zz12
      generalize at_ A 13 = zz13
      generalize at_ A 14 = zz14
      generalize at_ A 15 = zz15
      generalize at_ A 16 = zz16
      generalize at_ A 17 = zz17
      generalize at_ A 18 = zz18
      generalize at_ A 19 = zz19
      generalize at_ A 20 = zz20
      generalize at_ A 21 = zz21
      generalize at_ A 22 = zz22
      generalize at_ A 23 = zz23
      generalize at_ A 24 = zz24
      generalize at_ A 25 = zz25
      generalize at_ A 26 = zz26
      generalize at_ A 27 = zz27
      generalize at_ A 28 = zz28
      generalize at_ A 29 = zz29
      generalize at_ A 30 = zz30
      generalize at_ A 31 = zz31
      generalize at_ A 32 = zz32
      generalize at_ A 33 = zz33
      generalize at_ A 34 = zz34
      generalize at_ A 35 = zz35
      generalize at_ A 36 = zz36
      generalize at_ A 37 = zz37
      generalize at_ A 38 = zz38
      generalize at_ A 39 = zz39
      generalize at_ A 40 = zz40
      generalize at_ A 41 = zz41
      generalize at_ A 42 = zz42
      generalize at_ A 43 = zz43
      generalize at_ A 44 = zz44
      generalize at_ A 45 = zz45
      generalize at_ A 46 = zz46
      generalize at_ A 47 = zz47
      generalize at_ A 48 = zz48
      generalize at_ A 49 = zz49
      generalize at_ A 50 = zz50
      generalize at_ A 51 = zz51
      generalize at_ A 52 = zz52
      generalize at_ A 53 = zz53
      generalize at_ A 54 = zz54
      generalize at_ A 55 = zz55
      generalize at_ A 56 = zz56
      generalize at_ A 57 = zz57
      generalize at_ A 58 = zz58
      generalize at_ A 59 = zz59
      generalize at_ A 60 = zz60
      generalize at_ A 61 = zz61
      generalize at_ A 62 = zz62
      generalize at_ A 63 = zz63
      generalize at_ A 64 = zz64
      generalize at_ A 65 = zz65
      generalize at_ A 66 = zz66
      generalize at_ A 67 = zz67
      generalize at_ A 68 = zz68
      generalize at_ A 69 = zz69
      generalize at_ A 70 = zz70
      generalize at_ A 71 = zz71
      generalize at_ A 72 = zz72
      generalize at_ A 73 = zz73
      generalize at_ A 74 = zz74
      generalize at_ A 75 = zz75
      generalize at_ A 76 = zz76
      generalize at_ A 77 = zz77
      generalize at_ A 78 = zz78
      generalize at_ A 79 = zz79
      generalize at_ A 80 = zz80
      generalize at_ A 81 = zz81
      generalize at_ A 82 = zz82
      have HBW := box_set BW j (.int .u8 (y.toNat : Int))
      rw [bCells_set] at HBW
      have KS : KeptOut (fun b => b = w7.heap.size) W (W.setCell ⟨w7.heap.size, j, none⟩ (.int .u8 (y.toNat : Int))) := (KeptOut.refl (fun b => b = w7.heap.size) W).setCell (p := ⟨w7.heap.size, j, none⟩) rfl _
      obtain ⟨W2, hW2⟩ : ∃ W2, W.setCell ⟨w7.heap.size, j, none⟩ (.int .u8 (y.toNat : Int)) = W2 := ⟨_, rfl⟩
      rw [hW2] at HBW KS ⊢
      have hsl : (s.data.toList.set j y).length = s.size := by rw [List.length_set]; rfl
      obtain ⟨M, hM⟩ : ∃ M, s.data.toList.set j y = M := ⟨_, rfl⟩
      rw [hM] at HBW hsl
      have hcv := run_convert_bytes_back (P := Tryd.prog) W2 22 9 5 ⟨w7.heap.size, 0, none⟩ cap M Tryd.underlying22 Tryd.underlying5 Tryd.underlying9 (fun i hi => by
        rw [addr_add, Nat.zero_add]
        exact (HBW i _ (bCells_get hi)).1)
      rw [hsl] at hcv
      have zW2 := KS.size
      have KW2 := Lib.hid (show KeptOut (fun b => b = w.heap.size) w1 W2 from (K9.out.trans hkw).step KS (fun b hb => .inl (by omega)))
      have OW2 := Lib.hid (own_kept (own_kept O9.out hkw (fun b hb e => by have := (O9.out.lt b hb).1; omega)) KS (fun b hb e => by have h8 := (O9.out.lt b hb).2; simp [Value.ownBlock] at hb; omega))
      obtain ⟨⟨vo, co⟩, fo⟩ := own_cells OW2.out (Below.refl _ _) k (by omega)
      have k0 : (0 : Int) ≤ (k : Int) := by omega
      have k1 : (k : Int) < (L.length : Int) := by omega
      have hsz' : (⟨M.toArray⟩ : ByteArray).size ≤ 400 := by show M.toArray.size ≤ 400; rw [List.size_toArray, hsl]; omega
      clear hW2 hM HBW KS hG hs0 hK hkw e0 e1 e0' e1' BW y0 f0 k5' k6' k7' k8' k9' k10'
      have HOF := Lib.hid (show (W2.setCell ⟨g, k, none⟩ (.string ⟨M.toArray⟩)).ownsRow w.heap.size 9 1 (.slice (some ⟨g, 0, none⟩) L.length cv) (L.set k ⟨M.toArray⟩).length ((L.set k ⟨M.toArray⟩).map .string) by
        rw [List.length_set, List.map_set]
        exact own_mono (by omega) (OW2.out.stored k (.string ⟨M.toArray⟩)).1)
      have HBF := Lib.hid (show Below w.heap.size w (W2.setCell ⟨g, k, none⟩ (.string ⟨M.toArray⟩)) from (KW2.out.step ((KeptOut.refl (fun b => b = g) W2).setCell (p := ⟨g, k, none⟩) rfl (.string ⟨M.toArray⟩)) (fun b hb => .inl (by omega))).below B1.out B1.out.size (fun q hq => by omega))
      go_wp2
      go_returns
      exact ⟨t, n, _, L.set k ⟨M.toArray⟩, rfl, HOF.out, fun y hy => (List.mem_or_eq_of_mem_set hy).elim (P4.out y) (fun h => by rw [h]; exact hsz'), by rw [List.length_set]; omega, by omega, by omega, HBF.out⟩
  · go_wp2_with (first
      | (at_builtin; refine wpList_append_own _ rfl _ _ 25 rfl w4.heap.size 9 i0 (.string ⟨#[]⟩) 1 16 Tryd.underlying25 hi hz0 hz1 hz2 rfl (by decide) _ _ _ rfl (O7.out.alloc _) ⟨w7.heap.size, 0, none⟩ 1 1 [.string s] rfl rfl (cellsNewD w7 _ _) (by simp [Value.oneCell']) (by unfold maxLen; omega) (by omega) (by simp; omega) ?_; intro v8 w8 o8 g8 _)
      | (go_at_call 24; refine (of_any _ w.heap.size a c1 l1 (0 + 1 + 1 + 1 + 1) (by omega) (H6.out.below (below_alloc w6 _)) w6.heap.size 0 3 litA3 (by decide) (by decide) (by omega) (lit_cells w6 litA3 _)).mono ?_; rintro e w7 ⟨s, hs, rfl, h7, k7⟩; have hs24 := litA3_size s hs; have z7 := k7.size; rw [World.size_alloc] at z7; have K67 := Lib.hid ((KeptOut.of_below (S := fun b => b = w.heap.size) (below_alloc w6 (.cells (litA3.map Value.string).toArray 9))).trans k7); have K7 := Lib.hid (K6.out.trans K67.out); have O7 := Lib.hid (own_kept O6.out K67.out (fun b hb e => by have := (O6.out.lt b hb).1; omega))))
    have HO8 := Lib.hid (show w8.ownsRow w.heap.size 9 1 v8 (L ++ [s]).length ((L ++ [s]).map .string) by
      rw [List.map_append, List.length_append]; exact own_mono (by omega) o8)
    have HB8 := Lib.hid (show Below w.heap.size w w8 from ((K7.out.trans (KeptOut.of_below (below_alloc _ _))).step (kept_of_grown g8) (fun b hb => .inl (by have := (O7.out.lt b hb).1; omega))).below B1.out B1.out.size (fun q hq => by omega))
    clear o8 g8
    go_returns
    exact ⟨t, n, v8, L ++ [s], rfl, HO8.out, fun y hy => (List.mem_append.1 hy).elim (P4.out y) (fun h => by rw [List.mem_singleton.1 h]; omega), by rw [List.length_append]; simp only [List.length_cons, List.length_nil]; omega, by omega, by omega, HB8.out⟩
  · have a0 : ¬ (q : Int) = 0 := by omega
    have b0 : ((q : Int) == 0) = false := by rw [beq_eq_false_iff_ne]; omega
    have d0 : (q == 0) = false := by rw [beq_eq_false_iff_ne]; omega
    have a1 : ¬ (q : Int) = 1 := by omega
    have b1 : ((q : Int) == 1) = false := by rw [beq_eq_false_iff_ne]; omega
    have d1 : (q == 1) = false := by rw [beq_eq_false_iff_ne]; omega
    have a2 : ¬ (q : Int) = 2 := by omega
    have b2 : ((q : Int) == 2) = false := by rw [beq_eq_false_iff_ne]; omega
    have d2 : (q == 2) = false := by rw [beq_eq_false_iff_ne]; omega
    have a3 : ¬ (q : Int) = 3 := by omega
    have b3 : ((q : Int) == 3) = false := by rw [beq_eq_false_iff_ne]; omega
    have d3 : (q == 3) = false := by rw [beq_eq_false_iff_ne]; omega
    have a4 : ¬ (q : Int) = 4 := by omega
    have b4 : ((q : Int) == 4) = false := by rw [beq_eq_false_iff_ne]; omega
    have d4 : (q == 4) = false := by rw [beq_eq_false_iff_ne]; omega
    go_wp2
    go_returns
    exact ⟨t, n, _, L, rfl, own_mono (by omega) O6.out, P4.out, by omega, by omega, by omega, HB6.out⟩
end Go.Proofs.YtakcmjnfkcoilaaDoor
