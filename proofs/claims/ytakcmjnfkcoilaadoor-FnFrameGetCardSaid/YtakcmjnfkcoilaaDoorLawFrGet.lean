import Derived.Test.YtakcmjnfkcoilaaDoorFrameGet
import Derived.Test.YtakcmjnfkcoilaaDoorShape
import Derived.Test.YtakcmjnfkcoilaaDoorFramePI
import Derived.Test.YtakcmjnfkcoilaaDoorDrawFrame
import Derived.Test.YtakcmjnfkcoilaaDoorWmW
import Derived.Test.YtakcmjnfkcoilaaDoorFrT
import Derived.WalkLawsBesides
/- The walk of FnFrameGet. -/
namespace Go.Proofs.YtakcmjnfkcoilaaDoor
open Go Go.RowKit

theorem getI_back {t n : Int} {x : ByteArray} (h : frameOkB t n x = true) (e : List ByteArray) : getI t n (putI t n x ++ e) = (x, (putI t n x).length) := by
  have h2 := h
  simp only [frameOkB, Bool.and_eq_true, decide_eq_true_eq] at h2
  obtain ⟨⟨h3, h4⟩, h5⟩ := h2
  unfold getI
  rw [h3, h4, Bool.and_self, if_pos rfl, putI_yes h]
  have hf : FrameIs t.toNat n.toNat x.data.toList (lists (putB t.toNat n.toNat x ++ e)) := by
    refine ⟨h5, ?_⟩
    have e1 : lists (putB t.toNat n.toNat x ++ e) = putL t.toNat n.toNat x.data.toList ++ lists e := by rw [← lists_putB]; simp [lists]
    rw [e1, List.take_append_of_le_length (by rw [putL_len]; exact Nat.le_refl _), List.take_of_length_le (by rw [putL_len]; exact Nat.le_refl _)]
  unfold getB
  rw [frameGet_yes hf, putB_len]
  exact Prod.ext (by simp [mkB]) rfl
theorem sum_small {l : List ByteArray} {c : Nat} : (∀ s ∈ l, s.size ≤ c) → sumSize l ≤ l.length * c := by
  induction l with
  | nil => intro _; simp [sumSize]
  | cons x l ih =>
    intro h
    have h1 := ih (fun y hy => h y (List.mem_cons_of_mem _ hy))
    have h2 := h x List.mem_cons_self
    have e : sumSize (x :: l) = x.size + sumSize l := by simp [sumSize]
    rw [e, List.length_cons, Nat.add_mul]
    omega
theorem infoStrG : (Tryd.prog.info? 9).map (fun i => (i.zero, i.size, i.bytes)) = some (some (.string ⟨#[]⟩), 1, 16) := by kernel_rfl
theorem cellsNewF (w : World) (cs : List Value) (e : TypeId) : ∀ j u, cs[j]? = some u → (w.alloc (.cells cs.toArray e)).cell? ((⟨w.heap.size, 0, none⟩ : Addr).add j) = some u := by
  intro j u h
  rw [addr_add, Nat.zero_add]
  exact (Box.alloc w cs.toArray e j u (by simpa using h)).1
theorem own_capF {w : World} {base : Nat} {e : TypeId} {size : Nat} {a : Option Addr} {n c : Nat} {xs : List Value} (h : w.ownsRow base e size (.slice a n c) n xs) : n ≤ c := by
  rcases h.2 with ⟨hv, h0⟩ | ⟨g, cap, cur, hv, hb, hg, h1, h2, _⟩
  · omega
  · simp only [Value.slice.injEq] at hv
    omega
theorem str_is {w : World} {base m : Nat} {e : TypeId} {a : Option Addr} {c : Nat} {l : List ByteArray} (hm : l.length = m) (hl : m ≤ maxLen) (hs : ∀ s ∈ l, s.size ≤ maxLen) (h : w.ownsRow base e 1 (.slice a m c) m (l.map .string)) : StrS w a l := by
  subst hm
  exact own_str hl hs h
theorem implGet_is (l : List ByteArray) {m : Nat} (hm : l.length = m) {x : ByteArray} {k : Nat} {t n : Int} (hg : getI t n l = (x, k)) (ht : -9223372036854775808 ≤ t ∧ t ≤ 9223372036854775807) (hn : -9223372036854775808 ≤ n ∧ n ≤ 9223372036854775807) (a : Option Addr) (c : Nat) (w : World) (hl : StrS w a l) (hca : m ≤ c) (hlen : m ≤ 1048576) (hz : sumSize l ≤ 1048576) (hTab : FrT w) :
    Calls Tryd.prog 11 #[.int .i64 t, .int .i64 n, .slice a m c] w fun e w' => e = .returned (.tuple #[.string x, .int .i64 (k : Int)]) ∧ Below w.heap.size w w' := by
  subst hm
  have h := implFrameGet_any t n ht hn a c l w hl hca hlen hz hTab
  unfold GetOutI at h
  rw [hg] at h
  exact h
def extra2 : List ByteArray := [⟨#[98, 101, 104, 105, 110, 100]⟩, ⟨#[]⟩]

theorem own_partsF {w : World} {base : Nat} {e : TypeId} {size : Nat} {a : Option Addr} {n c : Nat} {xs : List Value} (h : w.ownsRow base e size (.slice a n c) n xs) (hn : 0 < n) : ∃ g, a = some ⟨g, 0, none⟩ ∧ n ≤ c ∧ base ≤ g ∧ g < w.heap.size := by
  rcases h.2 with ⟨_, h0⟩ | ⟨g, cap, cur, hv, hb, hg, h1, h2, _⟩
  · omega
  · simp only [Value.slice.injEq] at hv
    obtain ⟨rfl, _, rfl⟩ := hv
    exact ⟨g, rfl, h1, hb, (Array.getElem?_eq_some_iff.1 hg).1⟩
theorem extra2_size : ∀ s ∈ extra2, s.size ≤ 24 := by
  intro s hs
  simp only [extra2, List.mem_cons, List.not_mem_nil, or_false] at hs
  rcases hs with rfl | rfl <;> decide
set_option maxRecDepth 100000 in
set_option maxHeartbeats 2000000 in
theorem fnFrameGetWalk0 (a : Option Addr) (c : Nat) (l : List UInt8) {w : World} (hl : l.length ≤ c) (hc : c ≤ maxLen) (h : BytesS w a l) (hTab : FrT w) :
    Calls Tryd.prog 3 #[.slice a l.length c] w fun e w' => e = .returned (.bool true) ∧ Below w.heap.size w w' := by
  obtain ⟨i0, hi, hz0, hz1, hz2⟩ := info_parts infoStrG
  have hcl := hc
  unfold maxLen at hcl
  have HTab := Lib.hid hTab
  clear hTab
  by_cases hb : (1048576 : Int) < (l.length : Int)
  · go_enter Tryd.func3, Tryd.ntmps3
    go_wp2
    go_ret
    exact ⟨rfl, Below.refl _ _⟩
  have hb1 : (l.length : Int) ≤ 1048576 := by omega
  clear hb
  go_enter Tryd.func3, Tryd.ntmps3
  go_wp2_with fail
  refine (drawFramePut_any a c l _ hl hc h).mono ?_
  rintro e w1 ⟨t, n, x, rfl, ht, hn, hx, b1⟩
  have z1 := b1.size
  have HT1 := Lib.hid (HTab.out.below b1)
  have B1 := Lib.hid b1
  obtain ⟨L, hL⟩ : ∃ L, L = putI t n x := ⟨_, rfl⟩
  obtain ⟨hLn, hLs⟩ := putI_small t n x
  rw [← hL] at hLn hLs
  have HL := Lib.hid hL
  have HLS := Lib.hid hLs
  have hLok : ∀ s ∈ L, s.size ≤ maxLen := fun s hs => by have := hLs s hs; unfold maxLen; omega
  have HOK := Lib.hid hLok
  clear hL hLs hLok b1
  go_wp2_with fail
  refine (implFramePut_any t n x (by unfold maxLen; omega) _ HT1.out).mono ?_
  rintro e w2 ⟨v2, rfl, o2, b2⟩
  rw [← HL.out] at o2
  obtain ⟨a2, c2, rfl⟩ := own_shape o2
  have z2 := b2.size
  have O2 := Lib.hid o2
  have HT2 := Lib.hid (HT1.out.below b2)
  have B2 := Lib.hid (B1.out.trans (b2.mono z1))
  clear o2 b2
  go_wp2_with fail
  refine (specFramePut_any t n x (by unfold maxLen; omega) _).mono ?_
  rintro e w3 ⟨v3, rfl, o3, b3⟩
  rw [← HL.out] at o3
  obtain ⟨a3, c3, rfl⟩ := own_shape o3
  have z3 := b3.size
  have O3 := Lib.hid o3
  have P3 := Lib.hid (own_below O2.out b3)
  have HT3 := Lib.hid (HT2.out.below b3)
  have B3 := Lib.hid (B2.out.trans (b3.mono (by omega)))
  clear o3 b3
  go_wp2_with fail
  have S2 := Lib.hid (own_str (by unfold maxLen; omega) HOK.out P3.out)
  have S3 := Lib.hid (own_str (by unfold maxLen; omega) HOK.out O3.out)
  refine (wmWords_w _ _ _ _ L _ S2.out S3.out).mono ?_
  rintro e w4 ⟨rfl, b4⟩
  have z4 := b4.size
  have P4 := Lib.hid (own_below P3.out b4)
  have S4 := Lib.hid (S2.out.below b4)
  have HT4 := Lib.hid (HT3.out.below b4)
  have B4 := Lib.hid (B3.out.trans (b4.mono (by omega)))
  clear b4 O2 O3 P3 S2 S3
  cases hok : frameOkB t n x with
  | false =>
    have hL0 : L = [] := by rw [HL.out]; exact putI_no hok
    subst hL0
    have hcond : t < 0 ∨ n < 0 ∨ 99999999 < t ∨ 99999999 < n ∨ 2000 < (x.size : Int) := by
      unfold frameOkB inB at hok
      simp only [Bool.and_eq_false_iff, decide_eq_false_iff_not] at hok
      omega
    have HC := Lib.hid hcond
    clear hok hcond HL
    by_cases g1 : t < 0
    · go_wp2
      all_goals (go_ret; exact ⟨rfl, B4.out⟩)
    by_cases g2 : n < 0
    · go_wp2
      all_goals (go_ret; exact ⟨rfl, B4.out⟩)
    by_cases g3 : 99999999 < t
    · go_wp2
      all_goals (go_ret; exact ⟨rfl, B4.out⟩)
    by_cases g4 : 99999999 < n
    · go_wp2
      all_goals (go_ret; exact ⟨rfl, B4.out⟩)
    have g5 : 2000 < (x.size : Int) := by have := HC.out; omega
    go_wp2
    go_ret
    exact ⟨ret_bool (by first | (simp; done) | (simp; omega)), B4.out⟩
  | true =>
    have hL1 : 1 ≤ L.length := by rw [HL.out]; exact putI_none hok
    have HG := Lib.hid (show getI t n (L ++ extra2) = (x, L.length) by rw [HL.out]; exact getI_back hok extra2)
    have hne : L.length ≠ 0 := by omega
    have hneb : (L.length == 0) = false := by rw [beq_eq_false_iff_ne]; omega
    have hni : ¬ (L.length : Int) = 0 := by omega
    have hnib : ((L.length : Int) == 0) = false := by rw [beq_eq_false_iff_ne]; omega
    have HOKB := Lib.hid hok
    clear hok HL
    go_wp2_with fail
    go_loopw [7] (fun i wr => ∃ k : Nat, k ≤ L.length ∧ i = .int .i64 k ∧ Below w4.heap.size w4 wr) (fun i _ => L.length - (intOf i).toNat)
    case atStart => exact ⟨0, Nat.zero_le _, rfl, Below.refl _ _⟩
    case round =>
      obtain ⟨k, hk, rfl, hbel⟩ := hrel
      have HB := Lib.hid hbel
      have zb := hbel.size
      by_cases hlt : k < L.length
      · obtain ⟨bb, ob, rfl, hcb⟩ := S4.out.2.2.resolve_left (fun e => by rw [e] at hlt; simp at hlt)
        have c1 : wr.cell? ⟨bb, ob + k, none⟩ = some (.string L[k]) := by
          rw [hbel.cell (by have := World.block_lt_of_cell? w4 _ (hcb k hlt); simpa using this)]; exact hcb k hlt
        have hsz := HLS.out _ (List.getElem_mem hlt)
        have hszi : ¬ 200 < (L[k].size : Int) := by omega
        clear hcb hbel
        go_wp2
        go_roundw
        case rel => exact ⟨k + 1, by omega, by go_num, HB.out⟩
        case measure => simp [intOf]; omega
      · clear hbel
        obtain ⟨g, rfl, hgc, hg0, hg1⟩ := own_partsF (own_below P4.out HB.out) (by omega)
        have P5 := Lib.hid (own_below P4.out HB.out)
        have HT5 := Lib.hid (HT4.out.below HB.out)
        obtain rfl : k = L.length := by omega
        have HE0 := Lib.hid (World.ownsRow_lit (base := w4.heap.size) (e := 9) (size := 1) wr #[] 0 zb (Nat.zero_le _) rfl)
        have HNW := Lib.hid (show ∀ j u, (L.map Value.string)[j]? = some u → (wr.alloc (.cells #[] 9)).cell? ((⟨g, 0, none⟩ : Addr).add j) = some u from fun j u hu => by
          have h1 := P5.out.cells (g := g) rfl j u hu
          exact ((below_alloc wr (.cells #[] 9)).cell (by have := World.block_lt_of_cell? wr _ h1; simpa using this)).trans h1)
        clear hlt hk
        go_wp2_with (first
          | (at_builtin; refine wpList_append_own _ rfl _ _ 25 rfl w4.heap.size 9 i0 (.string ⟨#[]⟩) 1 16 Tryd.underlying25 hi hz0 hz1 hz2 rfl (by decide) _ _ _ rfl (o6.alloc _) ⟨w6.heap.size, 0, none⟩ 2 2 [.string ⟨#[98, 101, 104, 105, 110, 100]⟩, .string ⟨#[]⟩] rfl rfl (cellsNewF w6 _ _) (by simp [Value.oneCell']) (by unfold maxLen; omega) (by omega) (by simp; omega) ?_; intro v7 w7 o7 g7 _; obtain ⟨a7, c7, rfl⟩ := own_shape o7; have hb7 : Below w4.heap.size w6 w7 := ((Below.refl w4.heap.size w6).alloc (by omega) _).grown g7 (by simp; omega) (fun q hq => (o6.lt q hq).1); have hlx : (L ++ extra2).length = L.length + 2 := (by simp [extra2]); have S7 := Lib.hid (str_is hlx (by unfold maxLen; omega) (fun s hs => (List.mem_append.1 hs).elim (HOK.out s) (fun h => by have := extra2_size s h; unfold maxLen; omega)) (show w7.ownsRow w4.heap.size 9 1 (.slice a7 (L.length + 2) c7) (L.length + 2) ((L ++ extra2).map Value.string) by rw [List.map_append]; exact o7)); have hc7 := own_capF o7)
          | (at_builtin; refine wpList_append_own _ rfl _ _ 25 rfl w4.heap.size 9 i0 (.string ⟨#[]⟩) 1 16 Tryd.underlying25 hi hz0 hz1 hz2 rfl (by decide) _ _ _ rfl HE0.out ⟨g, 0, none⟩ L.length c2 (L.map Value.string) rfl (by simp) HNW.out (by simp [Value.oneCell']) (by unfold maxLen; omega) (by omega) (by simp; omega) ?_; intro v6 w6 o6 g6 _; have o6 : w6.ownsRow w4.heap.size 9 1 v6 L.length (L.map Value.string) := (by simpa using o6); obtain ⟨a6, c6, rfl⟩ := own_shape o6; have z6 := (kept_of_grown g6).size; rw [World.size_alloc] at z6; have hb6 : Below w4.heap.size wr w6 := ((Below.refl w4.heap.size wr).alloc zb _).grown g6 (by simp; omega) (fun q hq => (HE0.out.lt q hq).1))
          | (go_at_call 11; refine (implGet_is (L ++ extra2) hlx HG.out (by omega) (by omega) _ _ _ S7.out hc7 (by omega) (by have := sum_small (c := 200) (l := L ++ extra2) (fun s hs => (List.mem_append.1 hs).elim (HLS.out s) (fun h => by have := extra2_size s h; omega)); have h9 : (L ++ extra2).length * 200 ≤ 17 * 200 := Nat.mul_le_mul_right _ (by omega); omega) (HTab.out.below (((B4.out.trans (HB.out.mono (by omega))).trans (hb6.mono (by omega))).trans (hb7.mono (by omega))))).mono ?_; rintro e w8 ⟨rfl, b8⟩))
        go_wp2
        go_ret
        exact ⟨ret_bool (by simp), ((((B4.out.trans (HB.out.mono (by omega))).trans (hb6.mono (by omega))).trans (hb7.mono (by omega))).trans (b8.mono (by have := hb6.size; have := hb7.size; omega)))⟩
theorem fnFrameGetWalk (a : Option Addr) (c : Nat) (l : List UInt8) (hl : l.length ≤ c) (hc : c ≤ maxLen) {w : World} (h : BytesS w a l) (h1 : HashT w) (h2 : Lib.TabIs Tryd.prog w "internal/strconv.uint64pow10" .u64 Lib.pow10Tab) :
    Calls Tryd.prog 3 #[.slice a l.length c] w fun e w' => e = .returned (.bool true) ∧ Below w.heap.size w w' :=
  fnFrameGetWalk0 a c l hl hc h ⟨h1, h2⟩
end Go.Proofs.YtakcmjnfkcoilaaDoor
