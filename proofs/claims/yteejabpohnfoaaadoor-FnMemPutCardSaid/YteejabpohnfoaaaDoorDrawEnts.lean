import Derived.Test.YteejabpohnfoaaaDoorDrawKeyE
import Derived.Test.YteejabpohnfoaaaDoorHasPut
import Derived.Test.YteejabpohnfoaaaDoorDec
/- Drawn lists of entries. -/
namespace Go.Proofs.YteejabpohnfoaaaDoor
open Go Go.RowKit

set_option maxRecDepth 100000 in
set_option maxHeartbeats 800000 in
theorem pad_any (n : Nat) (w : World) (hn : n ≤ 1000) :
    Calls Tryd.prog 62 #[.int .i64 n] w fun e w' => (∃ s : ByteArray, e = .returned (.string s) ∧ s.size ≤ 1010) ∧ Below w.heap.size w w' := by
  have hd := decB_size n
  obtain ⟨d, hdd⟩ : ∃ d, d = decB n := ⟨_, rfl⟩
  rw [← hdd] at hd
  have HD := Lib.hid hdd
  clear hdd
  go_enter Tryd.func62, Tryd.ntmps62
  go_wp2_with fail
  refine (dec_any n _ (by omega)).mono ?_
  rintro e w1 ⟨rfl, b1⟩
  rw [← HD.out]
  go_wp2
  go_loopw [3] (fun v wr => ∃ s : ByteArray, v = .string s ∧ s.size ≤ 1010 ∧ Below w.heap.size w wr) (fun v _ => 8 - (match v with | .string s => s.size | _ => 0))
  case atStart => exact ⟨d, rfl, by omega, b1⟩
  case round =>
    obtain ⟨s, rfl, hs, hb⟩ := hrel
    by_cases h8 : s.size < 8
    · have h8i : (s.size : Int) < 8 := by omega
      have hz : ((⟨#[48]⟩ : ByteArray) ++ s).size = 1 + s.size := by rw [ByteArray.size_append]; rfl
      go_wp2
      go_roundw
      case rel => exact ⟨_, rfl, by rw [hz]; omega, hb⟩
      case measure => show 8 - ((⟨#[48]⟩ : ByteArray) ++ s).size < 8 - s.size; rw [hz]; omega
    · have h8i : (8 : Int) ≤ (s.size : Int) := by omega
      go_wp2
      go_ret
      exact ⟨⟨s, rfl, hs⟩, hb⟩

/-- no text of it is too long -/
def AnyE (L : List EntryD) : Prop := ∀ x ∈ L, x.1.size ≤ 3000 ∧ x.2.2.2.size ≤ 3000
theorem AnyE.ok {L : List EntryD} (h : AnyE L) : ∀ x ∈ L, OkEntry x := fun x hx => by have := h x hx; unfold OkEntry maxLen; omega
theorem AnyE.put {L : List EntryD} {e : EntryD} (h : AnyE L) (h1 : e.1.size ≤ 3000) (h2 : e.2.2.2.size ≤ 3000) : AnyE (putE L e) := fun x hx => (putE_mem hx).elim (fun q => by rw [q]; exact ⟨h1, h2⟩) (h x)
theorem own_cap {w : World} {base : Nat} {e : TypeId} {size : Nat} {a : Option Addr} {n c : Nat} {xs : List Value} (h : w.ownsRow base e size (.slice a n c) n xs) : n ≤ c := by
  rcases h.2 with ⟨hv, h0⟩ | ⟨g, cap, cur, hv, hb, hg, h1, h2, _⟩
  · omega
  · simp only [Value.slice.injEq] at hv
    omega
def DrawEPost (w : World) (r : Nat) (a : Option Addr) (c : Nat) (l : List UInt8) (p n m : Nat) (e : Ending) (w' : World) : Prop :=
  ∃ (b : Option Addr) (cb : Nat) (L : List EntryD) (p' : Nat), e = .returned (.slice b L.length cb) ∧ ElS 4 encEntry w' b L ∧ L.length ≤ cb ∧ (∀ k, b.map Addr.block = some k → w.heap.size ≤ k) ∧ AnyE L ∧ L.length ≤ m ∧ Rd w' r a c l p' ∧ p' ≤ p + n ∧ KeptOut (fun b => b = r) w w'

set_option maxRecDepth 100000 in
set_option maxHeartbeats 1600000 in
theorem l12Entries_any (w : World) (r : Nat) (a : Option Addr) (c : Nat) (l : List UInt8) (p : Nat) (hp : p ≤ 100000000) (h : Rd w r a c l p) :
    Calls Tryd.prog 44 #[.pointer (some ⟨r, 0, none⟩)] w (DrawEPost w r a c l p 40 240) := by
  have hr : r < w.heap.size := h.lt
  have HAR := Lib.hid (rd_har h)
  have HR := Lib.hid h
  clear h
  go_enter Tryd.func44, Tryd.ntmps44
  go_wp2_with fail
  refine (pick_any 10 _ r a c l p (by omega) (by omega) (by omega) (HR.out.below (below_alloc w _))).mono ?_
  rintro e w1 ⟨q, rfl, q0, q1, h1, k1⟩
  have q1' := q1 (by omega)
  obtain ⟨qn, rfl⟩ := Int.eq_ofNat_of_zero_le q0
  have K1 := Lib.hid ((KeptOut.of_below (S := fun b => b = r) (below_alloc w (.cells #[] 31))).trans k1)
  have O1 := Lib.hid (own_kept (own_lit0 (base := w.heap.size) w 31 4 w.heap.size rfl (Nat.le_refl _)) k1 (fun k hk e => by have := own_blk hk; omega))
  have H1 := Lib.hid h1
  clear h1 k1 q1 HR
  go_wp2_with fail
  go_loopw [3, 4] (fun v3 v4 wr => ∃ (q p' : Nat) (L : List EntryD), q ≤ 9 ∧ v4 = .int .i64 q ∧ p' + 4 * q ≤ p + 37 ∧ L.length + q ≤ 9 ∧ AnyE L ∧ wr.ownsRow w.heap.size 31 4 v3 L.length (L.flatMap encEntry) ∧ Rd wr r a c l p' ∧ KeptOut (fun b => b = r) w wr) (fun _ v4 _ => (intOf v4).toNat)
  case atStart => exact ⟨qn, p + 1, [], by omega, rfl, by omega, by simp; omega, fun x hx => by simp at hx, O1.out, H1.out, K1.out⟩
  case round =>
    clear O1 H1 K1
    obtain ⟨q, p', L, hq, rfl, hpp, hL, hE, hown, hrd, hk0⟩ := hrel
    obtain ⟨va, vc, rfl⟩ := own_shape hown
    have HO := Lib.hid hown
    have HRD := Lib.hid hrd
    have HK := Lib.hid hk0
    have HE := Lib.hid hE
    have hz0 := hk0.size
    clear hown hrd hk0 hE
    by_cases h0 : q = 0
    · subst h0
      go_wp2_with fail
      refine (pick_any 30 _ r a c l p' (by omega) (by omega) (by omega) HRD.out).mono ?_
      rintro e w2 ⟨q3, rfl, q30, q31, h2, k2⟩
      have H2 := Lib.hid h2
      have K2 := Lib.hid (HK.out.trans k2)
      have O2 := Lib.hid (own_kept HO.out k2 (fun k hk e => by have := (HO.out.lt k hk).1; omega))
      have z2 := k2.size
      clear h2 k2 q31 HRD HK HO
      by_cases hq3 : q3 = 0
      · subst hq3
        go_wp2_with fail
        go_loopw [3, 6] (fun v3 v6 wr => ∃ (i : Nat) (M : List EntryD), i ≤ 240 ∧ v6 = .int .i64 i ∧ i ≤ M.length ∧ M.length ≤ 9 + i ∧ AnyE M ∧ wr.ownsRow w.heap.size 31 4 v3 M.length (M.flatMap encEntry) ∧ Rd wr r a c l (p' + 1) ∧ KeptOut (fun b => b = r) w wr) (fun _ v6 _ => 240 - (intOf v6).toNat)
        case atStart => exact ⟨0, L, by omega, rfl, by omega, by omega, HE.out, O2.out, H2.out, K2.out⟩
        case round =>
          clear O2 H2 K2 HE
          obtain ⟨i, M, hi, rfl, hM0, hM, hE, hown, hrd, hk0⟩ := hrel
          obtain ⟨va, vc, rfl⟩ := own_shape hown
          have HO := Lib.hid hown
          have HRD := Lib.hid hrd
          have HK := Lib.hid hk0
          have HE := Lib.hid hE
          have hz0 := hk0.size
          have hcv := own_cap hown
          clear hown hrd hk0 hE
          by_cases hlt : i < 240
          · have hli : (i : Int) < 240 := by omega
            go_wp2_with fail
            refine (pad_any i _ (by omega)).mono ?_
            rintro e w3 ⟨⟨s, rfl, hs⟩, b3⟩
            have z3 := b3.size
            have hxs : ((⟨#[120, 46]⟩ : ByteArray) ++ s).size ≤ 3000 := by rw [ByteArray.size_append]; show 2 + s.size ≤ 3000; omega
            obtain ⟨xs, hxs2⟩ : ∃ xs, xs = (⟨#[120, 46]⟩ : ByteArray) ++ s := ⟨_, rfl⟩
            have O3 := Lib.hid (own_below (own_below HO.out b3) (below_alloc w3 (.cells #[.string ((⟨#[120, 46]⟩ : ByteArray) ++ s), .int .i64 1, .bool false, .string ⟨#[]⟩] 31)))
            go_wp2_with fail
            refine (specPut_any _ _ M ((⟨#[120, 46]⟩ : ByteArray) ++ s) 1 false ⟨#[]⟩ _ (by omega) hcv (own_el encEntry_len (by unfold maxLen; omega) O3.out)).mono ?_
            rintro e w4 ⟨v4, rfl, o4, b4⟩
            have z4 := b4.size
            simp only [World.size_alloc] at z4
            have B4 : Below wr.heap.size wr w4 := (b3.alloc z3 _).trans (b4.mono (by simp; omega))
            have O4 := Lib.hid (own_mono (show w.heap.size ≤ (w3.alloc (.cells #[.string ((⟨#[120, 46]⟩ : ByteArray) ++ s), .int .i64 1, .bool false, .string ⟨#[]⟩] 31)).heap.size by simp; omega) o4)
            have hpl := putE_len M ((⟨#[120, 46]⟩ : ByteArray) ++ s, 1, false, ⟨#[]⟩)
            clear o4 b4
            go_wp2
            go_roundw
            case rel => exact ⟨i + 1, _, by omega, by go_num, by rw [hpl]; omega, by rw [hpl]; omega, HE.out.put hxs (by simp [ByteArray.size]), O4.out, HRD.out.below B4, HK.out.trans (.of_below B4)⟩
            case measure => simp [intOf]; omega
          · have hcap2 : (240 : Int) ≤ (vc : Int) := by omega
            have hge : (240 : Int) ≤ (i : Int) := by omega
            have ht : (M.take 240).length = 240 := by rw [List.length_take]; omega
            go_wp2
            go_ret
            exact ⟨va, vc, M.take 240, p' + 1, by rw [ht]; rfl, els_take 240 (own_el encEntry_len (by unfold maxLen; omega) HO.out), by rw [ht]; omega, fun k hk => (HO.out.lt k (blk_map hk)).1, fun x hx => HE.out x (List.mem_of_mem_take hx), by rw [ht]; omega, HRD.out, by omega, HK.out⟩
      · have hq3' : (q3 == 0) = false := by simp [hq3]
        clear hq3
        go_wp2
        go_ret
        exact ⟨va, vc, L, p' + 1, rfl, own_el encEntry_len (by unfold maxLen; omega) O2.out, own_cap O2.out, fun k hk => (O2.out.lt k (blk_map hk)).1, HE.out, by omega, H2.out, by omega, K2.out⟩
    · have hqi : (0 : Int) < (q : Int) := by omega
      have hcv := own_cap HO.out
      go_wp2_with fail
      refine (l12Entry_any _ r a c l p' (by omega) HRD.out).mono ?_
      rintro e w2 ⟨x0, x1, x2, x3, rfl, s0, n0, n1, s3, h2, k2⟩
      have z2 := k2.size
      have O2 := Lib.hid (own_below (own_kept HO.out k2 (fun k hk e => by have := (HO.out.lt k hk).1; omega)) (below_alloc w2 (.cells #[.string x0, .int .i64 x1, .bool x2, .string x3] 31)))
      have H2 := Lib.hid (h2.below (below_alloc w2 (.cells #[.string x0, .int .i64 x1, .bool x2, .string x3] 31)))
      have K2 := Lib.hid ((HK.out.trans k2).trans (KeptOut.of_below (S := fun b => b = r) (below_alloc w2 (.cells #[.string x0, .int .i64 x1, .bool x2, .string x3] 31))))
      have bx := Box.alloc w2 #[.string x0, .int .i64 x1, .bool x2, .string x3] 31
      clear h2 k2 HRD HK HO
      go_wp2_with fail
      refine (specHas_any _ _ L x0 x1 x2 x3 _ (own_el encEntry_len (by unfold maxLen; omega) O2.out)).mono ?_
      rintro e w3 ⟨rfl, b3⟩
      have z3 := b3.size
      simp only [World.size_alloc] at z3
      have bx3 := bx.below b3
      have O3 := Lib.hid (own_below O2.out b3)
      have H3 := Lib.hid (H2.out.below b3)
      have K3 := Lib.hid (K2.out.trans (.of_below b3))
      obtain ⟨⟨y0, f0⟩, ⟨y1, f1⟩, ⟨y2, f2⟩, y3, f3⟩ := show _ ∧ _ ∧ _ ∧ _ from ⟨bx3 0 _ rfl, bx3 1 _ rfl, bx3 2 _ rfl, bx3 3 _ rfl⟩
      clear bx bx3 O2 H2 K2
      cases hh : hasE L (x0, x1, x2, x3) with
      | true =>
        go_wp2
        go_roundw
        case rel => exact ⟨q - 1, p' + 4, L, by omega, by go_num, by omega, by omega, HE.out, O3.out, H3.out, K3.out⟩
        case measure => simp [intOf]; omega
      | false =>
        go_wp2_with fail
        refine (specPut_any _ _ L x0 x1 x2 x3 _ (by omega) hcv (own_el encEntry_len (by unfold maxLen; omega) O3.out)).mono ?_
        rintro e w4 ⟨v4, rfl, o4, b4⟩
        have z4 := b4.size
        have O4 := Lib.hid (own_mono (show w.heap.size ≤ w3.heap.size by omega) o4)
        have H4 := Lib.hid (H3.out.below b4)
        have K4 := Lib.hid (K3.out.trans (.of_below b4))
        have hpl := putE_len L (x0, x1, x2, x3)
        clear o4 b4 y0 y1 y2 y3 f0 f1 f2 f3
        go_wp2
        go_roundw
        case rel => exact ⟨q - 1, p' + 4, _, by omega, by go_num, by omega, by rw [hpl]; omega, HE.out.put (show x0.size ≤ 3000 by omega) (show x3.size ≤ 3000 by omega), O4.out, H4.out, K4.out⟩
        case measure => simp [intOf]; omega
end Go.Proofs.YteejabpohnfoaaaDoor
