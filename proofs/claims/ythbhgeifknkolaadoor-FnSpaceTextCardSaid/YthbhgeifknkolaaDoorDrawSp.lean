import Derived.Test.YthbhgeifknkolaaDoorSlots
import Derived.Test.YthbhgeifknkolaaDoorSpaceS
import Derived.Test.YthbhgeifknkolaaDoorKitSpaceS
import Derived.Test.YthbhgeifknkolaaDoorIns
/- Drawn spaces. -/
namespace Go.Proofs.YthbhgeifknkolaaDoor
open Go Go.RowKit

theorem infoSp : (Tryd.prog.info? 26).map (fun i => (i.zero, i.size, i.bytes)) = some (some (.agg #[.string ⟨#[]⟩, .string ⟨#[]⟩, .int .i64 0, .bool false, .int .i64 0]), 5, 56) := by kernel_rfl
theorem one_sps {l : List SpaceD} {u : Value} (hu : u ∈ l.flatMap encSpace) : u.oneCell' = true := by
  obtain ⟨x, _, hx⟩ := List.mem_flatMap.1 hu
  simp only [encSpace, List.mem_cons, List.not_mem_nil, or_false] at hx
  rcases hx with rfl | rfl | rfl | rfl | rfl <;> rfl
def newSp : SpaceD := (⟨#[97, 108, 108]⟩, ⟨#[]⟩, -1, false, 0)
theorem own_cap5 {w : World} {base : Nat} {e : TypeId} {size : Nat} {a : Option Addr} {n c : Nat} {xs : List Value} (h : w.ownsRow base e size (.slice a n c) n xs) : n ≤ c := by
  rcases h.2 with ⟨hv, h0⟩ | ⟨g, cap, cur, hv, hb, hg, h1, h2, _⟩
  · omega
  · simp only [Value.slice.injEq] at hv
    omega
theorem specModelNew_sp (w : World) : Calls Tryd.prog 38 #[] w fun e w' => (∃ b bu, e = .returned (.agg #[.int .i64 0, .int .i64 0, .int .i64 0, .slice (some ⟨b, 0, none⟩) 1 1, .slice (some ⟨bu, 0, none⟩) 1 1, .slice none 0 0, .slice none 0 0]) ∧ w'.ownsRow w.heap.size 26 5 (.slice (some ⟨b, 0, none⟩) 1 1) 1 (List.flatMap encSpace [newSp])) ∧ Below w.heap.size w w' := by
  go_enter Tryd.func38, Tryd.ntmps38
  go_wp2
  refine bodyPost_ret (v := .agg #[.int .i64 0, .int .i64 0, .int .i64 0, .slice (some ⟨w.heap.size + 1, 0, none⟩) 1 1, .slice (some ⟨w.heap.size + 1 + 1, 0, none⟩) 1 1, .slice none 0 0, .slice none 0 0]) (by simp [results, Tryd.results38, go_sem]) rfl ⟨⟨w.heap.size + 1, w.heap.size + 1 + 1, rfl, ?_⟩, (((Below.refl _ w).alloc (Nat.le_refl _) _).alloc (by simp) _).alloc (by simp; omega) _⟩
  have := World.ownsRow_lit (base := w.heap.size) (size := 5) (e := 26) (w.alloc (.cells #[.int .i64 0, .int .i64 0, .int .i64 0, .slice (some ⟨w.heap.size + 1, 0, none⟩) 1 1, .slice (some ⟨w.heap.size + 1 + 1, 0, none⟩) 1 1, .slice none 0 0, .slice none 0 0] 64)) #[.string ⟨#[97, 108, 108]⟩, .string ⟨#[]⟩, .int .i64 (-1), .bool false, .int .i64 0] 1 (by simp) (by unfold maxLen; omega) rfl
  rw [World.size_alloc] at this
  exact own_below this (below_alloc _ _)

theorem field_m3 (b1 bu : Nat) (w : World) : (Instr.field 64 (.agg #[.int .i64 0, .int .i64 0, .int .i64 0, .slice (some ⟨b1, 0, none⟩) 1 1, .slice (some ⟨bu, 0, none⟩) 1 1, .slice none 0 0, .slice none 0 0]) 3).run Tryd.prog w = .ok (.slice (some ⟨b1, 0, none⟩) 1 1) w := by kernel_rfl
/-- no text of it is too long -/
def AnySp (L : List SpaceD) : Prop := ∀ x ∈ L, x.1.size ≤ 3000 ∧ x.2.1.size ≤ 3000
theorem AnySp.ok {L : List SpaceD} (h : AnySp L) : ∀ x ∈ L, OkSpace x := fun x hx => by have := h x hx; unfold OkSpace maxLen; omega
theorem AnySp.ins {L : List SpaceD} (h : AnySp L) {j : Nat} {x0 x1 : ByteArray} (h0 : x0.size ≤ 24) (h1 : x1.size ≤ 3000) (x2 : Int) (x3 : Bool) (x4 : Int) : AnySp (L.take j ++ (x0, x1, x2, x3, x4) :: L.drop j) := by
  intro x hx
  rcases List.mem_append.1 hx with hx | hx
  · exact h x (List.mem_of_mem_take hx)
  · rcases List.mem_cons.1 hx with rfl | hx
    · exact ⟨by show x0.size ≤ 3000; omega, h1⟩
    · exact h x (List.mem_of_mem_drop hx)
def litN5 : List ByteArray := [⟨#[97]⟩, ⟨#[98]⟩, ⟨#[99]⟩, ⟨#[100]⟩, ⟨#[101]⟩]
theorem litN5_size : ∀ s ∈ litN5, s.size ≤ 24 := by
  intro s hs
  simp only [litN5, List.mem_cons, List.not_mem_nil, or_false] at hs
  rcases hs with rfl | rfl | rfl | rfl | rfl <;> simp [ByteArray.size]
/-- the literal lies there, apart from the reader -/
def LitAt (r : Nat) (lit : List ByteArray) (v : Value) (w : World) : Prop := ∃ b, v = .slice (some ⟨b, 0, none⟩) lit.length lit.length ∧ b ≠ r ∧ ∀ j (h : j < lit.length), w.cell? ⟨b, 0 + j, none⟩ = some (.string lit[j])
def IntsAt (r n : Nat) (v : Value) (w : World) : Prop := ∃ b, v = .slice (some ⟨b, 0, none⟩) n n ∧ b ≠ r ∧ ∀ j, j < n → ∃ z : Int, w.cell? ⟨b, 0 + j, none⟩ = some (.int .i64 z)
def IntAt (r : Nat) (v : Value) (w : World) : Prop := ∃ b o, ∃ z : Int, v = .pointer (some ⟨b, o, none⟩) ∧ b ≠ r ∧ w.cell? ⟨b, o, none⟩ = some (.int .i64 z)
def SomeInt (v : Value) : Prop := ∃ z : Int, v = .int .i64 z
def SomeNat (n : Nat) (v : Value) : Prop := ∃ q : Nat, q < n ∧ v = .int .i64 (q : Int)
def SomeStr (n : Nat) (v : Value) : Prop := ∃ s : ByteArray, s.size ≤ n ∧ v = .string s
/-- a new block of this many cells, apart from the reader -/
def NewAt (base n : Nat) (v : Value) (w : World) : Prop := ∃ b, v = .pointer (some ⟨b, 0, none⟩) ∧ base ≤ b ∧ ∃ cs : List Value, cs.length = n ∧ Box w b cs
theorem LitAt.kept {r : Nat} {lit : List ByteArray} {v : Value} {w w' : World} (h : LitAt r lit v w) (hk : KeptOut (fun b => b = r) w w') : LitAt r lit v w' := by
  obtain ⟨b, e, hb, hc⟩ := h
  exact ⟨b, e, hb, fun j hj => by have := hc j hj; rw [hk.cell (p := ⟨b, 0 + j, none⟩) (by have := World.block_lt_of_cell? w _ this; simpa using this) hb]; exact this⟩
theorem IntsAt.kept {r n : Nat} {v : Value} {w w' : World} (h : IntsAt r n v w) (hk : KeptOut (fun b => b = r) w w') : IntsAt r n v w' := by
  obtain ⟨b, e, hb, hc⟩ := h
  exact ⟨b, e, hb, fun j hj => by obtain ⟨z, hz⟩ := hc j hj; exact ⟨z, by rw [hk.cell (p := ⟨b, 0 + j, none⟩) (by have := World.block_lt_of_cell? w _ hz; simpa using this) hb]; exact hz⟩⟩
theorem IntAt.kept {r : Nat} {v : Value} {w w' : World} (h : IntAt r v w) (hk : KeptOut (fun b => b = r) w w') : IntAt r v w' := by
  obtain ⟨b, o, z, e, hb, hc⟩ := h
  exact ⟨b, o, z, e, hb, by rw [hk.cell (p := ⟨b, o, none⟩) (by have := World.block_lt_of_cell? w _ hc; simpa using this) hb]; exact hc⟩
theorem NewAt.kept {r base n : Nat} {v : Value} {w w' : World} (hr : r < base) (h : NewAt base n v w) (hk : KeptOut (fun b => b = r) w w') : NewAt base n v w' := by
  obtain ⟨b, e, hb, cs, hl, hx⟩ := h
  exact ⟨b, e, hb, cs, hl, hx.kept hk (by omega)⟩
theorem ints3 (w : World) (x y z : Int) (e : TypeId) : ∀ j, j < 3 → ∃ v : Int, (w.alloc (.cells #[.int .i64 x, .int .i64 y, .int .i64 z] e)).cell? ⟨w.heap.size, 0 + j, none⟩ = some (.int .i64 v) := by
  intro j hj
  rw [World.cell?_alloc_at _ _ _ _ rfl]
  match j, hj with
  | 0, _ => exact ⟨x, rfl⟩
  | 1, _ => exact ⟨y, rfl⟩
  | 2, _ => exact ⟨z, rfl⟩
theorem own_nm {w : World} {base g c : Nat} {L : List SpaceD} (h : w.ownsRow base 26 5 (.slice (some ⟨g, 0, none⟩) L.length c) L.length (L.flatMap encSpace)) (hl : L.length ≤ 6) (q : Nat) (hq : q < L.length) : w.cell? ⟨g, q * 5, none⟩ = some (.string L[q].1) := by
  obtain ⟨-, hc⟩ := own_el encSpace_len (by unfold maxLen; omega) h
  obtain ⟨b1, o1, e1, hc⟩ := hc.resolve_left (fun e => by rw [e] at hq; simp at hq)
  obtain ⟨rfl, rfl⟩ : b1 = g ∧ o1 = 0 := by cases e1; exact ⟨rfl, rfl⟩
  have := (cellsSpace (Below.refl _ _) hc q hq).1
  rwa [Nat.zero_add] at this
theorem box_five {w : World} {b : Nat} {d0 d1 d2 d3 d4 : Value} (y0 : w.cell? ⟨b, 0, none⟩ = some d0) (y1 : w.cell? ⟨b, 1, none⟩ = some d1) (y2 : w.cell? ⟨b, 2, none⟩ = some d2) (y3 : w.cell? ⟨b, 3, none⟩ = some d3) (y4 : w.cell? ⟨b, 4, none⟩ = some d4)
    (f0 : w.frozen? ⟨b, 0, none⟩ = false) (f1 : w.frozen? ⟨b, 1, none⟩ = false) (f2 : w.frozen? ⟨b, 2, none⟩ = false) (f3 : w.frozen? ⟨b, 3, none⟩ = false) (f4 : w.frozen? ⟨b, 4, none⟩ = false) (x0 x1 x2 x3 x4 : Value) :
    Box (((((w.setCell ⟨b, 0, none⟩ x0).setCell ⟨b, 1, none⟩ x1).setCell ⟨b, 2, none⟩ x2).setCell ⟨b, 3, none⟩ x3).setCell ⟨b, 4, none⟩ x4) b [x0, x1, x2, x3, x4] := by
  intro i v hv
  match i, hv with
  | 0, hv => cases hv; simp [go_sem, y0, f0]
  | 1, hv => cases hv; simp [go_sem, y1, f1]
  | 2, hv => cases hv; simp [go_sem, y2, f2]
  | 3, hv => cases hv; simp [go_sem, y3, f3]
  | 4, hv => cases hv; simp [go_sem, y4, f4]
  | n + 5, hv => simp at hv
/-- what is in the slots of the region that draws a space -/
def GSp (r g n cb base : Nat) : Nat → Value → World → Prop
  | 0, v, _ | 4, v, _ | 11, v, _ | 14, v, _ | 18, v, _ | 21, v, _ => v = .pointer (some ⟨r, 0, none⟩)
  | 1, v, w => LitAt r litN5 v w
  | 2, v, _ => SomeStr 24 v
  | 3, v, _ | 5, v, _ => v = .slice (some ⟨g, 0, none⟩) n cb
  | 6, v, _ => v = .int .i64 (n : Int)
  | 7, v, _ => SomeNat n v
  | 8, v, _ | 9, v, _ => ∃ q : Nat, q < n ∧ v = .pointer (some ⟨g, q * 5, none⟩)
  | 10, v, _ => SomeStr 3000 v
  | 12, v, _ | 17, v, _ | 19, v, _ | 23, v, _ => SomeInt v
  | 13, v, w => IntsAt r 3 v w
  | 15, v, _ => SomeNat 3 v
  | 22, v, _ => SomeNat 9 v
  | 16, v, w => IntAt r v w
  | 20, v, _ => ∃ q : Bool, v = .bool q
  | 24, v, _ => ∃ (x0 x1 : ByteArray) (x2 : Int) (x3 : Bool) (x4 : Int), x0.size ≤ 24 ∧ x1.size ≤ 3000 ∧ v = .agg #[.string x0, .string x1, .int .i64 x2, .bool x3, .int .i64 x4]
  | 25, v, w => NewAt base 5 v w
  | _, _, _ => True
theorem gsp_kept {r g n cb base : Nat} (hr : r < base) (i : Nat) (v : Value) (w w' : World) (h : GSp r g n cb base i v w) (hk : KeptOut (fun b => b = r) w w') : GSp r g n cb base i v w' := by
  unfold GSp at h ⊢
  split at h <;> first | exact h | exact LitAt.kept h hk | exact IntsAt.kept h hk | exact IntAt.kept h hk | exact NewAt.kept hr h hk
def SSp (w0 : World) (r : Nat) (a : Option Addr) (c : Nat) (l : List UInt8) (p : Nat) (k : Nat) (w : World) : Prop := KeptOut (fun b => b = r) w0 w ∧ ∃ p', p' + k ≤ p ∧ Rd w r a c l p'
def DrawSpPost (w : World) (r : Nat) (a : Option Addr) (c : Nat) (l : List UInt8) (p n m : Nat) (e : Ending) (w' : World) : Prop :=
  ∃ (v : Value) (L : List SpaceD) (p' : Nat), e = .returned v ∧ w'.ownsRow w.heap.size 26 5 v L.length (L.flatMap encSpace) ∧ AnySp L ∧ 1 ≤ L.length ∧ L.length ≤ m ∧ Rd w' r a c l p' ∧ p' ≤ p + n ∧ KeptOut (fun b => b = r) w w'

set_option maxRecDepth 100000 in
set_option maxHeartbeats 4000000 in
theorem l13Spaces_any (w : World) (r : Nat) (a : Option Addr) (c : Nat) (l : List UInt8) (p : Nat) (hp : p ≤ 100000000) (h : Rd w r a c l p) :
    Calls Tryd.prog 29 #[.pointer (some ⟨r, 0, none⟩)] w (DrawSpPost w r a c l p 150 6) := by
  have hr : r < w.heap.size := h.lt
  have HAR := Lib.hid (rd_har h)
  have HR := Lib.hid h
  clear h
  obtain ⟨i0, hi, hz0, hz1, hz2⟩ := info_parts infoSp
  go_enter Tryd.func29, Tryd.ntmps29
  go_wp2_with fail
  refine (specModelNew_sp _).mono ?_
  rintro e w1 ⟨⟨b1, bu, rfl, o1⟩, B1⟩
  have H1 := Lib.hid (HR.out.below B1)
  have O1 := Lib.hid o1
  clear o1
  have hfd := field_m3 b1 bu w1
  go_wp2_with fail
  refine (pick_any 5 _ r a c l p (by omega) (by omega) (by omega) H1.out).mono ?_
  rintro e w2 ⟨q, rfl, q0, q1, h2, k2⟩
  have q1' := q1 (by omega)
  obtain ⟨q, rfl⟩ := Int.eq_ofNat_of_zero_le q0
  have K2 := Lib.hid ((KeptOut.of_below (S := fun b => b = r) B1).trans k2)
  have O2 := Lib.hid (own_kept O1.out k2 (fun k hk e => by have := (O1.out.lt k hk).1; omega))
  have H2 := Lib.hid h2
  clear h2 k2 q1 H1 O1 q0
  go_wp2_with fail
  go_loopw [3, 4] (fun out n wr => ∃ (k : Nat) (g cb : Nat) (L : List SpaceD) (p' : Nat), k ≤ 4 ∧ n = .int .i64 k ∧ out = .slice (some ⟨g, 0, none⟩) L.length cb ∧ wr.ownsRow w.heap.size 26 5 (.slice (some ⟨g, 0, none⟩) L.length cb) L.length (L.flatMap encSpace) ∧ AnySp L ∧ 1 ≤ L.length ∧ L.length + k ≤ 6 ∧ Rd wr r a c l p' ∧ p' + 30 * k ≤ p + 125 ∧ KeptOut (fun b => b = r) w wr) (fun _ n _ => (intOf n).toNat)
  case atStart => exact ⟨q, b1, 1, [newSp], p + 1, by omega, rfl, rfl, O2.out, fun x hx => by rw [List.mem_singleton.1 hx]; decide, by simp, by simp; omega, H2.out, by omega, K2.out⟩
  case round =>
    obtain ⟨k, g, cb, L, p', hk4, rfl, rfl, hown, hany, hL1, hL6, hrd, hp', hkp⟩ := hrel
    have HO := Lib.hid hown
    have HA := Lib.hid hany
    have HRD := Lib.hid hrd
    have HKP := Lib.hid hkp
    have hgl := hown.lt g rfl
    have hcap := own_cap5 hown
    clear hown hany hrd hkp
    by_cases hk0 : 0 < k
    · go_wp2_with fail
      have hrw : r < wr.heap.size := HRD.out.lt
      refine wp_region_slots (G := GSp r g L.length cb wr.heap.size) (S := SSp wr r a c l (p' + 27)) (by kernel_rfl) 26 74 rfl (by kernel_rfl) (fun w w' => KeptOut (fun b => b = r) w w') (gsp_kept hrw) ⟨(KeptOut.refl _ _).drew, p', Nat.le_refl _, HRD.out⟩ ?step (fun A W e => absurd e (by decide)) ?last
      case step =>
        intro i o A W kk K him ho hs hd hS hK
        obtain ⟨hkw, p2, hp2, hrd⟩ := hS
        have hr2 : r < W.heap.size := hrd.lt
        have hszW := hkw.size
        match i, him, ho, hd, hK with
        | 0, _, ho, hd, hK =>
          obtain rfl := Option.some.inj ho
          have e : A.tmps.getD 0 undef = .pointer (some ⟨r, 0, none⟩) := hs.keep (by kernel_rfl)
          go_simp
          exact hK _ _ (KeptOut.refl _ _) rfl ⟨hkw, p2, by omega, hrd⟩
        | 4, _, ho, hd, hK =>
          obtain rfl := Option.some.inj ho
          have e : A.tmps.getD 0 undef = .pointer (some ⟨r, 0, none⟩) := hs.keep (by kernel_rfl)
          go_simp
          exact hK _ _ (KeptOut.refl _ _) rfl ⟨hkw, p2, by omega, hrd⟩
        | 11, _, ho, hd, hK =>
          obtain rfl := Option.some.inj ho
          have e : A.tmps.getD 0 undef = .pointer (some ⟨r, 0, none⟩) := hs.keep (by kernel_rfl)
          go_simp
          exact hK _ _ (KeptOut.refl _ _) rfl ⟨hkw, p2, by omega, hrd⟩
        | 14, _, ho, hd, hK =>
          obtain rfl := Option.some.inj ho
          have e : A.tmps.getD 0 undef = .pointer (some ⟨r, 0, none⟩) := hs.keep (by kernel_rfl)
          go_simp
          exact hK _ _ (KeptOut.refl _ _) rfl ⟨hkw, p2, by omega, hrd⟩
        | 18, _, ho, hd, hK =>
          obtain rfl := Option.some.inj ho
          have e : A.tmps.getD 0 undef = .pointer (some ⟨r, 0, none⟩) := hs.keep (by kernel_rfl)
          go_simp
          exact hK _ _ (KeptOut.refl _ _) rfl ⟨hkw, p2, by omega, hrd⟩
        | 21, _, ho, hd, hK =>
          obtain rfl := Option.some.inj ho
          have e : A.tmps.getD 0 undef = .pointer (some ⟨r, 0, none⟩) := hs.keep (by kernel_rfl)
          go_simp
          exact hK _ _ (KeptOut.refl _ _) rfl ⟨hkw, p2, by omega, hrd⟩
        | 1, _, ho, hd, hK =>
          obtain rfl := Option.some.inj ho
          go_simp
          exact hK _ _ (.of_below (below_alloc _ _)) ⟨W.heap.size, rfl, by omega, lit_cells W litN5 _⟩ ⟨hkw.trans (.of_below (below_alloc _ _)), p2, by omega, hrd.below (below_alloc _ _)⟩
        | 2, _, ho, hd, hK =>
          obtain rfl := Option.some.inj ho
          have e0 : A.tmps.getD 15 undef = .pointer (some ⟨r, 0, none⟩) := hd ⟨0, .data⟩ (by simp) rfl
          obtain ⟨b, e1, hb, hc⟩ := (show LitAt r litN5 (A.tmps.getD 16 undef) W from hd ⟨1, .data⟩ (by simp) rfl)
          go_simp
          refine (of_any _ r a c l p2 (by omega) hrd b 0 litN5.length litN5 (by decide) (by decide) hb hc).mono ?_
          rintro e w' ⟨s, hsm, rfl, h1, k1⟩
          exact hK _ _ k1 ⟨s, litN5_size s hsm, rfl⟩ ⟨hkw.trans k1, p2 + 1, by omega, h1⟩
        | 3, _, ho, hd, hK =>
          obtain rfl := Option.some.inj ho
          have e : A.tmps.getD 3 undef = .slice (some ⟨g, 0, none⟩) L.length cb := hs.keep (by kernel_rfl)
          go_simp
          exact hK _ _ (KeptOut.refl _ _) rfl ⟨hkw, p2, by omega, hrd⟩
        | 5, _, ho, hd, hK =>
          obtain rfl := Option.some.inj ho
          have e : A.tmps.getD 3 undef = .slice (some ⟨g, 0, none⟩) L.length cb := hs.keep (by kernel_rfl)
          go_simp
          exact hK _ _ (KeptOut.refl _ _) rfl ⟨hkw, p2, by omega, hrd⟩
        | 6, _, ho, hd, hK =>
          obtain rfl := Option.some.inj ho
          have e0 : A.tmps.getD 20 undef = .slice (some ⟨g, 0, none⟩) L.length cb := hd ⟨5, .data⟩ (by simp) rfl
          go_simp
          exact hK _ _ (KeptOut.refl _ _) rfl ⟨hkw, p2, by omega, hrd⟩
        | 7, _, ho, hd, hK =>
          obtain rfl := Option.some.inj ho
          have e0 : A.tmps.getD 19 undef = .pointer (some ⟨r, 0, none⟩) := hd ⟨4, .data⟩ (by simp) rfl
          have e1 : A.tmps.getD 21 undef = .int .i64 (L.length : Int) := hd ⟨6, .data⟩ (by simp) rfl
          go_simp
          refine (pick_any L.length _ r a c l p2 (by omega) (by omega) (by omega) hrd).mono ?_
          rintro e w' ⟨q, rfl, q0, q1, h1, k1⟩
          obtain ⟨q, rfl⟩ := Int.eq_ofNat_of_zero_le q0
          have q2 := q1 (by omega)
          exact hK _ _ k1 ⟨q, by omega, rfl⟩ ⟨hkw.trans k1, p2 + 1, by omega, h1⟩
        | 8, _, ho, hd, hK =>
          obtain rfl := Option.some.inj ho
          have e0 : A.tmps.getD 18 undef = .slice (some ⟨g, 0, none⟩) L.length cb := hd ⟨3, .data⟩ (by simp) rfl
          obtain ⟨q, hq, e1⟩ := (show SomeNat L.length (A.tmps.getD 22 undef) from hd ⟨7, .data⟩ (by simp) rfl)
          have q0 : (0 : Int) ≤ (q : Int) := by omega
          have q1 : (q : Int) < (L.length : Int) := by omega
          go_simp
          exact hK _ _ (KeptOut.refl _ _) ⟨q, hq, rfl⟩ ⟨hkw, p2, by omega, hrd⟩
        | 9, _, ho, hd, hK =>
          obtain rfl := Option.some.inj ho
          obtain ⟨q, hq, e1⟩ := (show ∃ q : Nat, q < L.length ∧ A.tmps.getD 23 undef = .pointer (some ⟨g, q * 5, none⟩) from hd ⟨8, .data⟩ (by simp) rfl)
          go_simp
          exact hK _ _ (KeptOut.refl _ _) ⟨q, hq, rfl⟩ ⟨hkw, p2, by omega, hrd⟩
        | 10, _, ho, hd, hK =>
          obtain rfl := Option.some.inj ho
          obtain ⟨q, hq, e1⟩ := (show ∃ q : Nat, q < L.length ∧ A.tmps.getD 24 undef = .pointer (some ⟨g, q * 5, none⟩) from hd ⟨9, .data⟩ (by simp) rfl)
          have c0 := own_nm (own_kept HO.out hkw (fun b hb e => by have := own_blk hb; omega)) (by omega) q hq
          go_simp
          exact hK _ _ (KeptOut.refl _ _) ⟨_, (HA.out _ (List.getElem_mem hq)).1, rfl⟩ ⟨hkw, p2, by omega, hrd⟩
        | 12, _, ho, hd, hK =>
          obtain rfl := Option.some.inj ho
          have e0 : A.tmps.getD 26 undef = .pointer (some ⟨r, 0, none⟩) := hd ⟨11, .data⟩ (by simp) rfl
          go_simp
          refine (pick_any 30 _ r a c l p2 (by omega) (by omega) (by omega) hrd).mono ?_
          rintro e w' ⟨q, rfl, q0, q1, h1, k1⟩
          obtain ⟨q, rfl⟩ := Int.eq_ofNat_of_zero_le q0
          have q2 := q1 (by omega)
          exact hK _ _ k1 ⟨_, rfl⟩ ⟨hkw.trans k1, p2 + 1, by omega, h1⟩
        | 13, _, ho, hd, hK =>
          obtain rfl := Option.some.inj ho
          obtain ⟨z, e0⟩ := (show SomeInt (A.tmps.getD 27 undef) from hd ⟨12, .data⟩ (by simp) rfl)
          have e0' := (Array.getD_eq_getD_getElem? .. ).symm.trans e0
          go_simp
          exact hK _ _ (.of_below (below_alloc _ _)) ⟨W.heap.size, rfl, by omega, ints3 W (-1) z 9 _⟩ ⟨hkw.trans (.of_below (below_alloc _ _)), p2, by omega, hrd.below (below_alloc _ _)⟩
        | 15, _, ho, hd, hK =>
          obtain rfl := Option.some.inj ho
          have e0 : A.tmps.getD 29 undef = .pointer (some ⟨r, 0, none⟩) := hd ⟨14, .data⟩ (by simp) rfl
          go_simp
          refine (pick_any 3 _ r a c l p2 (by omega) (by omega) (by omega) hrd).mono ?_
          rintro e w' ⟨q, rfl, q0, q1, h1, k1⟩
          obtain ⟨q, rfl⟩ := Int.eq_ofNat_of_zero_le q0
          have q2 := q1 (by omega)
          exact hK _ _ k1 ⟨q, by omega, rfl⟩ ⟨hkw.trans k1, p2 + 1, by omega, h1⟩
        | 16, _, ho, hd, hK =>
          obtain rfl := Option.some.inj ho
          obtain ⟨b, e0, hb, hc⟩ := (show IntsAt r 3 (A.tmps.getD 28 undef) W from hd ⟨13, .data⟩ (by simp) rfl)
          obtain ⟨q, hq, e1⟩ := (show SomeNat 3 (A.tmps.getD 30 undef) from hd ⟨15, .data⟩ (by simp) rfl)
          obtain ⟨z, hz⟩ := hc q hq
          have q0 : (0 : Int) ≤ (q : Int) := by omega
          have q1 : (q : Int) < 3 := by omega
          go_simp
          exact hK _ _ (KeptOut.refl _ _) ⟨b, _, z, rfl, hb, by rwa [Nat.zero_add] at hz⟩ ⟨hkw, p2, by omega, hrd⟩
        | 17, _, ho, hd, hK =>
          obtain rfl := Option.some.inj ho
          obtain ⟨b, o, z, e0, hb, hz⟩ := (show IntAt r (A.tmps.getD 31 undef) W from hd ⟨16, .data⟩ (by simp) rfl)
          go_simp
          exact hK _ _ (KeptOut.refl _ _) ⟨z, rfl⟩ ⟨hkw, p2, by omega, hrd⟩
        | 19, _, ho, hd, hK =>
          obtain rfl := Option.some.inj ho
          have e0 : A.tmps.getD 33 undef = .pointer (some ⟨r, 0, none⟩) := hd ⟨18, .data⟩ (by simp) rfl
          go_simp
          refine (pick_any 6 _ r a c l p2 (by omega) (by omega) (by omega) hrd).mono ?_
          rintro e w' ⟨q, rfl, q0, q1, h1, k1⟩
          obtain ⟨q, rfl⟩ := Int.eq_ofNat_of_zero_le q0
          have q2 := q1 (by omega)
          exact hK _ _ k1 ⟨_, rfl⟩ ⟨hkw.trans k1, p2 + 1, by omega, h1⟩
        | 20, _, ho, hd, hK =>
          obtain rfl := Option.some.inj ho
          obtain ⟨z, e0⟩ := (show SomeInt (A.tmps.getD 34 undef) from hd ⟨19, .data⟩ (by simp) rfl)
          go_simp
          exact hK _ _ (KeptOut.refl _ _) ⟨_, rfl⟩ ⟨hkw, p2, by omega, hrd⟩
        | 22, _, ho, hd, hK =>
          obtain rfl := Option.some.inj ho
          have e0 : A.tmps.getD 36 undef = .pointer (some ⟨r, 0, none⟩) := hd ⟨21, .data⟩ (by simp) rfl
          go_simp
          refine (pick_any 9 _ r a c l p2 (by omega) (by omega) (by omega) hrd).mono ?_
          rintro e w' ⟨q, rfl, q0, q1, h1, k1⟩
          obtain ⟨q, rfl⟩ := Int.eq_ofNat_of_zero_le q0
          have q2 := q1 (by omega)
          exact hK _ _ k1 ⟨q, by omega, rfl⟩ ⟨hkw.trans k1, p2 + 1, by omega, h1⟩
        | 23, _, ho, hd, hK =>
          obtain rfl := Option.some.inj ho
          obtain ⟨q, hq, e0⟩ := (show SomeNat 9 (A.tmps.getD 37 undef) from hd ⟨22, .data⟩ (by simp) rfl)
          have q0 : (0 : Int) ≤ (q : Int) := by omega
          have q1 : (q : Int) < 9 := by omega
          go_simp
          exact hK _ _ (KeptOut.refl _ _) ⟨_, rfl⟩ ⟨hkw, p2, by omega, hrd⟩
        | 24, _, ho, hd, hK =>
          obtain rfl := Option.some.inj ho
          obtain ⟨x0, h0, e0⟩ := (show SomeStr 24 (A.tmps.getD 17 undef) from hd ⟨2, .data⟩ (by simp) rfl)
          obtain ⟨x1, h1, e1⟩ := (show SomeStr 3000 (A.tmps.getD 25 undef) from hd ⟨10, .data⟩ (by simp) rfl)
          obtain ⟨x2, e2⟩ := (show SomeInt (A.tmps.getD 32 undef) from hd ⟨17, .data⟩ (by simp) rfl)
          obtain ⟨x3, e3⟩ := (show ∃ q : Bool, A.tmps.getD 35 undef = .bool q from hd ⟨20, .data⟩ (by simp) rfl)
          obtain ⟨x4, e4⟩ := (show SomeInt (A.tmps.getD 38 undef) from hd ⟨23, .data⟩ (by simp) rfl)
          have e0' := (Array.getD_eq_getD_getElem? ..).symm.trans e0
          have e1' := (Array.getD_eq_getD_getElem? ..).symm.trans e1
          have e2' := (Array.getD_eq_getD_getElem? ..).symm.trans e2
          have e3' := (Array.getD_eq_getD_getElem? ..).symm.trans e3
          have e4' := (Array.getD_eq_getD_getElem? ..).symm.trans e4
          go_simp
          exact hK _ _ (KeptOut.refl _ _) ⟨x0, x1, x2, x3, x4, h0, h1, rfl⟩ ⟨hkw, p2, by omega, hrd⟩
        | 25, _, ho, hd, hK =>
          obtain rfl := Option.some.inj ho
          go_simp
          exact hK _ _ (.of_below (below_alloc _ _)) ⟨W.heap.size, rfl, hszW, _, rfl, Box.alloc _ _ _⟩ ⟨hkw.trans (.of_below (below_alloc _ _)), p2, by omega, hrd.below (below_alloc _ _)⟩
        | n + 26, him, ho, hd, hK => omega
      case last =>
        intro o A W K ho hs hG hS hK
        obtain ⟨hkw, p2, hp2, hrd⟩ := hS
        obtain rfl := Option.some.inj ho
        obtain ⟨x0, x1, x2, x3, x4, h0, h1, e0⟩ := (show ∃ (x0 x1 : ByteArray) (x2 : Int) (x3 : Bool) (x4 : Int), x0.size ≤ 24 ∧ x1.size ≤ 3000 ∧ A.tmps.getD 39 undef = .agg #[.string x0, .string x1, .int .i64 x2, .bool x3, .int .i64 x4] from hG 24 (by decide))
        obtain ⟨b, e1, hb, cs, hcl, hbx⟩ := (show NewAt wr.heap.size 5 (A.tmps.getD 5 undef) W from hG 25 (by decide))
        match cs, hcl, hbx with
        | [d0, d1, d2, d3, d4], _, hbx =>
          obtain ⟨⟨y0, f0⟩, ⟨y1, f1⟩, ⟨y2, f2⟩, ⟨y3, f3⟩, y4, f4⟩ := show _ ∧ _ ∧ _ ∧ _ ∧ _ from ⟨hbx 0 _ rfl, hbx 1 _ rfl, hbx 2 _ rfl, hbx 3 _ rfl, hbx 4 _ rfl⟩
          go_simp
          refine hK _ _ ?_
          have k0 : at_ A 0 = .pointer (some ⟨r, 0, none⟩) := hs.keep (by kernel_rfl)
          have k1 : at_ A 1 = undef := hs.keep (by kernel_rfl)
          have k2 : at_ A 2 = .slice none 0 0 := hs.keep (by kernel_rfl)
          have k3 : at_ A 3 = .slice (some ⟨g, 0, none⟩) L.length cb := hs.keep (by kernel_rfl)
          have k4 : at_ A 4 = .int .i64 (k : Int) := hs.keep (by kernel_rfl)
          have k7 : at_ A 7 = .agg #[.int .i64 0, .int .i64 0, .int .i64 0, .slice (some ⟨b1, 0, none⟩) 1 1, .slice (some ⟨bu, 0, none⟩) 1 1, .slice none 0 0, .slice none 0 0] := hs.keep (by kernel_rfl)
          have k8 : at_ A 8 = .slice (some ⟨b1, 0, none⟩) 1 1 := hs.keep (by kernel_rfl)
          have k9 : at_ A 9 = .pointer (some ⟨r, 0, none⟩) := hs.keep (by kernel_rfl)
          have k10 : at_ A 10 = .int .i64 (q : Int) := hs.keep (by kernel_rfl)
          have k73 : at_ A 73 = undef := hs.keep (by kernel_rfl)
          have k5 : at_ A 5 = .pointer (some ⟨b, 0, none⟩) := e1
          rw [act_lit (n := 74) hs.size hs.defers]
          change Exit.then _ _ _ { tmps := #[at_ A 0, at_ A 1, at_ A 2, at_ A 3, at_ A 4, at_ A 5, at_ A 6, at_ A 7, at_ A 8, at_ A 9, at_ A 10, at_ A 11, at_ A 12, at_ A 13, at_ A 14, at_ A 15, at_ A 16, at_ A 17, at_ A 18, at_ A 19, at_ A 20, at_ A 21, at_ A 22, at_ A 23, at_ A 24, at_ A 25, at_ A 26, at_ A 27, at_ A 28, at_ A 29, at_ A 30, at_ A 31, at_ A 32, at_ A 33, at_ A 34, at_ A 35, at_ A 36, at_ A 37, at_ A 38, at_ A 39, at_ A 40, at_ A 41, at_ A 42, at_ A 43, at_ A 44, at_ A 45, at_ A 46, at_ A 47, at_ A 48, at_ A 49, at_ A 50, at_ A 51, at_ A 52, at_ A 53, at_ A 54, at_ A 55, at_ A 56, at_ A 57, at_ A 58, at_ A 59, at_ A 60, at_ A 61, at_ A 62, at_ A 63, at_ A 64, at_ A 65, at_ A 66, at_ A 67, at_ A 68, at_ A 69, at_ A 70, at_ A 71, at_ A 72, at_ A 73], defers := [] } _
          dsimp only
          rw [k0, k1, k2, k3, k4, k5, k7, k8, k9, k10, k73]
          generalize at_ A 6 = z6
          generalize at_ A 11 = z11
          generalize at_ A 12 = z12
          generalize at_ A 13 = z13
          generalize at_ A 14 = z14
          generalize at_ A 15 = z15
          generalize at_ A 16 = z16
          generalize at_ A 17 = z17
          generalize at_ A 18 = z18
          generalize at_ A 19 = z19
          generalize at_ A 20 = z20
          generalize at_ A 21 = z21
          generalize at_ A 22 = z22
          generalize at_ A 23 = z23
          generalize at_ A 24 = z24
          generalize at_ A 25 = z25
          generalize at_ A 26 = z26
          generalize at_ A 27 = z27
          generalize at_ A 28 = z28
          generalize at_ A 29 = z29
          generalize at_ A 30 = z30
          generalize at_ A 31 = z31
          generalize at_ A 32 = z32
          generalize at_ A 33 = z33
          generalize at_ A 34 = z34
          generalize at_ A 35 = z35
          generalize at_ A 36 = z36
          generalize at_ A 37 = z37
          generalize at_ A 38 = z38
          generalize at_ A 39 = z39
          generalize at_ A 40 = z40
          generalize at_ A 41 = z41
          generalize at_ A 42 = z42
          generalize at_ A 43 = z43
          generalize at_ A 44 = z44
          generalize at_ A 45 = z45
          generalize at_ A 46 = z46
          generalize at_ A 47 = z47
          generalize at_ A 48 = z48
          generalize at_ A 49 = z49
          generalize at_ A 50 = z50
          generalize at_ A 51 = z51
          generalize at_ A 52 = z52
          generalize at_ A 53 = z53
          generalize at_ A 54 = z54
          generalize at_ A 55 = z55
          generalize at_ A 56 = z56
          generalize at_ A 57 = z57
          generalize at_ A 58 = z58
          generalize at_ A 59 = z59
          generalize at_ A 60 = z60
          generalize at_ A 61 = z61
          generalize at_ A 62 = z62
          generalize at_ A 63 = z63
          generalize at_ A 64 = z64
          generalize at_ A 65 = z65
          generalize at_ A 66 = z66
          generalize at_ A 67 = z67
          generalize at_ A 68 = z68
          generalize at_ A 69 = z69
          generalize at_ A 70 = z70
          generalize at_ A 71 = z71
          generalize at_ A 72 = z72
          have hbr : b ≠ r := by omega
          have KB : KeptOut (fun x => x = b) W (((((W.setCell ⟨b, 0, none⟩ (.string x0)).setCell ⟨b, 1, none⟩ (.string x1)).setCell ⟨b, 2, none⟩ (.int .i64 x2)).setCell ⟨b, 3, none⟩ (.bool x3)).setCell ⟨b, 4, none⟩ (.int .i64 x4)) := by
            repeat (first | with_reducible exact KeptOut.refl _ _ | refine KeptOut.setCell ?_ (by exact rfl) _)
          have BX5 : Box (((((W.setCell ⟨b, 0, none⟩ (.string x0)).setCell ⟨b, 1, none⟩ (.string x1)).setCell ⟨b, 2, none⟩ (.int .i64 x2)).setCell ⟨b, 3, none⟩ (.bool x3)).setCell ⟨b, 4, none⟩ (.int .i64 x4)) b [.string x0, .string x1, .int .i64 x2, .bool x3, .int .i64 x4] := box_five y0 y1 y2 y3 y4 f0 f1 f2 f3 f4 _ _ _ _ _
          generalize (((((W.setCell ⟨b, 0, none⟩ (.string x0)).setCell ⟨b, 1, none⟩ (.string x1)).setCell ⟨b, 2, none⟩ (.int .i64 x2)).setCell ⟨b, 3, none⟩ (.bool x3)).setCell ⟨b, 4, none⟩ (.int .i64 x4)) = W5 at KB BX5 ⊢
          have HBX := Lib.hid BX5
          have HRD5 := Lib.hid (hrd.kept2 KB (fun e => hbr e.symm) (fun hn x hx e => by have := HAR.out hn x hx; have := HKP.out.size; omega))
          have HKW := Lib.hid (hkw.step KB (fun j hj => .inl (by omega)))
          have HKA := Lib.hid (HKP.out.trans HKW.out)
          have HO5 := Lib.hid (own_kept HO.out HKW.out (fun j hj e => by have := own_blk hj; omega))
          have hz5 := HKW.out.size
          have hb5 : b < W5.heap.size := BX5.lt
          clear y0 y1 y2 y3 y4 f0 f1 f2 f3 f4 hrd hkw KB BX5 k0 k1 k2 k3 k4 k5 k7 k8 k9 k10 k73 hs hG e0 e1 hK
          have y0 := (HBX.out 0 _ rfl).1
          go_wp2_with fail
          refine (l8At_any _ cb L x0 _ (own_el encSpace_len (by unfold maxLen; omega) HO5.out)).mono ?_
          rintro e w6 ⟨rfl, b6⟩
          have HO6 := Lib.hid (own_below HO5.out b6)
          have HBX6 := Lib.hid (HBX.out.below b6)
          have HRD6 := Lib.hid (HRD5.out.below b6)
          have HKA6 := Lib.hid (HKA.out.trans (.of_below b6))
          have hz6 := b6.size
          clear b6 HO5 HBX HRD5 HKA y0
          cases hx : idxS L x0 with
          | some j =>
            clear hx
            have hj0 : ¬ ((optI (some j)) < 0) := by show ¬ ((j : Int) < 0); omega
            go_wp2_with fail
            go_roundw
            case rel => exact ⟨k - 1, g, cb, L, p2, by omega, by go_num, rfl, HO6.out, HA.out, hL1, by omega, HRD6.out, by omega, HKA6.out⟩
            case measure => simp [intOf]; omega
          | none =>
            clear hx
            have hj0 : (optI none) < 0 := by decide
            go_wp2_with fail
            go_loopw [6] (fun i wv => ∃ j : Nat, j ≤ L.length ∧ i = .int .i64 j ∧ KeptOut (fun _ => False) w6 wv) (fun i _ => L.length - (intOf i).toNat)
            case atStart => exact ⟨0, Nat.zero_le _, rfl, KeptOut.refl _ _⟩
            case round =>
              obtain ⟨j, hj, rfl, hkv⟩ := hrel
              have HKV := Lib.hid hkv
              have hBX := HBX6.out.kept hkv (fun h => h)
              have HBXV := Lib.hid hBX
              have y0 := (hBX 0 _ rfl).1
              have hov := own_kept HO6.out hkv (fun _ _ h => h)
              have HOV := Lib.hid hov
              have hj0 : (0 : Int) ≤ (j : Int) := by omega
              clear hBX hkv
              by_cases hlt : j < L.length
              · have c0 := own_nm hov (by omega) j hlt
                have hjn : (j : Int) < (L.length : Int) := by omega
                have hd : decide (j < L.length) = true := decide_eq_true hlt
                clear hov
                cases hq : Op.bytesLess L[j].1.toList x0.toList with
                | true =>
                  go_wp2_with fail
                  go_quiet (fail)
                  go_wp2_with fail
                  go_roundw
                  case rel => exact ⟨j + 1, by omega, by go_num, HKV.out.trans (.of_below (below_drewN (Below.refl _ _) _))⟩
                  case measure => simp [intOf]; omega
                | false =>
                  go_wp2_with fail
                  go_quiet (fail)
                  go_wp2_with fail
                  have HK7 := Lib.hid (HKV.out.trans (.of_below (below_drewN (Below.refl _ _) nq)))
                  generalize World.drewN _ nq = w7 at HK7 ⊢
                  have HKW7 := Lib.hid (HKA6.out.trans (HK7.out.mono (fun _ _ h => h.elim)))
                  have HRD7 := Lib.hid (HRD6.out.kept HK7.out (fun h => h) (fun _ _ h => h))
                  have HBX0 := HBX6.out.kept HK7.out (fun h => h)
                  have HE := own_el encSpace_len (by unfold maxLen; omega) (own_kept HO6.out HK7.out (fun _ _ h => h))
                  have hjl : j ≤ L.length := hj
                  have HK0 := Lib.hid (show Box w7.drew b [.string x0, .string x1, .int .i64 x2, .bool x3, .int .i64 x4] from HBX0.below ((Below.refl _ _).drew))
                  have HE0 := Lib.hid (show ElS 5 encSpace w7.drew (some ⟨g, 0, none⟩) L from HE.below ((Below.refl _ _).drew))
                  have hw0 : ∃ w8, w7.drew = w8 := ⟨_, rfl⟩
                  have hj0 : (0 : Int) ≤ (j : Int) := by omega
                  have hjn : (j : Int) ≤ (L.length : Int) := by omega
                  have hjc : (j : Int) ≤ (cb : Int) := by omega
                  have hnc : (L.length : Int) ≤ (cb : Int) := by omega
                  by_cases hck : j = cb
                  · have hdk : L.drop j = [] := List.drop_of_length_le (by omega)
                    subst hck
                    refine wp_region_held_drew (S := fun W' => W'.cell? ⟨b, 0, none⟩ = some (.string x0) ∧ W'.cell? ⟨b, 1, none⟩ = some (.string x1) ∧ W'.cell? ⟨b, 2, none⟩ = some (.int .i64 x2) ∧ W'.cell? ⟨b, 3, none⟩ = some (.bool x3) ∧ W'.cell? ⟨b, 4, none⟩ = some (.int .i64 x4)) (by kernel_rfl) (box_cells5 HK0.out) (fun hHeld => ?_)
                    obtain ⟨w8, hw8⟩ := hw0
                    rw [hw8] at HK0 HE0 hHeld ⊢
                    have KS : ∀ W', Below w8.heap.size w8 W' → (fun W' => W'.cell? ⟨b, 0, none⟩ = some (.string x0) ∧ W'.cell? ⟨b, 1, none⟩ = some (.string x1) ∧ W'.cell? ⟨b, 2, none⟩ = some (.int .i64 x2) ∧ W'.cell? ⟨b, 3, none⟩ = some (.bool x3) ∧ W'.cell? ⟨b, 4, none⟩ = some (.int .i64 x4)) W' := fun W' hb => box_cells5 (HK0.out.below hb)
                    have B8 : Below w8.heap.size w8 w8 := Below.refl _ _
                    have hgl8 : g < w8.heap.size := els_block HE0.out (by omega) encSpace_len (by decide)
                    have B0 : Below w7.heap.size w7 w8 := by rw [← hw8]; exact (Below.refl _ _).drew
                    refine wpAnyH_take (i := 1) (oi := { dst := some 62, op := Op.move (Operand.tmp 3), type := 53, pos := "l13_draw.go:90", after := _, guard := none }) (v := ?_) rfl (by kernel_rfl) (by kernel_rfl) (by kernel_rfl) (fun _ _ _ h => h) (Or.inl ⟨by rfl, ?_⟩) (by assumption) ?_
                    rotate_left
                    · (intro w hSw; (try dsimp only at hSw); go_simp; (try with_reducible rfl))
                    simp only [Act.put, List.setIfInBounds_toArray, List.set_cons_zero, List.set_cons_succ]
                    refine wpAnyH_take (i := 2) (oi := { dst := some 63, op := Op.move (Operand.tmp 6), type := 3, pos := "l13_draw.go:90", after := _, guard := none }) (v := ?_) rfl (by kernel_rfl) (by kernel_rfl) (by kernel_rfl) (fun _ _ _ h => h) (Or.inl ⟨by rfl, ?_⟩) (by assumption) ?_
                    rotate_left
                    · (intro w hSw; (try dsimp only at hSw); go_simp; (try with_reducible rfl))
                    simp only [Act.put, List.setIfInBounds_toArray, List.set_cons_zero, List.set_cons_succ]
                    refine wpAnyH_take (i := 3) (oi := { dst := some 64, op := Op.slice 53 (Operand.tmp 62) none (some (Operand.tmp 63)) none, type := 53, pos := "l13_draw.go:90", after := _, guard := none }) (v := ?_) rfl (by kernel_rfl) (by kernel_rfl) (by kernel_rfl) (fun _ _ _ h => h) (Or.inl ⟨by rfl, ?_⟩) (by assumption) ?_
                    rotate_left
                    · (intro w hSw; (try dsimp only at hSw); go_simp; (try with_reducible rfl))
                    simp only [Act.put, List.setIfInBounds_toArray, List.set_cons_zero, List.set_cons_succ]
                    refine wpAnyH_take (i := 5) (oi := { dst := some 66, op := Op.load 26 (Operand.tmp 5), type := 26, pos := "l13_draw.go:90", after := _, guard := none }) (v := ?_) rfl (by kernel_rfl) (by kernel_rfl) (by kernel_rfl) (fun _ _ _ h => h) (Or.inl ⟨by rfl, ?_⟩) (by assumption) ?_
                    rotate_left
                    · (intro w hSw; (try dsimp only at hSw); go_simp; (try with_reducible rfl))
                    simp only [Act.put, List.setIfInBounds_toArray, List.set_cons_zero, List.set_cons_succ]
                    refine wpAnyH_take (i := 8) (oi := { dst := some 69, op := Op.move (Operand.tmp 3), type := 53, pos := "l13_draw.go:90", after := _, guard := none }) (v := ?_) rfl (by kernel_rfl) (by kernel_rfl) (by kernel_rfl) (fun _ _ _ h => h) (Or.inl ⟨by rfl, ?_⟩) (by assumption) ?_
                    rotate_left
                    · (intro w hSw; (try dsimp only at hSw); go_simp; (try with_reducible rfl))
                    simp only [Act.put, List.setIfInBounds_toArray, List.set_cons_zero, List.set_cons_succ]
                    refine wpAnyH_take (i := 9) (oi := { dst := some 70, op := Op.move (Operand.tmp 6), type := 3, pos := "l13_draw.go:90", after := _, guard := none }) (v := ?_) rfl (by kernel_rfl) (by kernel_rfl) (by kernel_rfl) (fun _ _ _ h => h) (Or.inl ⟨by rfl, ?_⟩) (by assumption) ?_
                    rotate_left
                    · (intro w hSw; (try dsimp only at hSw); go_simp; (try with_reducible rfl))
                    simp only [Act.put, List.setIfInBounds_toArray, List.set_cons_zero, List.set_cons_succ]
                    refine wpAnyH_take (i := 10) (oi := { dst := some 71, op := Op.slice 53 (Operand.tmp 69) (some (Operand.tmp 70)) none none, type := 53, pos := "l13_draw.go:90", after := _, guard := none }) (v := ?_) rfl (by kernel_rfl) (by kernel_rfl) (by kernel_rfl) (fun _ _ _ h => h) (Or.inl ⟨by rfl, ?_⟩) (by assumption) ?_
                    rotate_left
                    · (intro w hSw; (try dsimp only at hSw); go_simp; (try with_reducible rfl))
                    simp only [Act.put, List.setIfInBounds_toArray, List.set_cons_zero, List.set_cons_succ]
                    refine wpAnyH_ready (rs := [0, 6]) (by kernel_rfl) (by simp) ?_
                    refine AllReadyH.cons (o := { dst := some 61, op := Op.buildSlice 53 0 #[], type := 53, pos := "l13_draw.go:90", after := _, guard := none }) rfl (fun K hK => ?_) ?_
                    · skip
                      go_simp
                      refine hK.out _ _ (KS _ (B8.alloc B8.size _)) (fun hHeld => ?_)
                      clear hK K
                      (try simp only [Act.put, List.setIfInBounds_toArray, List.set_cons_zero, List.set_cons_succ])
                      have C1 := B8.alloc B8.size (.cells #[] 26)
                      have o1 := own_lit00 (base := w8.heap.size) w8 26 5 w8.heap.size rfl B8.size
                      have y1 : w8.heap.size < (w8.alloc (.cells #[] 26)).heap.size := by rw [World.size_alloc]; omega
                      generalize w8.alloc (.cells #[] 26) = v1 at C1 o1 y1  ⊢
                      refine wpAnyH_ready (rs := [4, 6]) (by kernel_rfl) (by simp) ?_
                      refine AllReadyH.cons (o := { dst := some 65, op := Op.call { callee := Callee.builtin Builtin.append, args := #[Operand.tmp 61, Operand.tmp 64], argTypes := #[53, 53] }, type := 53, pos := "l13_draw.go:90", after := _, guard := none }) rfl (fun K hK => ?_) ?_
                      · skip
                        refine step_append_src _ rfl (.tmp 61) (.tmp 64) 53 rfl w8.heap.size 26 i0 (.agg #[.string ⟨#[]⟩, .string ⟨#[]⟩, .int .i64 0, .bool false, .int .i64 0]) 5 56 Tryd.underlying53 hi hz0 hz1 hz2 rfl (by decide) (.slice (some ⟨w8.heap.size, 0, none⟩) 0 0) (0) [] rfl o1 (some ⟨g, 0, none⟩) j j ((L.take j).flatMap encSpace) rfl ((src_take encSpace_len (by decide) hjl HE0.out).below C1) (fun u hu => one_sps hu) (by unfold maxLen; omega) (by omega) C1.size ?_
                        intro r2 v2 o2 g2 _
                        have C2 := C1.grown g2 C1.size (fun q hq => (o1.lt q hq).1)
                        refine hK.out _ _ (KS _ C2) (fun hHeld => ?_)
                        clear hK K
                        (try simp only [Act.put, List.setIfInBounds_toArray, List.set_cons_zero, List.set_cons_succ])
                        rw [Nat.zero_add, List.nil_append] at o2
                        obtain ⟨a2, c2, rfl⟩ := own_shape o2
                        have y2 := g2.size
                        refine wpAnyH_ready (rs := [6]) (by kernel_rfl) (by simp) ?_
                        refine AllReadyH.cons (o := { dst := some 67, op := Op.buildSlice 53 1 #[(0, Operand.tmp 66)], type := 53, pos := "l13_draw.go:90", after := _, guard := none }) rfl (fun K hK => ?_) AllReadyH.nil
                        go_simp
                        refine hK.out _ _ (KS _ (C2.alloc C2.size _)) (fun hHeld => ?_)
                        clear hK K
                        (try simp only [Act.put, List.setIfInBounds_toArray, List.set_cons_zero, List.set_cons_succ])
                        have C3 := C2.alloc C2.size (.cells #[.string x0, .string x1, .int .i64 x2, .bool x3, .int .i64 x4] 26)
                        have s3 := src_new v2 [.string x0, .string x1, .int .i64 x2, .bool x3, .int .i64 x4] 26 1 5 v2.heap.size rfl rfl
                        have y3 : v2.heap.size < (v2.alloc (.cells #[.string x0, .string x1, .int .i64 x2, .bool x3, .int .i64 x4] 26)).heap.size := by rw [World.size_alloc]; omega
                        have o3 := own_below o2 (below_alloc v2 (.cells #[.string x0, .string x1, .int .i64 x2, .bool x3, .int .i64 x4] 26))
                        generalize v2.alloc (.cells #[.string x0, .string x1, .int .i64 x2, .bool x3, .int .i64 x4] 26) = v3 at C3 s3 y3 o3 ⊢
                        refine wpAnyH_ready (rs := [7]) (by kernel_rfl) (by simp) ?_
                        refine AllReadyH.cons (o := { dst := some 68, op := Op.call { callee := Callee.builtin Builtin.append, args := #[Operand.tmp 65, Operand.tmp 67], argTypes := #[53, 53] }, type := 53, pos := "l13_draw.go:90", after := _, guard := none }) rfl (fun K hK => ?_) AllReadyH.nil
                        refine step_append_src _ rfl (.tmp 65) (.tmp 67) 53 rfl w8.heap.size 26 i0 (.agg #[.string ⟨#[]⟩, .string ⟨#[]⟩, .int .i64 0, .bool false, .int .i64 0]) 5 56 Tryd.underlying53 hi hz0 hz1 hz2 rfl (by decide) (.slice a2 (j) c2) (j) ((L.take j).flatMap encSpace) rfl o3 (some ⟨v2.heap.size, 0, none⟩) 1 1 [.string x0, .string x1, .int .i64 x2, .bool x3, .int .i64 x4] rfl s3 (by simp [Value.oneCell']) (by unfold maxLen; omega) (by omega) C3.size ?_
                        intro r4 v4 o4 g4 _
                        have C4 := C3.grown g4 C3.size (fun q hq => (o3.lt q hq).1)
                        refine hK.out _ _ (KS _ C4) (fun hHeld => ?_)
                        clear hK K
                        (try simp only [Act.put, List.setIfInBounds_toArray, List.set_cons_zero, List.set_cons_succ])
                        obtain ⟨a4, c4, rfl⟩ := own_shape o4
                        have y4 := g4.size
                        refine wpAnyH_ready (rs := [11]) (by kernel_rfl) (by simp) ?_
                        refine AllReadyH.cons (o := { dst := some 72, op := Op.call { callee := Callee.builtin Builtin.append, args := #[Operand.tmp 68, Operand.tmp 71], argTypes := #[53, 53] }, type := 53, pos := "l13_draw.go:90", after := _, guard := none }) rfl (fun K hK => ?_) AllReadyH.nil
                        refine step_append_src _ rfl (.tmp 68) (.tmp 71) 53 rfl w8.heap.size 26 i0 (.agg #[.string ⟨#[]⟩, .string ⟨#[]⟩, .int .i64 0, .bool false, .int .i64 0]) 5 56 Tryd.underlying53 hi hz0 hz1 hz2 rfl (by decide) (.slice a4 (j + 1) c4) (j + 1) ((L.take j).flatMap encSpace ++ [.string x0, .string x1, .int .i64 x2, .bool x3, .int .i64 x4]) rfl o4 (some ⟨g, 0, none⟩) 0 0 [] rfl (src_nil _ _ _) (by simp) (by unfold maxLen; omega) (by omega) C4.size ?_
                        intro r5 v5 o5 g5 _
                        have C5 := C4.grown g5 C4.size (fun q hq => (o4.lt q hq).1)
                        refine hK.out _ _ (KS _ C5) (fun hHeld => ?_)
                        clear hK K
                        (try simp only [Act.put, List.setIfInBounds_toArray, List.set_cons_zero, List.set_cons_succ])
                        obtain ⟨a5, c5, rfl⟩ := own_shape o5
                        have y5 := g5.size
                        refine wpAnyH_take (i := 12) (oi := { dst := some 3, op := Op.assign (Operand.tmp 72), type := 53, pos := "l13_draw.go:90", after := _, guard := none }) (v := ?_) rfl (by kernel_rfl) (by kernel_rfl) (by kernel_rfl) (fun _ _ _ h => h) (Or.inl ⟨by rfl, ?_⟩) (by assumption) ?_
                        rotate_left
                        · (intro w hSw; (try dsimp only at hSw); go_simp; (try with_reducible rfl))
                        simp only [Act.put, List.setIfInBounds_toArray, List.set_cons_zero, List.set_cons_succ]
                        refine wpAnyH_done (by kernel_rfl) ?_ _
                        obtain ⟨g9, rfl⟩ := own_some o5 (by omega)
                        have hln : (L.take j ++ (x0, x1, x2, x3, x4) :: L.drop j).length = j + 1 + 0 := by rw [List.length_append, List.length_take, List.length_cons, List.length_drop]; omega
                        have hOW := Lib.hid (own_mono (base' := w.heap.size) (by have := HKW7.out.size; have := B0.size; omega) o5)
                        have hRW := Lib.hid (HRD7.out.below (B0.trans (C5.mono B0.size)))
                        have hKW := Lib.hid (HKW7.out.trans (.of_below (B0.trans (C5.mono B0.size))))
                        have hAW := Lib.hid (HA.out.ins (j := j) h0 h1 x2 x3 x4)
                        go_wp2_with fail
                        go_roundw
                        case rel =>
                          refine ⟨k - 1, g9, c5, L.take j ++ (x0, x1, x2, x3, x4) :: L.drop j, p2, by omega, by go_num, by rw [hln], ?_, hAW.out, by omega, by omega, hRW.out, by omega, hKW.out⟩
                          rw [hln, List.flatMap_append, List.flatMap_cons]
                          have := hOW.out
                          rw [hdk]
                          simpa [encSpace] using this
                        case measure => simp [intOf]; omega
                      refine AllReadyH.cons (o := { dst := some 67, op := Op.buildSlice 53 1 #[(0, Operand.tmp 66)], type := 53, pos := "l13_draw.go:90", after := _, guard := none }) rfl (fun K hK => ?_) AllReadyH.nil
                      go_simp
                      refine hK.out _ _ (KS _ (C1.alloc C1.size _)) (fun hHeld => ?_)
                      clear hK K
                      (try simp only [Act.put, List.setIfInBounds_toArray, List.set_cons_zero, List.set_cons_succ])
                      have C6 := C1.alloc C1.size (.cells #[.string x0, .string x1, .int .i64 x2, .bool x3, .int .i64 x4] 26)
                      have s6 := src_new v1 [.string x0, .string x1, .int .i64 x2, .bool x3, .int .i64 x4] 26 1 5 v1.heap.size rfl rfl
                      have y6 : v1.heap.size < (v1.alloc (.cells #[.string x0, .string x1, .int .i64 x2, .bool x3, .int .i64 x4] 26)).heap.size := by rw [World.size_alloc]; omega
                      have o6 := own_below o1 (below_alloc v1 (.cells #[.string x0, .string x1, .int .i64 x2, .bool x3, .int .i64 x4] 26))
                      generalize v1.alloc (.cells #[.string x0, .string x1, .int .i64 x2, .bool x3, .int .i64 x4] 26) = v6 at C6 s6 y6 o6 ⊢
                      refine wpAnyH_ready (rs := [4]) (by kernel_rfl) (by simp) ?_
                      refine AllReadyH.cons (o := { dst := some 65, op := Op.call { callee := Callee.builtin Builtin.append, args := #[Operand.tmp 61, Operand.tmp 64], argTypes := #[53, 53] }, type := 53, pos := "l13_draw.go:90", after := _, guard := none }) rfl (fun K hK => ?_) AllReadyH.nil
                      refine step_append_src _ rfl (.tmp 61) (.tmp 64) 53 rfl w8.heap.size 26 i0 (.agg #[.string ⟨#[]⟩, .string ⟨#[]⟩, .int .i64 0, .bool false, .int .i64 0]) 5 56 Tryd.underlying53 hi hz0 hz1 hz2 rfl (by decide) (.slice (some ⟨w8.heap.size, 0, none⟩) 0 0) (0) [] rfl o6 (some ⟨g, 0, none⟩) j j ((L.take j).flatMap encSpace) rfl ((src_take encSpace_len (by decide) hjl HE0.out).below C6) (fun u hu => one_sps hu) (by unfold maxLen; omega) (by omega) C6.size ?_
                      intro r7 v7 o7 g7 _
                      have C7 := C6.grown g7 C6.size (fun q hq => (o6.lt q hq).1)
                      refine hK.out _ _ (KS _ C7) (fun hHeld => ?_)
                      clear hK K
                      (try simp only [Act.put, List.setIfInBounds_toArray, List.set_cons_zero, List.set_cons_succ])
                      rw [Nat.zero_add, List.nil_append] at o7
                      obtain ⟨a7, c7, rfl⟩ := own_shape o7
                      have y7 := g7.size
                      have s7 := s6.kept (kept_of_grown g7) (fun q hq e => by have e1 := own_blk e; simp at hq; omega)
                      refine wpAnyH_ready (rs := [7]) (by kernel_rfl) (by simp) ?_
                      refine AllReadyH.cons (o := { dst := some 68, op := Op.call { callee := Callee.builtin Builtin.append, args := #[Operand.tmp 65, Operand.tmp 67], argTypes := #[53, 53] }, type := 53, pos := "l13_draw.go:90", after := _, guard := none }) rfl (fun K hK => ?_) AllReadyH.nil
                      refine step_append_src _ rfl (.tmp 65) (.tmp 67) 53 rfl w8.heap.size 26 i0 (.agg #[.string ⟨#[]⟩, .string ⟨#[]⟩, .int .i64 0, .bool false, .int .i64 0]) 5 56 Tryd.underlying53 hi hz0 hz1 hz2 rfl (by decide) (.slice a7 (j) c7) (j) ((L.take j).flatMap encSpace) rfl o7 (some ⟨v1.heap.size, 0, none⟩) 1 1 [.string x0, .string x1, .int .i64 x2, .bool x3, .int .i64 x4] rfl s7 (by simp [Value.oneCell']) (by unfold maxLen; omega) (by omega) C7.size ?_
                      intro r8 v8 o8 g8 _
                      have C8 := C7.grown g8 C7.size (fun q hq => (o7.lt q hq).1)
                      refine hK.out _ _ (KS _ C8) (fun hHeld => ?_)
                      clear hK K
                      (try simp only [Act.put, List.setIfInBounds_toArray, List.set_cons_zero, List.set_cons_succ])
                      obtain ⟨a8, c8, rfl⟩ := own_shape o8
                      have y8 := g8.size
                      refine wpAnyH_ready (rs := [11]) (by kernel_rfl) (by simp) ?_
                      refine AllReadyH.cons (o := { dst := some 72, op := Op.call { callee := Callee.builtin Builtin.append, args := #[Operand.tmp 68, Operand.tmp 71], argTypes := #[53, 53] }, type := 53, pos := "l13_draw.go:90", after := _, guard := none }) rfl (fun K hK => ?_) AllReadyH.nil
                      refine step_append_src _ rfl (.tmp 68) (.tmp 71) 53 rfl w8.heap.size 26 i0 (.agg #[.string ⟨#[]⟩, .string ⟨#[]⟩, .int .i64 0, .bool false, .int .i64 0]) 5 56 Tryd.underlying53 hi hz0 hz1 hz2 rfl (by decide) (.slice a8 (j + 1) c8) (j + 1) ((L.take j).flatMap encSpace ++ [.string x0, .string x1, .int .i64 x2, .bool x3, .int .i64 x4]) rfl o8 (some ⟨g, 0, none⟩) 0 0 [] rfl (src_nil _ _ _) (by simp) (by unfold maxLen; omega) (by omega) C8.size ?_
                      intro r9 v9 o9 g9 _
                      have C9 := C8.grown g9 C8.size (fun q hq => (o8.lt q hq).1)
                      refine hK.out _ _ (KS _ C9) (fun hHeld => ?_)
                      clear hK K
                      (try simp only [Act.put, List.setIfInBounds_toArray, List.set_cons_zero, List.set_cons_succ])
                      obtain ⟨a9, c9, rfl⟩ := own_shape o9
                      have y9 := g9.size
                      refine wpAnyH_take (i := 12) (oi := { dst := some 3, op := Op.assign (Operand.tmp 72), type := 53, pos := "l13_draw.go:90", after := _, guard := none }) (v := ?_) rfl (by kernel_rfl) (by kernel_rfl) (by kernel_rfl) (fun _ _ _ h => h) (Or.inl ⟨by rfl, ?_⟩) (by assumption) ?_
                      rotate_left
                      · (intro w hSw; (try dsimp only at hSw); go_simp; (try with_reducible rfl))
                      simp only [Act.put, List.setIfInBounds_toArray, List.set_cons_zero, List.set_cons_succ]
                      refine wpAnyH_done (by kernel_rfl) ?_ _
                      obtain ⟨g9, rfl⟩ := own_some o9 (by omega)
                      have hln : (L.take j ++ (x0, x1, x2, x3, x4) :: L.drop j).length = j + 1 + 0 := by rw [List.length_append, List.length_take, List.length_cons, List.length_drop]; omega
                      have hOW := Lib.hid (own_mono (base' := w.heap.size) (by have := HKW7.out.size; have := B0.size; omega) o9)
                      have hRW := Lib.hid (HRD7.out.below (B0.trans (C9.mono B0.size)))
                      have hKW := Lib.hid (HKW7.out.trans (.of_below (B0.trans (C9.mono B0.size))))
                      have hAW := Lib.hid (HA.out.ins (j := j) h0 h1 x2 x3 x4)
                      go_wp2_with fail
                      go_roundw
                      case rel =>
                        refine ⟨k - 1, g9, c9, L.take j ++ (x0, x1, x2, x3, x4) :: L.drop j, p2, by omega, by go_num, by rw [hln], ?_, hAW.out, by omega, by omega, hRW.out, by omega, hKW.out⟩
                        rw [hln, List.flatMap_append, List.flatMap_cons]
                        have := hOW.out
                        rw [hdk]
                        simpa [encSpace] using this
                      case measure => simp [intOf]; omega
                    refine AllReadyH.cons (o := { dst := some 67, op := Op.buildSlice 53 1 #[(0, Operand.tmp 66)], type := 53, pos := "l13_draw.go:90", after := _, guard := none }) rfl (fun K hK => ?_) AllReadyH.nil
                    go_simp
                    refine hK.out _ _ (KS _ (B8.alloc B8.size _)) (fun hHeld => ?_)
                    clear hK K
                    (try simp only [Act.put, List.setIfInBounds_toArray, List.set_cons_zero, List.set_cons_succ])
                    have C10 := B8.alloc B8.size (.cells #[.string x0, .string x1, .int .i64 x2, .bool x3, .int .i64 x4] 26)
                    have s10 := src_new w8 [.string x0, .string x1, .int .i64 x2, .bool x3, .int .i64 x4] 26 1 5 w8.heap.size rfl rfl
                    have y10 : w8.heap.size < (w8.alloc (.cells #[.string x0, .string x1, .int .i64 x2, .bool x3, .int .i64 x4] 26)).heap.size := by rw [World.size_alloc]; omega
                    generalize w8.alloc (.cells #[.string x0, .string x1, .int .i64 x2, .bool x3, .int .i64 x4] 26) = v10 at C10 s10 y10  ⊢
                    refine wpAnyH_ready (rs := [0]) (by kernel_rfl) (by simp) ?_
                    refine AllReadyH.cons (o := { dst := some 61, op := Op.buildSlice 53 0 #[], type := 53, pos := "l13_draw.go:90", after := _, guard := none }) rfl (fun K hK => ?_) AllReadyH.nil
                    go_simp
                    refine hK.out _ _ (KS _ (C10.alloc C10.size _)) (fun hHeld => ?_)
                    clear hK K
                    (try simp only [Act.put, List.setIfInBounds_toArray, List.set_cons_zero, List.set_cons_succ])
                    have C11 := C10.alloc C10.size (.cells #[] 26)
                    have o11 := own_lit00 (base := w8.heap.size) v10 26 5 v10.heap.size rfl C10.size
                    have s11 := s10.below (below_alloc v10 (.cells #[] 26))
                    have y11 : v10.heap.size < (v10.alloc (.cells #[] 26)).heap.size := by rw [World.size_alloc]; omega
                    generalize v10.alloc (.cells #[] 26) = v11 at C11 o11 y11 s11 ⊢
                    refine wpAnyH_ready (rs := [4]) (by kernel_rfl) (by simp) ?_
                    refine AllReadyH.cons (o := { dst := some 65, op := Op.call { callee := Callee.builtin Builtin.append, args := #[Operand.tmp 61, Operand.tmp 64], argTypes := #[53, 53] }, type := 53, pos := "l13_draw.go:90", after := _, guard := none }) rfl (fun K hK => ?_) AllReadyH.nil
                    refine step_append_src _ rfl (.tmp 61) (.tmp 64) 53 rfl w8.heap.size 26 i0 (.agg #[.string ⟨#[]⟩, .string ⟨#[]⟩, .int .i64 0, .bool false, .int .i64 0]) 5 56 Tryd.underlying53 hi hz0 hz1 hz2 rfl (by decide) (.slice (some ⟨v10.heap.size, 0, none⟩) 0 0) (0) [] rfl o11 (some ⟨g, 0, none⟩) j j ((L.take j).flatMap encSpace) rfl ((src_take encSpace_len (by decide) hjl HE0.out).below C11) (fun u hu => one_sps hu) (by unfold maxLen; omega) (by omega) C11.size ?_
                    intro r12 v12 o12 g12 _
                    have C12 := C11.grown g12 C11.size (fun q hq => (o11.lt q hq).1)
                    refine hK.out _ _ (KS _ C12) (fun hHeld => ?_)
                    clear hK K
                    (try simp only [Act.put, List.setIfInBounds_toArray, List.set_cons_zero, List.set_cons_succ])
                    rw [Nat.zero_add, List.nil_append] at o12
                    obtain ⟨a12, c12, rfl⟩ := own_shape o12
                    have y12 := g12.size
                    have s12 := s11.kept (kept_of_grown g12) (fun q hq e => by have e1 := own_blk e; simp at hq; omega)
                    refine wpAnyH_ready (rs := [7]) (by kernel_rfl) (by simp) ?_
                    refine AllReadyH.cons (o := { dst := some 68, op := Op.call { callee := Callee.builtin Builtin.append, args := #[Operand.tmp 65, Operand.tmp 67], argTypes := #[53, 53] }, type := 53, pos := "l13_draw.go:90", after := _, guard := none }) rfl (fun K hK => ?_) AllReadyH.nil
                    refine step_append_src _ rfl (.tmp 65) (.tmp 67) 53 rfl w8.heap.size 26 i0 (.agg #[.string ⟨#[]⟩, .string ⟨#[]⟩, .int .i64 0, .bool false, .int .i64 0]) 5 56 Tryd.underlying53 hi hz0 hz1 hz2 rfl (by decide) (.slice a12 (j) c12) (j) ((L.take j).flatMap encSpace) rfl o12 (some ⟨w8.heap.size, 0, none⟩) 1 1 [.string x0, .string x1, .int .i64 x2, .bool x3, .int .i64 x4] rfl s12 (by simp [Value.oneCell']) (by unfold maxLen; omega) (by omega) C12.size ?_
                    intro r13 v13 o13 g13 _
                    have C13 := C12.grown g13 C12.size (fun q hq => (o12.lt q hq).1)
                    refine hK.out _ _ (KS _ C13) (fun hHeld => ?_)
                    clear hK K
                    (try simp only [Act.put, List.setIfInBounds_toArray, List.set_cons_zero, List.set_cons_succ])
                    obtain ⟨a13, c13, rfl⟩ := own_shape o13
                    have y13 := g13.size
                    refine wpAnyH_ready (rs := [11]) (by kernel_rfl) (by simp) ?_
                    refine AllReadyH.cons (o := { dst := some 72, op := Op.call { callee := Callee.builtin Builtin.append, args := #[Operand.tmp 68, Operand.tmp 71], argTypes := #[53, 53] }, type := 53, pos := "l13_draw.go:90", after := _, guard := none }) rfl (fun K hK => ?_) AllReadyH.nil
                    refine step_append_src _ rfl (.tmp 68) (.tmp 71) 53 rfl w8.heap.size 26 i0 (.agg #[.string ⟨#[]⟩, .string ⟨#[]⟩, .int .i64 0, .bool false, .int .i64 0]) 5 56 Tryd.underlying53 hi hz0 hz1 hz2 rfl (by decide) (.slice a13 (j + 1) c13) (j + 1) ((L.take j).flatMap encSpace ++ [.string x0, .string x1, .int .i64 x2, .bool x3, .int .i64 x4]) rfl o13 (some ⟨g, 0, none⟩) 0 0 [] rfl (src_nil _ _ _) (by simp) (by unfold maxLen; omega) (by omega) C13.size ?_
                    intro r14 v14 o14 g14 _
                    have C14 := C13.grown g14 C13.size (fun q hq => (o13.lt q hq).1)
                    refine hK.out _ _ (KS _ C14) (fun hHeld => ?_)
                    clear hK K
                    (try simp only [Act.put, List.setIfInBounds_toArray, List.set_cons_zero, List.set_cons_succ])
                    obtain ⟨a14, c14, rfl⟩ := own_shape o14
                    have y14 := g14.size
                    refine wpAnyH_take (i := 12) (oi := { dst := some 3, op := Op.assign (Operand.tmp 72), type := 53, pos := "l13_draw.go:90", after := _, guard := none }) (v := ?_) rfl (by kernel_rfl) (by kernel_rfl) (by kernel_rfl) (fun _ _ _ h => h) (Or.inl ⟨by rfl, ?_⟩) (by assumption) ?_
                    rotate_left
                    · (intro w hSw; (try dsimp only at hSw); go_simp; (try with_reducible rfl))
                    simp only [Act.put, List.setIfInBounds_toArray, List.set_cons_zero, List.set_cons_succ]
                    refine wpAnyH_done (by kernel_rfl) ?_ _
                    obtain ⟨g9, rfl⟩ := own_some o14 (by omega)
                    have hln : (L.take j ++ (x0, x1, x2, x3, x4) :: L.drop j).length = j + 1 + 0 := by rw [List.length_append, List.length_take, List.length_cons, List.length_drop]; omega
                    have hOW := Lib.hid (own_mono (base' := w.heap.size) (by have := HKW7.out.size; have := B0.size; omega) o14)
                    have hRW := Lib.hid (HRD7.out.below (B0.trans (C14.mono B0.size)))
                    have hKW := Lib.hid (HKW7.out.trans (.of_below (B0.trans (C14.mono B0.size))))
                    have hAW := Lib.hid (HA.out.ins (j := j) h0 h1 x2 x3 x4)
                    go_wp2_with fail
                    go_roundw
                    case rel =>
                      refine ⟨k - 1, g9, c14, L.take j ++ (x0, x1, x2, x3, x4) :: L.drop j, p2, by omega, by go_num, by rw [hln], ?_, hAW.out, by omega, by omega, hRW.out, by omega, hKW.out⟩
                      rw [hln, List.flatMap_append, List.flatMap_cons]
                      have := hOW.out
                      rw [hdk]
                      simpa [encSpace] using this
                    case measure => simp [intOf]; omega
                  · have hck2 : ¬ cb = j := fun h => hck h.symm
                    have hck3 : j < cb := by omega
                    clear hck
                    refine wp_region_held_drew (S := fun W' => W'.cell? ⟨b, 0, none⟩ = some (.string x0) ∧ W'.cell? ⟨b, 1, none⟩ = some (.string x1) ∧ W'.cell? ⟨b, 2, none⟩ = some (.int .i64 x2) ∧ W'.cell? ⟨b, 3, none⟩ = some (.bool x3) ∧ W'.cell? ⟨b, 4, none⟩ = some (.int .i64 x4)) (by kernel_rfl) (box_cells5 HK0.out) (fun hHeld => ?_)
                    obtain ⟨w8, hw8⟩ := hw0
                    rw [hw8] at HK0 HE0 hHeld ⊢
                    have KS : ∀ W', Below w8.heap.size w8 W' → (fun W' => W'.cell? ⟨b, 0, none⟩ = some (.string x0) ∧ W'.cell? ⟨b, 1, none⟩ = some (.string x1) ∧ W'.cell? ⟨b, 2, none⟩ = some (.int .i64 x2) ∧ W'.cell? ⟨b, 3, none⟩ = some (.bool x3) ∧ W'.cell? ⟨b, 4, none⟩ = some (.int .i64 x4)) W' := fun W' hb => box_cells5 (HK0.out.below hb)
                    have B8 : Below w8.heap.size w8 w8 := Below.refl _ _
                    have hgl8 : g < w8.heap.size := els_block HE0.out (by omega) encSpace_len (by decide)
                    have B0 : Below w7.heap.size w7 w8 := by rw [← hw8]; exact (Below.refl _ _).drew
                    refine wpAnyH_take (i := 1) (oi := { dst := some 62, op := Op.move (Operand.tmp 3), type := 53, pos := "l13_draw.go:90", after := _, guard := none }) (v := ?_) rfl (by kernel_rfl) (by kernel_rfl) (by kernel_rfl) (fun _ _ _ h => h) (Or.inl ⟨by rfl, ?_⟩) (by assumption) ?_
                    rotate_left
                    · (intro w hSw; (try dsimp only at hSw); go_simp; (try with_reducible rfl))
                    simp only [Act.put, List.setIfInBounds_toArray, List.set_cons_zero, List.set_cons_succ]
                    refine wpAnyH_take (i := 2) (oi := { dst := some 63, op := Op.move (Operand.tmp 6), type := 3, pos := "l13_draw.go:90", after := _, guard := none }) (v := ?_) rfl (by kernel_rfl) (by kernel_rfl) (by kernel_rfl) (fun _ _ _ h => h) (Or.inl ⟨by rfl, ?_⟩) (by assumption) ?_
                    rotate_left
                    · (intro w hSw; (try dsimp only at hSw); go_simp; (try with_reducible rfl))
                    simp only [Act.put, List.setIfInBounds_toArray, List.set_cons_zero, List.set_cons_succ]
                    refine wpAnyH_take (i := 3) (oi := { dst := some 64, op := Op.slice 53 (Operand.tmp 62) none (some (Operand.tmp 63)) none, type := 53, pos := "l13_draw.go:90", after := _, guard := none }) (v := ?_) rfl (by kernel_rfl) (by kernel_rfl) (by kernel_rfl) (fun _ _ _ h => h) (Or.inl ⟨by rfl, ?_⟩) (by assumption) ?_
                    rotate_left
                    · (intro w hSw; (try dsimp only at hSw); go_simp; (try with_reducible rfl))
                    simp only [Act.put, List.setIfInBounds_toArray, List.set_cons_zero, List.set_cons_succ]
                    refine wpAnyH_take (i := 5) (oi := { dst := some 66, op := Op.load 26 (Operand.tmp 5), type := 26, pos := "l13_draw.go:90", after := _, guard := none }) (v := ?_) rfl (by kernel_rfl) (by kernel_rfl) (by kernel_rfl) (fun _ _ _ h => h) (Or.inl ⟨by rfl, ?_⟩) (by assumption) ?_
                    rotate_left
                    · (intro w hSw; (try dsimp only at hSw); go_simp; (try with_reducible rfl))
                    simp only [Act.put, List.setIfInBounds_toArray, List.set_cons_zero, List.set_cons_succ]
                    refine wpAnyH_take (i := 8) (oi := { dst := some 69, op := Op.move (Operand.tmp 3), type := 53, pos := "l13_draw.go:90", after := _, guard := none }) (v := ?_) rfl (by kernel_rfl) (by kernel_rfl) (by kernel_rfl) (fun _ _ _ h => h) (Or.inl ⟨by rfl, ?_⟩) (by assumption) ?_
                    rotate_left
                    · (intro w hSw; (try dsimp only at hSw); go_simp; (try with_reducible rfl))
                    simp only [Act.put, List.setIfInBounds_toArray, List.set_cons_zero, List.set_cons_succ]
                    refine wpAnyH_take (i := 9) (oi := { dst := some 70, op := Op.move (Operand.tmp 6), type := 3, pos := "l13_draw.go:90", after := _, guard := none }) (v := ?_) rfl (by kernel_rfl) (by kernel_rfl) (by kernel_rfl) (fun _ _ _ h => h) (Or.inl ⟨by rfl, ?_⟩) (by assumption) ?_
                    rotate_left
                    · (intro w hSw; (try dsimp only at hSw); go_simp; (try with_reducible rfl))
                    simp only [Act.put, List.setIfInBounds_toArray, List.set_cons_zero, List.set_cons_succ]
                    refine wpAnyH_take (i := 10) (oi := { dst := some 71, op := Op.slice 53 (Operand.tmp 69) (some (Operand.tmp 70)) none none, type := 53, pos := "l13_draw.go:90", after := _, guard := none }) (v := ?_) rfl (by kernel_rfl) (by kernel_rfl) (by kernel_rfl) (fun _ _ _ h => h) (Or.inl ⟨by rfl, ?_⟩) (by assumption) ?_
                    rotate_left
                    · (intro w hSw; (try dsimp only at hSw); go_simp; (try with_reducible rfl))
                    simp only [Act.put, List.setIfInBounds_toArray, List.set_cons_zero, List.set_cons_succ]
                    refine wpAnyH_ready (rs := [0, 6]) (by kernel_rfl) (by simp) ?_
                    refine AllReadyH.cons (o := { dst := some 61, op := Op.buildSlice 53 0 #[], type := 53, pos := "l13_draw.go:90", after := _, guard := none }) rfl (fun K hK => ?_) ?_
                    · skip
                      go_simp
                      refine hK.out _ _ (KS _ (B8.alloc B8.size _)) (fun hHeld => ?_)
                      clear hK K
                      (try simp only [Act.put, List.setIfInBounds_toArray, List.set_cons_zero, List.set_cons_succ])
                      have C1 := B8.alloc B8.size (.cells #[] 26)
                      have o1 := own_lit00 (base := w8.heap.size) w8 26 5 w8.heap.size rfl B8.size
                      have y1 : w8.heap.size < (w8.alloc (.cells #[] 26)).heap.size := by rw [World.size_alloc]; omega
                      generalize w8.alloc (.cells #[] 26) = v1 at C1 o1 y1  ⊢
                      refine wpAnyH_ready (rs := [4, 6]) (by kernel_rfl) (by simp) ?_
                      refine AllReadyH.cons (o := { dst := some 65, op := Op.call { callee := Callee.builtin Builtin.append, args := #[Operand.tmp 61, Operand.tmp 64], argTypes := #[53, 53] }, type := 53, pos := "l13_draw.go:90", after := _, guard := none }) rfl (fun K hK => ?_) ?_
                      · skip
                        refine step_append_src _ rfl (.tmp 61) (.tmp 64) 53 rfl w8.heap.size 26 i0 (.agg #[.string ⟨#[]⟩, .string ⟨#[]⟩, .int .i64 0, .bool false, .int .i64 0]) 5 56 Tryd.underlying53 hi hz0 hz1 hz2 rfl (by decide) (.slice (some ⟨w8.heap.size, 0, none⟩) 0 0) (0) [] rfl o1 (some ⟨g, 0, none⟩) j cb ((L.take j).flatMap encSpace) rfl ((src_take encSpace_len (by decide) hjl HE0.out).below C1) (fun u hu => one_sps hu) (by unfold maxLen; omega) (by omega) C1.size ?_
                        intro r2 v2 o2 g2 _
                        have C2 := C1.grown g2 C1.size (fun q hq => (o1.lt q hq).1)
                        refine hK.out _ _ (KS _ C2) (fun hHeld => ?_)
                        clear hK K
                        (try simp only [Act.put, List.setIfInBounds_toArray, List.set_cons_zero, List.set_cons_succ])
                        rw [Nat.zero_add, List.nil_append] at o2
                        obtain ⟨a2, c2, rfl⟩ := own_shape o2
                        have y2 := g2.size
                        refine wpAnyH_ready (rs := [6]) (by kernel_rfl) (by simp) ?_
                        refine AllReadyH.cons (o := { dst := some 67, op := Op.buildSlice 53 1 #[(0, Operand.tmp 66)], type := 53, pos := "l13_draw.go:90", after := _, guard := none }) rfl (fun K hK => ?_) AllReadyH.nil
                        go_simp
                        refine hK.out _ _ (KS _ (C2.alloc C2.size _)) (fun hHeld => ?_)
                        clear hK K
                        (try simp only [Act.put, List.setIfInBounds_toArray, List.set_cons_zero, List.set_cons_succ])
                        have C3 := C2.alloc C2.size (.cells #[.string x0, .string x1, .int .i64 x2, .bool x3, .int .i64 x4] 26)
                        have s3 := src_new v2 [.string x0, .string x1, .int .i64 x2, .bool x3, .int .i64 x4] 26 1 5 v2.heap.size rfl rfl
                        have y3 : v2.heap.size < (v2.alloc (.cells #[.string x0, .string x1, .int .i64 x2, .bool x3, .int .i64 x4] 26)).heap.size := by rw [World.size_alloc]; omega
                        have o3 := own_below o2 (below_alloc v2 (.cells #[.string x0, .string x1, .int .i64 x2, .bool x3, .int .i64 x4] 26))
                        generalize v2.alloc (.cells #[.string x0, .string x1, .int .i64 x2, .bool x3, .int .i64 x4] 26) = v3 at C3 s3 y3 o3 ⊢
                        refine wpAnyH_ready (rs := [7]) (by kernel_rfl) (by simp) ?_
                        refine AllReadyH.cons (o := { dst := some 68, op := Op.call { callee := Callee.builtin Builtin.append, args := #[Operand.tmp 65, Operand.tmp 67], argTypes := #[53, 53] }, type := 53, pos := "l13_draw.go:90", after := _, guard := none }) rfl (fun K hK => ?_) AllReadyH.nil
                        refine step_append_src _ rfl (.tmp 65) (.tmp 67) 53 rfl w8.heap.size 26 i0 (.agg #[.string ⟨#[]⟩, .string ⟨#[]⟩, .int .i64 0, .bool false, .int .i64 0]) 5 56 Tryd.underlying53 hi hz0 hz1 hz2 rfl (by decide) (.slice a2 (j) c2) (j) ((L.take j).flatMap encSpace) rfl o3 (some ⟨v2.heap.size, 0, none⟩) 1 1 [.string x0, .string x1, .int .i64 x2, .bool x3, .int .i64 x4] rfl s3 (by simp [Value.oneCell']) (by unfold maxLen; omega) (by omega) C3.size ?_
                        intro r4 v4 o4 g4 _
                        have C4 := C3.grown g4 C3.size (fun q hq => (o3.lt q hq).1)
                        refine hK.out _ _ (KS _ C4) (fun hHeld => ?_)
                        clear hK K
                        (try simp only [Act.put, List.setIfInBounds_toArray, List.set_cons_zero, List.set_cons_succ])
                        obtain ⟨a4, c4, rfl⟩ := own_shape o4
                        have y4 := g4.size
                        refine wpAnyH_ready (rs := [11]) (by kernel_rfl) (by simp) ?_
                        refine AllReadyH.cons (o := { dst := some 72, op := Op.call { callee := Callee.builtin Builtin.append, args := #[Operand.tmp 68, Operand.tmp 71], argTypes := #[53, 53] }, type := 53, pos := "l13_draw.go:90", after := _, guard := none }) rfl (fun K hK => ?_) AllReadyH.nil
                        refine step_append_src _ rfl (.tmp 68) (.tmp 71) 53 rfl w8.heap.size 26 i0 (.agg #[.string ⟨#[]⟩, .string ⟨#[]⟩, .int .i64 0, .bool false, .int .i64 0]) 5 56 Tryd.underlying53 hi hz0 hz1 hz2 rfl (by decide) (.slice a4 (j + 1) c4) (j + 1) ((L.take j).flatMap encSpace ++ [.string x0, .string x1, .int .i64 x2, .bool x3, .int .i64 x4]) rfl o4 (some ⟨g, j * 5, none⟩) (L.length - j) (cb - j) ((L.drop j).flatMap encSpace) rfl ((src_drop encSpace_len (by decide) HE0.out).below C4) (fun u hu => one_sps hu) (by unfold maxLen; omega) (by omega) C4.size ?_
                        intro r5 v5 o5 g5 _
                        have C5 := C4.grown g5 C4.size (fun q hq => (o4.lt q hq).1)
                        refine hK.out _ _ (KS _ C5) (fun hHeld => ?_)
                        clear hK K
                        (try simp only [Act.put, List.setIfInBounds_toArray, List.set_cons_zero, List.set_cons_succ])
                        obtain ⟨a5, c5, rfl⟩ := own_shape o5
                        have y5 := g5.size
                        refine wpAnyH_take (i := 12) (oi := { dst := some 3, op := Op.assign (Operand.tmp 72), type := 53, pos := "l13_draw.go:90", after := _, guard := none }) (v := ?_) rfl (by kernel_rfl) (by kernel_rfl) (by kernel_rfl) (fun _ _ _ h => h) (Or.inl ⟨by rfl, ?_⟩) (by assumption) ?_
                        rotate_left
                        · (intro w hSw; (try dsimp only at hSw); go_simp; (try with_reducible rfl))
                        simp only [Act.put, List.setIfInBounds_toArray, List.set_cons_zero, List.set_cons_succ]
                        refine wpAnyH_done (by kernel_rfl) ?_ _
                        obtain ⟨g9, rfl⟩ := own_some o5 (by omega)
                        have hln : (L.take j ++ (x0, x1, x2, x3, x4) :: L.drop j).length = j + 1 + (L.length - j) := by rw [List.length_append, List.length_take, List.length_cons, List.length_drop]; omega
                        have hOW := Lib.hid (own_mono (base' := w.heap.size) (by have := HKW7.out.size; have := B0.size; omega) o5)
                        have hRW := Lib.hid (HRD7.out.below (B0.trans (C5.mono B0.size)))
                        have hKW := Lib.hid (HKW7.out.trans (.of_below (B0.trans (C5.mono B0.size))))
                        have hAW := Lib.hid (HA.out.ins (j := j) h0 h1 x2 x3 x4)
                        go_wp2_with fail
                        go_roundw
                        case rel =>
                          refine ⟨k - 1, g9, c5, L.take j ++ (x0, x1, x2, x3, x4) :: L.drop j, p2, by omega, by go_num, by rw [hln], ?_, hAW.out, by omega, by omega, hRW.out, by omega, hKW.out⟩
                          rw [hln, List.flatMap_append, List.flatMap_cons]
                          have := hOW.out
                          skip
                          simpa [encSpace] using this
                        case measure => simp [intOf]; omega
                      refine AllReadyH.cons (o := { dst := some 67, op := Op.buildSlice 53 1 #[(0, Operand.tmp 66)], type := 53, pos := "l13_draw.go:90", after := _, guard := none }) rfl (fun K hK => ?_) AllReadyH.nil
                      go_simp
                      refine hK.out _ _ (KS _ (C1.alloc C1.size _)) (fun hHeld => ?_)
                      clear hK K
                      (try simp only [Act.put, List.setIfInBounds_toArray, List.set_cons_zero, List.set_cons_succ])
                      have C6 := C1.alloc C1.size (.cells #[.string x0, .string x1, .int .i64 x2, .bool x3, .int .i64 x4] 26)
                      have s6 := src_new v1 [.string x0, .string x1, .int .i64 x2, .bool x3, .int .i64 x4] 26 1 5 v1.heap.size rfl rfl
                      have y6 : v1.heap.size < (v1.alloc (.cells #[.string x0, .string x1, .int .i64 x2, .bool x3, .int .i64 x4] 26)).heap.size := by rw [World.size_alloc]; omega
                      have o6 := own_below o1 (below_alloc v1 (.cells #[.string x0, .string x1, .int .i64 x2, .bool x3, .int .i64 x4] 26))
                      generalize v1.alloc (.cells #[.string x0, .string x1, .int .i64 x2, .bool x3, .int .i64 x4] 26) = v6 at C6 s6 y6 o6 ⊢
                      refine wpAnyH_ready (rs := [4]) (by kernel_rfl) (by simp) ?_
                      refine AllReadyH.cons (o := { dst := some 65, op := Op.call { callee := Callee.builtin Builtin.append, args := #[Operand.tmp 61, Operand.tmp 64], argTypes := #[53, 53] }, type := 53, pos := "l13_draw.go:90", after := _, guard := none }) rfl (fun K hK => ?_) AllReadyH.nil
                      refine step_append_src _ rfl (.tmp 61) (.tmp 64) 53 rfl w8.heap.size 26 i0 (.agg #[.string ⟨#[]⟩, .string ⟨#[]⟩, .int .i64 0, .bool false, .int .i64 0]) 5 56 Tryd.underlying53 hi hz0 hz1 hz2 rfl (by decide) (.slice (some ⟨w8.heap.size, 0, none⟩) 0 0) (0) [] rfl o6 (some ⟨g, 0, none⟩) j cb ((L.take j).flatMap encSpace) rfl ((src_take encSpace_len (by decide) hjl HE0.out).below C6) (fun u hu => one_sps hu) (by unfold maxLen; omega) (by omega) C6.size ?_
                      intro r7 v7 o7 g7 _
                      have C7 := C6.grown g7 C6.size (fun q hq => (o6.lt q hq).1)
                      refine hK.out _ _ (KS _ C7) (fun hHeld => ?_)
                      clear hK K
                      (try simp only [Act.put, List.setIfInBounds_toArray, List.set_cons_zero, List.set_cons_succ])
                      rw [Nat.zero_add, List.nil_append] at o7
                      obtain ⟨a7, c7, rfl⟩ := own_shape o7
                      have y7 := g7.size
                      have s7 := s6.kept (kept_of_grown g7) (fun q hq e => by have e1 := own_blk e; simp at hq; omega)
                      refine wpAnyH_ready (rs := [7]) (by kernel_rfl) (by simp) ?_
                      refine AllReadyH.cons (o := { dst := some 68, op := Op.call { callee := Callee.builtin Builtin.append, args := #[Operand.tmp 65, Operand.tmp 67], argTypes := #[53, 53] }, type := 53, pos := "l13_draw.go:90", after := _, guard := none }) rfl (fun K hK => ?_) AllReadyH.nil
                      refine step_append_src _ rfl (.tmp 65) (.tmp 67) 53 rfl w8.heap.size 26 i0 (.agg #[.string ⟨#[]⟩, .string ⟨#[]⟩, .int .i64 0, .bool false, .int .i64 0]) 5 56 Tryd.underlying53 hi hz0 hz1 hz2 rfl (by decide) (.slice a7 (j) c7) (j) ((L.take j).flatMap encSpace) rfl o7 (some ⟨v1.heap.size, 0, none⟩) 1 1 [.string x0, .string x1, .int .i64 x2, .bool x3, .int .i64 x4] rfl s7 (by simp [Value.oneCell']) (by unfold maxLen; omega) (by omega) C7.size ?_
                      intro r8 v8 o8 g8 _
                      have C8 := C7.grown g8 C7.size (fun q hq => (o7.lt q hq).1)
                      refine hK.out _ _ (KS _ C8) (fun hHeld => ?_)
                      clear hK K
                      (try simp only [Act.put, List.setIfInBounds_toArray, List.set_cons_zero, List.set_cons_succ])
                      obtain ⟨a8, c8, rfl⟩ := own_shape o8
                      have y8 := g8.size
                      refine wpAnyH_ready (rs := [11]) (by kernel_rfl) (by simp) ?_
                      refine AllReadyH.cons (o := { dst := some 72, op := Op.call { callee := Callee.builtin Builtin.append, args := #[Operand.tmp 68, Operand.tmp 71], argTypes := #[53, 53] }, type := 53, pos := "l13_draw.go:90", after := _, guard := none }) rfl (fun K hK => ?_) AllReadyH.nil
                      refine step_append_src _ rfl (.tmp 68) (.tmp 71) 53 rfl w8.heap.size 26 i0 (.agg #[.string ⟨#[]⟩, .string ⟨#[]⟩, .int .i64 0, .bool false, .int .i64 0]) 5 56 Tryd.underlying53 hi hz0 hz1 hz2 rfl (by decide) (.slice a8 (j + 1) c8) (j + 1) ((L.take j).flatMap encSpace ++ [.string x0, .string x1, .int .i64 x2, .bool x3, .int .i64 x4]) rfl o8 (some ⟨g, j * 5, none⟩) (L.length - j) (cb - j) ((L.drop j).flatMap encSpace) rfl ((src_drop encSpace_len (by decide) HE0.out).below C8) (fun u hu => one_sps hu) (by unfold maxLen; omega) (by omega) C8.size ?_
                      intro r9 v9 o9 g9 _
                      have C9 := C8.grown g9 C8.size (fun q hq => (o8.lt q hq).1)
                      refine hK.out _ _ (KS _ C9) (fun hHeld => ?_)
                      clear hK K
                      (try simp only [Act.put, List.setIfInBounds_toArray, List.set_cons_zero, List.set_cons_succ])
                      obtain ⟨a9, c9, rfl⟩ := own_shape o9
                      have y9 := g9.size
                      refine wpAnyH_take (i := 12) (oi := { dst := some 3, op := Op.assign (Operand.tmp 72), type := 53, pos := "l13_draw.go:90", after := _, guard := none }) (v := ?_) rfl (by kernel_rfl) (by kernel_rfl) (by kernel_rfl) (fun _ _ _ h => h) (Or.inl ⟨by rfl, ?_⟩) (by assumption) ?_
                      rotate_left
                      · (intro w hSw; (try dsimp only at hSw); go_simp; (try with_reducible rfl))
                      simp only [Act.put, List.setIfInBounds_toArray, List.set_cons_zero, List.set_cons_succ]
                      refine wpAnyH_done (by kernel_rfl) ?_ _
                      obtain ⟨g9, rfl⟩ := own_some o9 (by omega)
                      have hln : (L.take j ++ (x0, x1, x2, x3, x4) :: L.drop j).length = j + 1 + (L.length - j) := by rw [List.length_append, List.length_take, List.length_cons, List.length_drop]; omega
                      have hOW := Lib.hid (own_mono (base' := w.heap.size) (by have := HKW7.out.size; have := B0.size; omega) o9)
                      have hRW := Lib.hid (HRD7.out.below (B0.trans (C9.mono B0.size)))
                      have hKW := Lib.hid (HKW7.out.trans (.of_below (B0.trans (C9.mono B0.size))))
                      have hAW := Lib.hid (HA.out.ins (j := j) h0 h1 x2 x3 x4)
                      go_wp2_with fail
                      go_roundw
                      case rel =>
                        refine ⟨k - 1, g9, c9, L.take j ++ (x0, x1, x2, x3, x4) :: L.drop j, p2, by omega, by go_num, by rw [hln], ?_, hAW.out, by omega, by omega, hRW.out, by omega, hKW.out⟩
                        rw [hln, List.flatMap_append, List.flatMap_cons]
                        have := hOW.out
                        skip
                        simpa [encSpace] using this
                      case measure => simp [intOf]; omega
                    refine AllReadyH.cons (o := { dst := some 67, op := Op.buildSlice 53 1 #[(0, Operand.tmp 66)], type := 53, pos := "l13_draw.go:90", after := _, guard := none }) rfl (fun K hK => ?_) AllReadyH.nil
                    go_simp
                    refine hK.out _ _ (KS _ (B8.alloc B8.size _)) (fun hHeld => ?_)
                    clear hK K
                    (try simp only [Act.put, List.setIfInBounds_toArray, List.set_cons_zero, List.set_cons_succ])
                    have C10 := B8.alloc B8.size (.cells #[.string x0, .string x1, .int .i64 x2, .bool x3, .int .i64 x4] 26)
                    have s10 := src_new w8 [.string x0, .string x1, .int .i64 x2, .bool x3, .int .i64 x4] 26 1 5 w8.heap.size rfl rfl
                    have y10 : w8.heap.size < (w8.alloc (.cells #[.string x0, .string x1, .int .i64 x2, .bool x3, .int .i64 x4] 26)).heap.size := by rw [World.size_alloc]; omega
                    generalize w8.alloc (.cells #[.string x0, .string x1, .int .i64 x2, .bool x3, .int .i64 x4] 26) = v10 at C10 s10 y10  ⊢
                    refine wpAnyH_ready (rs := [0]) (by kernel_rfl) (by simp) ?_
                    refine AllReadyH.cons (o := { dst := some 61, op := Op.buildSlice 53 0 #[], type := 53, pos := "l13_draw.go:90", after := _, guard := none }) rfl (fun K hK => ?_) AllReadyH.nil
                    go_simp
                    refine hK.out _ _ (KS _ (C10.alloc C10.size _)) (fun hHeld => ?_)
                    clear hK K
                    (try simp only [Act.put, List.setIfInBounds_toArray, List.set_cons_zero, List.set_cons_succ])
                    have C11 := C10.alloc C10.size (.cells #[] 26)
                    have o11 := own_lit00 (base := w8.heap.size) v10 26 5 v10.heap.size rfl C10.size
                    have s11 := s10.below (below_alloc v10 (.cells #[] 26))
                    have y11 : v10.heap.size < (v10.alloc (.cells #[] 26)).heap.size := by rw [World.size_alloc]; omega
                    generalize v10.alloc (.cells #[] 26) = v11 at C11 o11 y11 s11 ⊢
                    refine wpAnyH_ready (rs := [4]) (by kernel_rfl) (by simp) ?_
                    refine AllReadyH.cons (o := { dst := some 65, op := Op.call { callee := Callee.builtin Builtin.append, args := #[Operand.tmp 61, Operand.tmp 64], argTypes := #[53, 53] }, type := 53, pos := "l13_draw.go:90", after := _, guard := none }) rfl (fun K hK => ?_) AllReadyH.nil
                    refine step_append_src _ rfl (.tmp 61) (.tmp 64) 53 rfl w8.heap.size 26 i0 (.agg #[.string ⟨#[]⟩, .string ⟨#[]⟩, .int .i64 0, .bool false, .int .i64 0]) 5 56 Tryd.underlying53 hi hz0 hz1 hz2 rfl (by decide) (.slice (some ⟨v10.heap.size, 0, none⟩) 0 0) (0) [] rfl o11 (some ⟨g, 0, none⟩) j cb ((L.take j).flatMap encSpace) rfl ((src_take encSpace_len (by decide) hjl HE0.out).below C11) (fun u hu => one_sps hu) (by unfold maxLen; omega) (by omega) C11.size ?_
                    intro r12 v12 o12 g12 _
                    have C12 := C11.grown g12 C11.size (fun q hq => (o11.lt q hq).1)
                    refine hK.out _ _ (KS _ C12) (fun hHeld => ?_)
                    clear hK K
                    (try simp only [Act.put, List.setIfInBounds_toArray, List.set_cons_zero, List.set_cons_succ])
                    rw [Nat.zero_add, List.nil_append] at o12
                    obtain ⟨a12, c12, rfl⟩ := own_shape o12
                    have y12 := g12.size
                    have s12 := s11.kept (kept_of_grown g12) (fun q hq e => by have e1 := own_blk e; simp at hq; omega)
                    refine wpAnyH_ready (rs := [7]) (by kernel_rfl) (by simp) ?_
                    refine AllReadyH.cons (o := { dst := some 68, op := Op.call { callee := Callee.builtin Builtin.append, args := #[Operand.tmp 65, Operand.tmp 67], argTypes := #[53, 53] }, type := 53, pos := "l13_draw.go:90", after := _, guard := none }) rfl (fun K hK => ?_) AllReadyH.nil
                    refine step_append_src _ rfl (.tmp 65) (.tmp 67) 53 rfl w8.heap.size 26 i0 (.agg #[.string ⟨#[]⟩, .string ⟨#[]⟩, .int .i64 0, .bool false, .int .i64 0]) 5 56 Tryd.underlying53 hi hz0 hz1 hz2 rfl (by decide) (.slice a12 (j) c12) (j) ((L.take j).flatMap encSpace) rfl o12 (some ⟨w8.heap.size, 0, none⟩) 1 1 [.string x0, .string x1, .int .i64 x2, .bool x3, .int .i64 x4] rfl s12 (by simp [Value.oneCell']) (by unfold maxLen; omega) (by omega) C12.size ?_
                    intro r13 v13 o13 g13 _
                    have C13 := C12.grown g13 C12.size (fun q hq => (o12.lt q hq).1)
                    refine hK.out _ _ (KS _ C13) (fun hHeld => ?_)
                    clear hK K
                    (try simp only [Act.put, List.setIfInBounds_toArray, List.set_cons_zero, List.set_cons_succ])
                    obtain ⟨a13, c13, rfl⟩ := own_shape o13
                    have y13 := g13.size
                    refine wpAnyH_ready (rs := [11]) (by kernel_rfl) (by simp) ?_
                    refine AllReadyH.cons (o := { dst := some 72, op := Op.call { callee := Callee.builtin Builtin.append, args := #[Operand.tmp 68, Operand.tmp 71], argTypes := #[53, 53] }, type := 53, pos := "l13_draw.go:90", after := _, guard := none }) rfl (fun K hK => ?_) AllReadyH.nil
                    refine step_append_src _ rfl (.tmp 68) (.tmp 71) 53 rfl w8.heap.size 26 i0 (.agg #[.string ⟨#[]⟩, .string ⟨#[]⟩, .int .i64 0, .bool false, .int .i64 0]) 5 56 Tryd.underlying53 hi hz0 hz1 hz2 rfl (by decide) (.slice a13 (j + 1) c13) (j + 1) ((L.take j).flatMap encSpace ++ [.string x0, .string x1, .int .i64 x2, .bool x3, .int .i64 x4]) rfl o13 (some ⟨g, j * 5, none⟩) (L.length - j) (cb - j) ((L.drop j).flatMap encSpace) rfl ((src_drop encSpace_len (by decide) HE0.out).below C13) (fun u hu => one_sps hu) (by unfold maxLen; omega) (by omega) C13.size ?_
                    intro r14 v14 o14 g14 _
                    have C14 := C13.grown g14 C13.size (fun q hq => (o13.lt q hq).1)
                    refine hK.out _ _ (KS _ C14) (fun hHeld => ?_)
                    clear hK K
                    (try simp only [Act.put, List.setIfInBounds_toArray, List.set_cons_zero, List.set_cons_succ])
                    obtain ⟨a14, c14, rfl⟩ := own_shape o14
                    have y14 := g14.size
                    refine wpAnyH_take (i := 12) (oi := { dst := some 3, op := Op.assign (Operand.tmp 72), type := 53, pos := "l13_draw.go:90", after := _, guard := none }) (v := ?_) rfl (by kernel_rfl) (by kernel_rfl) (by kernel_rfl) (fun _ _ _ h => h) (Or.inl ⟨by rfl, ?_⟩) (by assumption) ?_
                    rotate_left
                    · (intro w hSw; (try dsimp only at hSw); go_simp; (try with_reducible rfl))
                    simp only [Act.put, List.setIfInBounds_toArray, List.set_cons_zero, List.set_cons_succ]
                    refine wpAnyH_done (by kernel_rfl) ?_ _
                    obtain ⟨g9, rfl⟩ := own_some o14 (by omega)
                    have hln : (L.take j ++ (x0, x1, x2, x3, x4) :: L.drop j).length = j + 1 + (L.length - j) := by rw [List.length_append, List.length_take, List.length_cons, List.length_drop]; omega
                    have hOW := Lib.hid (own_mono (base' := w.heap.size) (by have := HKW7.out.size; have := B0.size; omega) o14)
                    have hRW := Lib.hid (HRD7.out.below (B0.trans (C14.mono B0.size)))
                    have hKW := Lib.hid (HKW7.out.trans (.of_below (B0.trans (C14.mono B0.size))))
                    have hAW := Lib.hid (HA.out.ins (j := j) h0 h1 x2 x3 x4)
                    go_wp2_with fail
                    go_roundw
                    case rel =>
                      refine ⟨k - 1, g9, c14, L.take j ++ (x0, x1, x2, x3, x4) :: L.drop j, p2, by omega, by go_num, by rw [hln], ?_, hAW.out, by omega, by omega, hRW.out, by omega, hKW.out⟩
                      rw [hln, List.flatMap_append, List.flatMap_cons]
                      have := hOW.out
                      skip
                      simpa [encSpace] using this
                    case measure => simp [intOf]; omega
              · have hd : decide (j < L.length) = false := decide_eq_false hlt
                clear hov
                go_wp2_with fail
                go_quiet (fail)
                go_wp2_with fail
                have HK7 := Lib.hid (HKV.out.trans (.of_below (below_drewN (Below.refl _ _) nq)))
                generalize World.drewN _ nq = w7 at HK7 ⊢
                have HKW7 := Lib.hid (HKA6.out.trans (HK7.out.mono (fun _ _ h => h.elim)))
                have HRD7 := Lib.hid (HRD6.out.kept HK7.out (fun h => h) (fun _ _ h => h))
                have HBX0 := HBX6.out.kept HK7.out (fun h => h)
                have HE := own_el encSpace_len (by unfold maxLen; omega) (own_kept HO6.out HK7.out (fun _ _ h => h))
                have hjl : j ≤ L.length := hj
                have HK0 := Lib.hid (show Box w7.drew b [.string x0, .string x1, .int .i64 x2, .bool x3, .int .i64 x4] from HBX0.below ((Below.refl _ _).drew))
                have HE0 := Lib.hid (show ElS 5 encSpace w7.drew (some ⟨g, 0, none⟩) L from HE.below ((Below.refl _ _).drew))
                have hw0 : ∃ w8, w7.drew = w8 := ⟨_, rfl⟩
                have hj0 : (0 : Int) ≤ (j : Int) := by omega
                have hjn : (j : Int) ≤ (L.length : Int) := by omega
                have hjc : (j : Int) ≤ (cb : Int) := by omega
                have hnc : (L.length : Int) ≤ (cb : Int) := by omega
                by_cases hck : j = cb
                · have hdk : L.drop j = [] := List.drop_of_length_le (by omega)
                  subst hck
                  refine wp_region_held_drew (S := fun W' => W'.cell? ⟨b, 0, none⟩ = some (.string x0) ∧ W'.cell? ⟨b, 1, none⟩ = some (.string x1) ∧ W'.cell? ⟨b, 2, none⟩ = some (.int .i64 x2) ∧ W'.cell? ⟨b, 3, none⟩ = some (.bool x3) ∧ W'.cell? ⟨b, 4, none⟩ = some (.int .i64 x4)) (by kernel_rfl) (box_cells5 HK0.out) (fun hHeld => ?_)
                  obtain ⟨w8, hw8⟩ := hw0
                  rw [hw8] at HK0 HE0 hHeld ⊢
                  have KS : ∀ W', Below w8.heap.size w8 W' → (fun W' => W'.cell? ⟨b, 0, none⟩ = some (.string x0) ∧ W'.cell? ⟨b, 1, none⟩ = some (.string x1) ∧ W'.cell? ⟨b, 2, none⟩ = some (.int .i64 x2) ∧ W'.cell? ⟨b, 3, none⟩ = some (.bool x3) ∧ W'.cell? ⟨b, 4, none⟩ = some (.int .i64 x4)) W' := fun W' hb => box_cells5 (HK0.out.below hb)
                  have B8 : Below w8.heap.size w8 w8 := Below.refl _ _
                  have hgl8 : g < w8.heap.size := els_block HE0.out (by omega) encSpace_len (by decide)
                  have B0 : Below w7.heap.size w7 w8 := by rw [← hw8]; exact (Below.refl _ _).drew
                  refine wpAnyH_take (i := 1) (oi := { dst := some 62, op := Op.move (Operand.tmp 3), type := 53, pos := "l13_draw.go:90", after := _, guard := none }) (v := ?_) rfl (by kernel_rfl) (by kernel_rfl) (by kernel_rfl) (fun _ _ _ h => h) (Or.inl ⟨by rfl, ?_⟩) (by assumption) ?_
                  rotate_left
                  · (intro w hSw; (try dsimp only at hSw); go_simp; (try with_reducible rfl))
                  simp only [Act.put, List.setIfInBounds_toArray, List.set_cons_zero, List.set_cons_succ]
                  refine wpAnyH_take (i := 2) (oi := { dst := some 63, op := Op.move (Operand.tmp 6), type := 3, pos := "l13_draw.go:90", after := _, guard := none }) (v := ?_) rfl (by kernel_rfl) (by kernel_rfl) (by kernel_rfl) (fun _ _ _ h => h) (Or.inl ⟨by rfl, ?_⟩) (by assumption) ?_
                  rotate_left
                  · (intro w hSw; (try dsimp only at hSw); go_simp; (try with_reducible rfl))
                  simp only [Act.put, List.setIfInBounds_toArray, List.set_cons_zero, List.set_cons_succ]
                  refine wpAnyH_take (i := 3) (oi := { dst := some 64, op := Op.slice 53 (Operand.tmp 62) none (some (Operand.tmp 63)) none, type := 53, pos := "l13_draw.go:90", after := _, guard := none }) (v := ?_) rfl (by kernel_rfl) (by kernel_rfl) (by kernel_rfl) (fun _ _ _ h => h) (Or.inl ⟨by rfl, ?_⟩) (by assumption) ?_
                  rotate_left
                  · (intro w hSw; (try dsimp only at hSw); go_simp; (try with_reducible rfl))
                  simp only [Act.put, List.setIfInBounds_toArray, List.set_cons_zero, List.set_cons_succ]
                  refine wpAnyH_take (i := 5) (oi := { dst := some 66, op := Op.load 26 (Operand.tmp 5), type := 26, pos := "l13_draw.go:90", after := _, guard := none }) (v := ?_) rfl (by kernel_rfl) (by kernel_rfl) (by kernel_rfl) (fun _ _ _ h => h) (Or.inl ⟨by rfl, ?_⟩) (by assumption) ?_
                  rotate_left
                  · (intro w hSw; (try dsimp only at hSw); go_simp; (try with_reducible rfl))
                  simp only [Act.put, List.setIfInBounds_toArray, List.set_cons_zero, List.set_cons_succ]
                  refine wpAnyH_take (i := 8) (oi := { dst := some 69, op := Op.move (Operand.tmp 3), type := 53, pos := "l13_draw.go:90", after := _, guard := none }) (v := ?_) rfl (by kernel_rfl) (by kernel_rfl) (by kernel_rfl) (fun _ _ _ h => h) (Or.inl ⟨by rfl, ?_⟩) (by assumption) ?_
                  rotate_left
                  · (intro w hSw; (try dsimp only at hSw); go_simp; (try with_reducible rfl))
                  simp only [Act.put, List.setIfInBounds_toArray, List.set_cons_zero, List.set_cons_succ]
                  refine wpAnyH_take (i := 9) (oi := { dst := some 70, op := Op.move (Operand.tmp 6), type := 3, pos := "l13_draw.go:90", after := _, guard := none }) (v := ?_) rfl (by kernel_rfl) (by kernel_rfl) (by kernel_rfl) (fun _ _ _ h => h) (Or.inl ⟨by rfl, ?_⟩) (by assumption) ?_
                  rotate_left
                  · (intro w hSw; (try dsimp only at hSw); go_simp; (try with_reducible rfl))
                  simp only [Act.put, List.setIfInBounds_toArray, List.set_cons_zero, List.set_cons_succ]
                  refine wpAnyH_take (i := 10) (oi := { dst := some 71, op := Op.slice 53 (Operand.tmp 69) (some (Operand.tmp 70)) none none, type := 53, pos := "l13_draw.go:90", after := _, guard := none }) (v := ?_) rfl (by kernel_rfl) (by kernel_rfl) (by kernel_rfl) (fun _ _ _ h => h) (Or.inl ⟨by rfl, ?_⟩) (by assumption) ?_
                  rotate_left
                  · (intro w hSw; (try dsimp only at hSw); go_simp; (try with_reducible rfl))
                  simp only [Act.put, List.setIfInBounds_toArray, List.set_cons_zero, List.set_cons_succ]
                  refine wpAnyH_ready (rs := [0, 6]) (by kernel_rfl) (by simp) ?_
                  refine AllReadyH.cons (o := { dst := some 61, op := Op.buildSlice 53 0 #[], type := 53, pos := "l13_draw.go:90", after := _, guard := none }) rfl (fun K hK => ?_) ?_
                  · skip
                    go_simp
                    refine hK.out _ _ (KS _ (B8.alloc B8.size _)) (fun hHeld => ?_)
                    clear hK K
                    (try simp only [Act.put, List.setIfInBounds_toArray, List.set_cons_zero, List.set_cons_succ])
                    have C1 := B8.alloc B8.size (.cells #[] 26)
                    have o1 := own_lit00 (base := w8.heap.size) w8 26 5 w8.heap.size rfl B8.size
                    have y1 : w8.heap.size < (w8.alloc (.cells #[] 26)).heap.size := by rw [World.size_alloc]; omega
                    generalize w8.alloc (.cells #[] 26) = v1 at C1 o1 y1  ⊢
                    refine wpAnyH_ready (rs := [4, 6]) (by kernel_rfl) (by simp) ?_
                    refine AllReadyH.cons (o := { dst := some 65, op := Op.call { callee := Callee.builtin Builtin.append, args := #[Operand.tmp 61, Operand.tmp 64], argTypes := #[53, 53] }, type := 53, pos := "l13_draw.go:90", after := _, guard := none }) rfl (fun K hK => ?_) ?_
                    · skip
                      refine step_append_src _ rfl (.tmp 61) (.tmp 64) 53 rfl w8.heap.size 26 i0 (.agg #[.string ⟨#[]⟩, .string ⟨#[]⟩, .int .i64 0, .bool false, .int .i64 0]) 5 56 Tryd.underlying53 hi hz0 hz1 hz2 rfl (by decide) (.slice (some ⟨w8.heap.size, 0, none⟩) 0 0) (0) [] rfl o1 (some ⟨g, 0, none⟩) j j ((L.take j).flatMap encSpace) rfl ((src_take encSpace_len (by decide) hjl HE0.out).below C1) (fun u hu => one_sps hu) (by unfold maxLen; omega) (by omega) C1.size ?_
                      intro r2 v2 o2 g2 _
                      have C2 := C1.grown g2 C1.size (fun q hq => (o1.lt q hq).1)
                      refine hK.out _ _ (KS _ C2) (fun hHeld => ?_)
                      clear hK K
                      (try simp only [Act.put, List.setIfInBounds_toArray, List.set_cons_zero, List.set_cons_succ])
                      rw [Nat.zero_add, List.nil_append] at o2
                      obtain ⟨a2, c2, rfl⟩ := own_shape o2
                      have y2 := g2.size
                      refine wpAnyH_ready (rs := [6]) (by kernel_rfl) (by simp) ?_
                      refine AllReadyH.cons (o := { dst := some 67, op := Op.buildSlice 53 1 #[(0, Operand.tmp 66)], type := 53, pos := "l13_draw.go:90", after := _, guard := none }) rfl (fun K hK => ?_) AllReadyH.nil
                      go_simp
                      refine hK.out _ _ (KS _ (C2.alloc C2.size _)) (fun hHeld => ?_)
                      clear hK K
                      (try simp only [Act.put, List.setIfInBounds_toArray, List.set_cons_zero, List.set_cons_succ])
                      have C3 := C2.alloc C2.size (.cells #[.string x0, .string x1, .int .i64 x2, .bool x3, .int .i64 x4] 26)
                      have s3 := src_new v2 [.string x0, .string x1, .int .i64 x2, .bool x3, .int .i64 x4] 26 1 5 v2.heap.size rfl rfl
                      have y3 : v2.heap.size < (v2.alloc (.cells #[.string x0, .string x1, .int .i64 x2, .bool x3, .int .i64 x4] 26)).heap.size := by rw [World.size_alloc]; omega
                      have o3 := own_below o2 (below_alloc v2 (.cells #[.string x0, .string x1, .int .i64 x2, .bool x3, .int .i64 x4] 26))
                      generalize v2.alloc (.cells #[.string x0, .string x1, .int .i64 x2, .bool x3, .int .i64 x4] 26) = v3 at C3 s3 y3 o3 ⊢
                      refine wpAnyH_ready (rs := [7]) (by kernel_rfl) (by simp) ?_
                      refine AllReadyH.cons (o := { dst := some 68, op := Op.call { callee := Callee.builtin Builtin.append, args := #[Operand.tmp 65, Operand.tmp 67], argTypes := #[53, 53] }, type := 53, pos := "l13_draw.go:90", after := _, guard := none }) rfl (fun K hK => ?_) AllReadyH.nil
                      refine step_append_src _ rfl (.tmp 65) (.tmp 67) 53 rfl w8.heap.size 26 i0 (.agg #[.string ⟨#[]⟩, .string ⟨#[]⟩, .int .i64 0, .bool false, .int .i64 0]) 5 56 Tryd.underlying53 hi hz0 hz1 hz2 rfl (by decide) (.slice a2 (j) c2) (j) ((L.take j).flatMap encSpace) rfl o3 (some ⟨v2.heap.size, 0, none⟩) 1 1 [.string x0, .string x1, .int .i64 x2, .bool x3, .int .i64 x4] rfl s3 (by simp [Value.oneCell']) (by unfold maxLen; omega) (by omega) C3.size ?_
                      intro r4 v4 o4 g4 _
                      have C4 := C3.grown g4 C3.size (fun q hq => (o3.lt q hq).1)
                      refine hK.out _ _ (KS _ C4) (fun hHeld => ?_)
                      clear hK K
                      (try simp only [Act.put, List.setIfInBounds_toArray, List.set_cons_zero, List.set_cons_succ])
                      obtain ⟨a4, c4, rfl⟩ := own_shape o4
                      have y4 := g4.size
                      refine wpAnyH_ready (rs := [11]) (by kernel_rfl) (by simp) ?_
                      refine AllReadyH.cons (o := { dst := some 72, op := Op.call { callee := Callee.builtin Builtin.append, args := #[Operand.tmp 68, Operand.tmp 71], argTypes := #[53, 53] }, type := 53, pos := "l13_draw.go:90", after := _, guard := none }) rfl (fun K hK => ?_) AllReadyH.nil
                      refine step_append_src _ rfl (.tmp 68) (.tmp 71) 53 rfl w8.heap.size 26 i0 (.agg #[.string ⟨#[]⟩, .string ⟨#[]⟩, .int .i64 0, .bool false, .int .i64 0]) 5 56 Tryd.underlying53 hi hz0 hz1 hz2 rfl (by decide) (.slice a4 (j + 1) c4) (j + 1) ((L.take j).flatMap encSpace ++ [.string x0, .string x1, .int .i64 x2, .bool x3, .int .i64 x4]) rfl o4 (some ⟨g, 0, none⟩) 0 0 [] rfl (src_nil _ _ _) (by simp) (by unfold maxLen; omega) (by omega) C4.size ?_
                      intro r5 v5 o5 g5 _
                      have C5 := C4.grown g5 C4.size (fun q hq => (o4.lt q hq).1)
                      refine hK.out _ _ (KS _ C5) (fun hHeld => ?_)
                      clear hK K
                      (try simp only [Act.put, List.setIfInBounds_toArray, List.set_cons_zero, List.set_cons_succ])
                      obtain ⟨a5, c5, rfl⟩ := own_shape o5
                      have y5 := g5.size
                      refine wpAnyH_take (i := 12) (oi := { dst := some 3, op := Op.assign (Operand.tmp 72), type := 53, pos := "l13_draw.go:90", after := _, guard := none }) (v := ?_) rfl (by kernel_rfl) (by kernel_rfl) (by kernel_rfl) (fun _ _ _ h => h) (Or.inl ⟨by rfl, ?_⟩) (by assumption) ?_
                      rotate_left
                      · (intro w hSw; (try dsimp only at hSw); go_simp; (try with_reducible rfl))
                      simp only [Act.put, List.setIfInBounds_toArray, List.set_cons_zero, List.set_cons_succ]
                      refine wpAnyH_done (by kernel_rfl) ?_ _
                      obtain ⟨g9, rfl⟩ := own_some o5 (by omega)
                      have hln : (L.take j ++ (x0, x1, x2, x3, x4) :: L.drop j).length = j + 1 + 0 := by rw [List.length_append, List.length_take, List.length_cons, List.length_drop]; omega
                      have hOW := Lib.hid (own_mono (base' := w.heap.size) (by have := HKW7.out.size; have := B0.size; omega) o5)
                      have hRW := Lib.hid (HRD7.out.below (B0.trans (C5.mono B0.size)))
                      have hKW := Lib.hid (HKW7.out.trans (.of_below (B0.trans (C5.mono B0.size))))
                      have hAW := Lib.hid (HA.out.ins (j := j) h0 h1 x2 x3 x4)
                      go_wp2_with fail
                      go_roundw
                      case rel =>
                        refine ⟨k - 1, g9, c5, L.take j ++ (x0, x1, x2, x3, x4) :: L.drop j, p2, by omega, by go_num, by rw [hln], ?_, hAW.out, by omega, by omega, hRW.out, by omega, hKW.out⟩
                        rw [hln, List.flatMap_append, List.flatMap_cons]
                        have := hOW.out
                        rw [hdk]
                        simpa [encSpace] using this
                      case measure => simp [intOf]; omega
                    refine AllReadyH.cons (o := { dst := some 67, op := Op.buildSlice 53 1 #[(0, Operand.tmp 66)], type := 53, pos := "l13_draw.go:90", after := _, guard := none }) rfl (fun K hK => ?_) AllReadyH.nil
                    go_simp
                    refine hK.out _ _ (KS _ (C1.alloc C1.size _)) (fun hHeld => ?_)
                    clear hK K
                    (try simp only [Act.put, List.setIfInBounds_toArray, List.set_cons_zero, List.set_cons_succ])
                    have C6 := C1.alloc C1.size (.cells #[.string x0, .string x1, .int .i64 x2, .bool x3, .int .i64 x4] 26)
                    have s6 := src_new v1 [.string x0, .string x1, .int .i64 x2, .bool x3, .int .i64 x4] 26 1 5 v1.heap.size rfl rfl
                    have y6 : v1.heap.size < (v1.alloc (.cells #[.string x0, .string x1, .int .i64 x2, .bool x3, .int .i64 x4] 26)).heap.size := by rw [World.size_alloc]; omega
                    have o6 := own_below o1 (below_alloc v1 (.cells #[.string x0, .string x1, .int .i64 x2, .bool x3, .int .i64 x4] 26))
                    generalize v1.alloc (.cells #[.string x0, .string x1, .int .i64 x2, .bool x3, .int .i64 x4] 26) = v6 at C6 s6 y6 o6 ⊢
                    refine wpAnyH_ready (rs := [4]) (by kernel_rfl) (by simp) ?_
                    refine AllReadyH.cons (o := { dst := some 65, op := Op.call { callee := Callee.builtin Builtin.append, args := #[Operand.tmp 61, Operand.tmp 64], argTypes := #[53, 53] }, type := 53, pos := "l13_draw.go:90", after := _, guard := none }) rfl (fun K hK => ?_) AllReadyH.nil
                    refine step_append_src _ rfl (.tmp 61) (.tmp 64) 53 rfl w8.heap.size 26 i0 (.agg #[.string ⟨#[]⟩, .string ⟨#[]⟩, .int .i64 0, .bool false, .int .i64 0]) 5 56 Tryd.underlying53 hi hz0 hz1 hz2 rfl (by decide) (.slice (some ⟨w8.heap.size, 0, none⟩) 0 0) (0) [] rfl o6 (some ⟨g, 0, none⟩) j j ((L.take j).flatMap encSpace) rfl ((src_take encSpace_len (by decide) hjl HE0.out).below C6) (fun u hu => one_sps hu) (by unfold maxLen; omega) (by omega) C6.size ?_
                    intro r7 v7 o7 g7 _
                    have C7 := C6.grown g7 C6.size (fun q hq => (o6.lt q hq).1)
                    refine hK.out _ _ (KS _ C7) (fun hHeld => ?_)
                    clear hK K
                    (try simp only [Act.put, List.setIfInBounds_toArray, List.set_cons_zero, List.set_cons_succ])
                    rw [Nat.zero_add, List.nil_append] at o7
                    obtain ⟨a7, c7, rfl⟩ := own_shape o7
                    have y7 := g7.size
                    have s7 := s6.kept (kept_of_grown g7) (fun q hq e => by have e1 := own_blk e; simp at hq; omega)
                    refine wpAnyH_ready (rs := [7]) (by kernel_rfl) (by simp) ?_
                    refine AllReadyH.cons (o := { dst := some 68, op := Op.call { callee := Callee.builtin Builtin.append, args := #[Operand.tmp 65, Operand.tmp 67], argTypes := #[53, 53] }, type := 53, pos := "l13_draw.go:90", after := _, guard := none }) rfl (fun K hK => ?_) AllReadyH.nil
                    refine step_append_src _ rfl (.tmp 65) (.tmp 67) 53 rfl w8.heap.size 26 i0 (.agg #[.string ⟨#[]⟩, .string ⟨#[]⟩, .int .i64 0, .bool false, .int .i64 0]) 5 56 Tryd.underlying53 hi hz0 hz1 hz2 rfl (by decide) (.slice a7 (j) c7) (j) ((L.take j).flatMap encSpace) rfl o7 (some ⟨v1.heap.size, 0, none⟩) 1 1 [.string x0, .string x1, .int .i64 x2, .bool x3, .int .i64 x4] rfl s7 (by simp [Value.oneCell']) (by unfold maxLen; omega) (by omega) C7.size ?_
                    intro r8 v8 o8 g8 _
                    have C8 := C7.grown g8 C7.size (fun q hq => (o7.lt q hq).1)
                    refine hK.out _ _ (KS _ C8) (fun hHeld => ?_)
                    clear hK K
                    (try simp only [Act.put, List.setIfInBounds_toArray, List.set_cons_zero, List.set_cons_succ])
                    obtain ⟨a8, c8, rfl⟩ := own_shape o8
                    have y8 := g8.size
                    refine wpAnyH_ready (rs := [11]) (by kernel_rfl) (by simp) ?_
                    refine AllReadyH.cons (o := { dst := some 72, op := Op.call { callee := Callee.builtin Builtin.append, args := #[Operand.tmp 68, Operand.tmp 71], argTypes := #[53, 53] }, type := 53, pos := "l13_draw.go:90", after := _, guard := none }) rfl (fun K hK => ?_) AllReadyH.nil
                    refine step_append_src _ rfl (.tmp 68) (.tmp 71) 53 rfl w8.heap.size 26 i0 (.agg #[.string ⟨#[]⟩, .string ⟨#[]⟩, .int .i64 0, .bool false, .int .i64 0]) 5 56 Tryd.underlying53 hi hz0 hz1 hz2 rfl (by decide) (.slice a8 (j + 1) c8) (j + 1) ((L.take j).flatMap encSpace ++ [.string x0, .string x1, .int .i64 x2, .bool x3, .int .i64 x4]) rfl o8 (some ⟨g, 0, none⟩) 0 0 [] rfl (src_nil _ _ _) (by simp) (by unfold maxLen; omega) (by omega) C8.size ?_
                    intro r9 v9 o9 g9 _
                    have C9 := C8.grown g9 C8.size (fun q hq => (o8.lt q hq).1)
                    refine hK.out _ _ (KS _ C9) (fun hHeld => ?_)
                    clear hK K
                    (try simp only [Act.put, List.setIfInBounds_toArray, List.set_cons_zero, List.set_cons_succ])
                    obtain ⟨a9, c9, rfl⟩ := own_shape o9
                    have y9 := g9.size
                    refine wpAnyH_take (i := 12) (oi := { dst := some 3, op := Op.assign (Operand.tmp 72), type := 53, pos := "l13_draw.go:90", after := _, guard := none }) (v := ?_) rfl (by kernel_rfl) (by kernel_rfl) (by kernel_rfl) (fun _ _ _ h => h) (Or.inl ⟨by rfl, ?_⟩) (by assumption) ?_
                    rotate_left
                    · (intro w hSw; (try dsimp only at hSw); go_simp; (try with_reducible rfl))
                    simp only [Act.put, List.setIfInBounds_toArray, List.set_cons_zero, List.set_cons_succ]
                    refine wpAnyH_done (by kernel_rfl) ?_ _
                    obtain ⟨g9, rfl⟩ := own_some o9 (by omega)
                    have hln : (L.take j ++ (x0, x1, x2, x3, x4) :: L.drop j).length = j + 1 + 0 := by rw [List.length_append, List.length_take, List.length_cons, List.length_drop]; omega
                    have hOW := Lib.hid (own_mono (base' := w.heap.size) (by have := HKW7.out.size; have := B0.size; omega) o9)
                    have hRW := Lib.hid (HRD7.out.below (B0.trans (C9.mono B0.size)))
                    have hKW := Lib.hid (HKW7.out.trans (.of_below (B0.trans (C9.mono B0.size))))
                    have hAW := Lib.hid (HA.out.ins (j := j) h0 h1 x2 x3 x4)
                    go_wp2_with fail
                    go_roundw
                    case rel =>
                      refine ⟨k - 1, g9, c9, L.take j ++ (x0, x1, x2, x3, x4) :: L.drop j, p2, by omega, by go_num, by rw [hln], ?_, hAW.out, by omega, by omega, hRW.out, by omega, hKW.out⟩
                      rw [hln, List.flatMap_append, List.flatMap_cons]
                      have := hOW.out
                      rw [hdk]
                      simpa [encSpace] using this
                    case measure => simp [intOf]; omega
                  refine AllReadyH.cons (o := { dst := some 67, op := Op.buildSlice 53 1 #[(0, Operand.tmp 66)], type := 53, pos := "l13_draw.go:90", after := _, guard := none }) rfl (fun K hK => ?_) AllReadyH.nil
                  go_simp
                  refine hK.out _ _ (KS _ (B8.alloc B8.size _)) (fun hHeld => ?_)
                  clear hK K
                  (try simp only [Act.put, List.setIfInBounds_toArray, List.set_cons_zero, List.set_cons_succ])
                  have C10 := B8.alloc B8.size (.cells #[.string x0, .string x1, .int .i64 x2, .bool x3, .int .i64 x4] 26)
                  have s10 := src_new w8 [.string x0, .string x1, .int .i64 x2, .bool x3, .int .i64 x4] 26 1 5 w8.heap.size rfl rfl
                  have y10 : w8.heap.size < (w8.alloc (.cells #[.string x0, .string x1, .int .i64 x2, .bool x3, .int .i64 x4] 26)).heap.size := by rw [World.size_alloc]; omega
                  generalize w8.alloc (.cells #[.string x0, .string x1, .int .i64 x2, .bool x3, .int .i64 x4] 26) = v10 at C10 s10 y10  ⊢
                  refine wpAnyH_ready (rs := [0]) (by kernel_rfl) (by simp) ?_
                  refine AllReadyH.cons (o := { dst := some 61, op := Op.buildSlice 53 0 #[], type := 53, pos := "l13_draw.go:90", after := _, guard := none }) rfl (fun K hK => ?_) AllReadyH.nil
                  go_simp
                  refine hK.out _ _ (KS _ (C10.alloc C10.size _)) (fun hHeld => ?_)
                  clear hK K
                  (try simp only [Act.put, List.setIfInBounds_toArray, List.set_cons_zero, List.set_cons_succ])
                  have C11 := C10.alloc C10.size (.cells #[] 26)
                  have o11 := own_lit00 (base := w8.heap.size) v10 26 5 v10.heap.size rfl C10.size
                  have s11 := s10.below (below_alloc v10 (.cells #[] 26))
                  have y11 : v10.heap.size < (v10.alloc (.cells #[] 26)).heap.size := by rw [World.size_alloc]; omega
                  generalize v10.alloc (.cells #[] 26) = v11 at C11 o11 y11 s11 ⊢
                  refine wpAnyH_ready (rs := [4]) (by kernel_rfl) (by simp) ?_
                  refine AllReadyH.cons (o := { dst := some 65, op := Op.call { callee := Callee.builtin Builtin.append, args := #[Operand.tmp 61, Operand.tmp 64], argTypes := #[53, 53] }, type := 53, pos := "l13_draw.go:90", after := _, guard := none }) rfl (fun K hK => ?_) AllReadyH.nil
                  refine step_append_src _ rfl (.tmp 61) (.tmp 64) 53 rfl w8.heap.size 26 i0 (.agg #[.string ⟨#[]⟩, .string ⟨#[]⟩, .int .i64 0, .bool false, .int .i64 0]) 5 56 Tryd.underlying53 hi hz0 hz1 hz2 rfl (by decide) (.slice (some ⟨v10.heap.size, 0, none⟩) 0 0) (0) [] rfl o11 (some ⟨g, 0, none⟩) j j ((L.take j).flatMap encSpace) rfl ((src_take encSpace_len (by decide) hjl HE0.out).below C11) (fun u hu => one_sps hu) (by unfold maxLen; omega) (by omega) C11.size ?_
                  intro r12 v12 o12 g12 _
                  have C12 := C11.grown g12 C11.size (fun q hq => (o11.lt q hq).1)
                  refine hK.out _ _ (KS _ C12) (fun hHeld => ?_)
                  clear hK K
                  (try simp only [Act.put, List.setIfInBounds_toArray, List.set_cons_zero, List.set_cons_succ])
                  rw [Nat.zero_add, List.nil_append] at o12
                  obtain ⟨a12, c12, rfl⟩ := own_shape o12
                  have y12 := g12.size
                  have s12 := s11.kept (kept_of_grown g12) (fun q hq e => by have e1 := own_blk e; simp at hq; omega)
                  refine wpAnyH_ready (rs := [7]) (by kernel_rfl) (by simp) ?_
                  refine AllReadyH.cons (o := { dst := some 68, op := Op.call { callee := Callee.builtin Builtin.append, args := #[Operand.tmp 65, Operand.tmp 67], argTypes := #[53, 53] }, type := 53, pos := "l13_draw.go:90", after := _, guard := none }) rfl (fun K hK => ?_) AllReadyH.nil
                  refine step_append_src _ rfl (.tmp 65) (.tmp 67) 53 rfl w8.heap.size 26 i0 (.agg #[.string ⟨#[]⟩, .string ⟨#[]⟩, .int .i64 0, .bool false, .int .i64 0]) 5 56 Tryd.underlying53 hi hz0 hz1 hz2 rfl (by decide) (.slice a12 (j) c12) (j) ((L.take j).flatMap encSpace) rfl o12 (some ⟨w8.heap.size, 0, none⟩) 1 1 [.string x0, .string x1, .int .i64 x2, .bool x3, .int .i64 x4] rfl s12 (by simp [Value.oneCell']) (by unfold maxLen; omega) (by omega) C12.size ?_
                  intro r13 v13 o13 g13 _
                  have C13 := C12.grown g13 C12.size (fun q hq => (o12.lt q hq).1)
                  refine hK.out _ _ (KS _ C13) (fun hHeld => ?_)
                  clear hK K
                  (try simp only [Act.put, List.setIfInBounds_toArray, List.set_cons_zero, List.set_cons_succ])
                  obtain ⟨a13, c13, rfl⟩ := own_shape o13
                  have y13 := g13.size
                  refine wpAnyH_ready (rs := [11]) (by kernel_rfl) (by simp) ?_
                  refine AllReadyH.cons (o := { dst := some 72, op := Op.call { callee := Callee.builtin Builtin.append, args := #[Operand.tmp 68, Operand.tmp 71], argTypes := #[53, 53] }, type := 53, pos := "l13_draw.go:90", after := _, guard := none }) rfl (fun K hK => ?_) AllReadyH.nil
                  refine step_append_src _ rfl (.tmp 68) (.tmp 71) 53 rfl w8.heap.size 26 i0 (.agg #[.string ⟨#[]⟩, .string ⟨#[]⟩, .int .i64 0, .bool false, .int .i64 0]) 5 56 Tryd.underlying53 hi hz0 hz1 hz2 rfl (by decide) (.slice a13 (j + 1) c13) (j + 1) ((L.take j).flatMap encSpace ++ [.string x0, .string x1, .int .i64 x2, .bool x3, .int .i64 x4]) rfl o13 (some ⟨g, 0, none⟩) 0 0 [] rfl (src_nil _ _ _) (by simp) (by unfold maxLen; omega) (by omega) C13.size ?_
                  intro r14 v14 o14 g14 _
                  have C14 := C13.grown g14 C13.size (fun q hq => (o13.lt q hq).1)
                  refine hK.out _ _ (KS _ C14) (fun hHeld => ?_)
                  clear hK K
                  (try simp only [Act.put, List.setIfInBounds_toArray, List.set_cons_zero, List.set_cons_succ])
                  obtain ⟨a14, c14, rfl⟩ := own_shape o14
                  have y14 := g14.size
                  refine wpAnyH_take (i := 12) (oi := { dst := some 3, op := Op.assign (Operand.tmp 72), type := 53, pos := "l13_draw.go:90", after := _, guard := none }) (v := ?_) rfl (by kernel_rfl) (by kernel_rfl) (by kernel_rfl) (fun _ _ _ h => h) (Or.inl ⟨by rfl, ?_⟩) (by assumption) ?_
                  rotate_left
                  · (intro w hSw; (try dsimp only at hSw); go_simp; (try with_reducible rfl))
                  simp only [Act.put, List.setIfInBounds_toArray, List.set_cons_zero, List.set_cons_succ]
                  refine wpAnyH_done (by kernel_rfl) ?_ _
                  obtain ⟨g9, rfl⟩ := own_some o14 (by omega)
                  have hln : (L.take j ++ (x0, x1, x2, x3, x4) :: L.drop j).length = j + 1 + 0 := by rw [List.length_append, List.length_take, List.length_cons, List.length_drop]; omega
                  have hOW := Lib.hid (own_mono (base' := w.heap.size) (by have := HKW7.out.size; have := B0.size; omega) o14)
                  have hRW := Lib.hid (HRD7.out.below (B0.trans (C14.mono B0.size)))
                  have hKW := Lib.hid (HKW7.out.trans (.of_below (B0.trans (C14.mono B0.size))))
                  have hAW := Lib.hid (HA.out.ins (j := j) h0 h1 x2 x3 x4)
                  go_wp2_with fail
                  go_roundw
                  case rel =>
                    refine ⟨k - 1, g9, c14, L.take j ++ (x0, x1, x2, x3, x4) :: L.drop j, p2, by omega, by go_num, by rw [hln], ?_, hAW.out, by omega, by omega, hRW.out, by omega, hKW.out⟩
                    rw [hln, List.flatMap_append, List.flatMap_cons]
                    have := hOW.out
                    rw [hdk]
                    simpa [encSpace] using this
                  case measure => simp [intOf]; omega
                · have hck2 : ¬ cb = j := fun h => hck h.symm
                  have hck3 : j < cb := by omega
                  clear hck
                  refine wp_region_held_drew (S := fun W' => W'.cell? ⟨b, 0, none⟩ = some (.string x0) ∧ W'.cell? ⟨b, 1, none⟩ = some (.string x1) ∧ W'.cell? ⟨b, 2, none⟩ = some (.int .i64 x2) ∧ W'.cell? ⟨b, 3, none⟩ = some (.bool x3) ∧ W'.cell? ⟨b, 4, none⟩ = some (.int .i64 x4)) (by kernel_rfl) (box_cells5 HK0.out) (fun hHeld => ?_)
                  obtain ⟨w8, hw8⟩ := hw0
                  rw [hw8] at HK0 HE0 hHeld ⊢
                  have KS : ∀ W', Below w8.heap.size w8 W' → (fun W' => W'.cell? ⟨b, 0, none⟩ = some (.string x0) ∧ W'.cell? ⟨b, 1, none⟩ = some (.string x1) ∧ W'.cell? ⟨b, 2, none⟩ = some (.int .i64 x2) ∧ W'.cell? ⟨b, 3, none⟩ = some (.bool x3) ∧ W'.cell? ⟨b, 4, none⟩ = some (.int .i64 x4)) W' := fun W' hb => box_cells5 (HK0.out.below hb)
                  have B8 : Below w8.heap.size w8 w8 := Below.refl _ _
                  have hgl8 : g < w8.heap.size := els_block HE0.out (by omega) encSpace_len (by decide)
                  have B0 : Below w7.heap.size w7 w8 := by rw [← hw8]; exact (Below.refl _ _).drew
                  refine wpAnyH_take (i := 1) (oi := { dst := some 62, op := Op.move (Operand.tmp 3), type := 53, pos := "l13_draw.go:90", after := _, guard := none }) (v := ?_) rfl (by kernel_rfl) (by kernel_rfl) (by kernel_rfl) (fun _ _ _ h => h) (Or.inl ⟨by rfl, ?_⟩) (by assumption) ?_
                  rotate_left
                  · (intro w hSw; (try dsimp only at hSw); go_simp; (try with_reducible rfl))
                  simp only [Act.put, List.setIfInBounds_toArray, List.set_cons_zero, List.set_cons_succ]
                  refine wpAnyH_take (i := 2) (oi := { dst := some 63, op := Op.move (Operand.tmp 6), type := 3, pos := "l13_draw.go:90", after := _, guard := none }) (v := ?_) rfl (by kernel_rfl) (by kernel_rfl) (by kernel_rfl) (fun _ _ _ h => h) (Or.inl ⟨by rfl, ?_⟩) (by assumption) ?_
                  rotate_left
                  · (intro w hSw; (try dsimp only at hSw); go_simp; (try with_reducible rfl))
                  simp only [Act.put, List.setIfInBounds_toArray, List.set_cons_zero, List.set_cons_succ]
                  refine wpAnyH_take (i := 3) (oi := { dst := some 64, op := Op.slice 53 (Operand.tmp 62) none (some (Operand.tmp 63)) none, type := 53, pos := "l13_draw.go:90", after := _, guard := none }) (v := ?_) rfl (by kernel_rfl) (by kernel_rfl) (by kernel_rfl) (fun _ _ _ h => h) (Or.inl ⟨by rfl, ?_⟩) (by assumption) ?_
                  rotate_left
                  · (intro w hSw; (try dsimp only at hSw); go_simp; (try with_reducible rfl))
                  simp only [Act.put, List.setIfInBounds_toArray, List.set_cons_zero, List.set_cons_succ]
                  refine wpAnyH_take (i := 5) (oi := { dst := some 66, op := Op.load 26 (Operand.tmp 5), type := 26, pos := "l13_draw.go:90", after := _, guard := none }) (v := ?_) rfl (by kernel_rfl) (by kernel_rfl) (by kernel_rfl) (fun _ _ _ h => h) (Or.inl ⟨by rfl, ?_⟩) (by assumption) ?_
                  rotate_left
                  · (intro w hSw; (try dsimp only at hSw); go_simp; (try with_reducible rfl))
                  simp only [Act.put, List.setIfInBounds_toArray, List.set_cons_zero, List.set_cons_succ]
                  refine wpAnyH_take (i := 8) (oi := { dst := some 69, op := Op.move (Operand.tmp 3), type := 53, pos := "l13_draw.go:90", after := _, guard := none }) (v := ?_) rfl (by kernel_rfl) (by kernel_rfl) (by kernel_rfl) (fun _ _ _ h => h) (Or.inl ⟨by rfl, ?_⟩) (by assumption) ?_
                  rotate_left
                  · (intro w hSw; (try dsimp only at hSw); go_simp; (try with_reducible rfl))
                  simp only [Act.put, List.setIfInBounds_toArray, List.set_cons_zero, List.set_cons_succ]
                  refine wpAnyH_take (i := 9) (oi := { dst := some 70, op := Op.move (Operand.tmp 6), type := 3, pos := "l13_draw.go:90", after := _, guard := none }) (v := ?_) rfl (by kernel_rfl) (by kernel_rfl) (by kernel_rfl) (fun _ _ _ h => h) (Or.inl ⟨by rfl, ?_⟩) (by assumption) ?_
                  rotate_left
                  · (intro w hSw; (try dsimp only at hSw); go_simp; (try with_reducible rfl))
                  simp only [Act.put, List.setIfInBounds_toArray, List.set_cons_zero, List.set_cons_succ]
                  refine wpAnyH_take (i := 10) (oi := { dst := some 71, op := Op.slice 53 (Operand.tmp 69) (some (Operand.tmp 70)) none none, type := 53, pos := "l13_draw.go:90", after := _, guard := none }) (v := ?_) rfl (by kernel_rfl) (by kernel_rfl) (by kernel_rfl) (fun _ _ _ h => h) (Or.inl ⟨by rfl, ?_⟩) (by assumption) ?_
                  rotate_left
                  · (intro w hSw; (try dsimp only at hSw); go_simp; (try with_reducible rfl))
                  simp only [Act.put, List.setIfInBounds_toArray, List.set_cons_zero, List.set_cons_succ]
                  refine wpAnyH_ready (rs := [0, 6]) (by kernel_rfl) (by simp) ?_
                  refine AllReadyH.cons (o := { dst := some 61, op := Op.buildSlice 53 0 #[], type := 53, pos := "l13_draw.go:90", after := _, guard := none }) rfl (fun K hK => ?_) ?_
                  · skip
                    go_simp
                    refine hK.out _ _ (KS _ (B8.alloc B8.size _)) (fun hHeld => ?_)
                    clear hK K
                    (try simp only [Act.put, List.setIfInBounds_toArray, List.set_cons_zero, List.set_cons_succ])
                    have C1 := B8.alloc B8.size (.cells #[] 26)
                    have o1 := own_lit00 (base := w8.heap.size) w8 26 5 w8.heap.size rfl B8.size
                    have y1 : w8.heap.size < (w8.alloc (.cells #[] 26)).heap.size := by rw [World.size_alloc]; omega
                    generalize w8.alloc (.cells #[] 26) = v1 at C1 o1 y1  ⊢
                    refine wpAnyH_ready (rs := [4, 6]) (by kernel_rfl) (by simp) ?_
                    refine AllReadyH.cons (o := { dst := some 65, op := Op.call { callee := Callee.builtin Builtin.append, args := #[Operand.tmp 61, Operand.tmp 64], argTypes := #[53, 53] }, type := 53, pos := "l13_draw.go:90", after := _, guard := none }) rfl (fun K hK => ?_) ?_
                    · skip
                      refine step_append_src _ rfl (.tmp 61) (.tmp 64) 53 rfl w8.heap.size 26 i0 (.agg #[.string ⟨#[]⟩, .string ⟨#[]⟩, .int .i64 0, .bool false, .int .i64 0]) 5 56 Tryd.underlying53 hi hz0 hz1 hz2 rfl (by decide) (.slice (some ⟨w8.heap.size, 0, none⟩) 0 0) (0) [] rfl o1 (some ⟨g, 0, none⟩) j cb ((L.take j).flatMap encSpace) rfl ((src_take encSpace_len (by decide) hjl HE0.out).below C1) (fun u hu => one_sps hu) (by unfold maxLen; omega) (by omega) C1.size ?_
                      intro r2 v2 o2 g2 _
                      have C2 := C1.grown g2 C1.size (fun q hq => (o1.lt q hq).1)
                      refine hK.out _ _ (KS _ C2) (fun hHeld => ?_)
                      clear hK K
                      (try simp only [Act.put, List.setIfInBounds_toArray, List.set_cons_zero, List.set_cons_succ])
                      rw [Nat.zero_add, List.nil_append] at o2
                      obtain ⟨a2, c2, rfl⟩ := own_shape o2
                      have y2 := g2.size
                      refine wpAnyH_ready (rs := [6]) (by kernel_rfl) (by simp) ?_
                      refine AllReadyH.cons (o := { dst := some 67, op := Op.buildSlice 53 1 #[(0, Operand.tmp 66)], type := 53, pos := "l13_draw.go:90", after := _, guard := none }) rfl (fun K hK => ?_) AllReadyH.nil
                      go_simp
                      refine hK.out _ _ (KS _ (C2.alloc C2.size _)) (fun hHeld => ?_)
                      clear hK K
                      (try simp only [Act.put, List.setIfInBounds_toArray, List.set_cons_zero, List.set_cons_succ])
                      have C3 := C2.alloc C2.size (.cells #[.string x0, .string x1, .int .i64 x2, .bool x3, .int .i64 x4] 26)
                      have s3 := src_new v2 [.string x0, .string x1, .int .i64 x2, .bool x3, .int .i64 x4] 26 1 5 v2.heap.size rfl rfl
                      have y3 : v2.heap.size < (v2.alloc (.cells #[.string x0, .string x1, .int .i64 x2, .bool x3, .int .i64 x4] 26)).heap.size := by rw [World.size_alloc]; omega
                      have o3 := own_below o2 (below_alloc v2 (.cells #[.string x0, .string x1, .int .i64 x2, .bool x3, .int .i64 x4] 26))
                      generalize v2.alloc (.cells #[.string x0, .string x1, .int .i64 x2, .bool x3, .int .i64 x4] 26) = v3 at C3 s3 y3 o3 ⊢
                      refine wpAnyH_ready (rs := [7]) (by kernel_rfl) (by simp) ?_
                      refine AllReadyH.cons (o := { dst := some 68, op := Op.call { callee := Callee.builtin Builtin.append, args := #[Operand.tmp 65, Operand.tmp 67], argTypes := #[53, 53] }, type := 53, pos := "l13_draw.go:90", after := _, guard := none }) rfl (fun K hK => ?_) AllReadyH.nil
                      refine step_append_src _ rfl (.tmp 65) (.tmp 67) 53 rfl w8.heap.size 26 i0 (.agg #[.string ⟨#[]⟩, .string ⟨#[]⟩, .int .i64 0, .bool false, .int .i64 0]) 5 56 Tryd.underlying53 hi hz0 hz1 hz2 rfl (by decide) (.slice a2 (j) c2) (j) ((L.take j).flatMap encSpace) rfl o3 (some ⟨v2.heap.size, 0, none⟩) 1 1 [.string x0, .string x1, .int .i64 x2, .bool x3, .int .i64 x4] rfl s3 (by simp [Value.oneCell']) (by unfold maxLen; omega) (by omega) C3.size ?_
                      intro r4 v4 o4 g4 _
                      have C4 := C3.grown g4 C3.size (fun q hq => (o3.lt q hq).1)
                      refine hK.out _ _ (KS _ C4) (fun hHeld => ?_)
                      clear hK K
                      (try simp only [Act.put, List.setIfInBounds_toArray, List.set_cons_zero, List.set_cons_succ])
                      obtain ⟨a4, c4, rfl⟩ := own_shape o4
                      have y4 := g4.size
                      refine wpAnyH_ready (rs := [11]) (by kernel_rfl) (by simp) ?_
                      refine AllReadyH.cons (o := { dst := some 72, op := Op.call { callee := Callee.builtin Builtin.append, args := #[Operand.tmp 68, Operand.tmp 71], argTypes := #[53, 53] }, type := 53, pos := "l13_draw.go:90", after := _, guard := none }) rfl (fun K hK => ?_) AllReadyH.nil
                      refine step_append_src _ rfl (.tmp 68) (.tmp 71) 53 rfl w8.heap.size 26 i0 (.agg #[.string ⟨#[]⟩, .string ⟨#[]⟩, .int .i64 0, .bool false, .int .i64 0]) 5 56 Tryd.underlying53 hi hz0 hz1 hz2 rfl (by decide) (.slice a4 (j + 1) c4) (j + 1) ((L.take j).flatMap encSpace ++ [.string x0, .string x1, .int .i64 x2, .bool x3, .int .i64 x4]) rfl o4 (some ⟨g, j * 5, none⟩) (L.length - j) (cb - j) ((L.drop j).flatMap encSpace) rfl ((src_drop encSpace_len (by decide) HE0.out).below C4) (fun u hu => one_sps hu) (by unfold maxLen; omega) (by omega) C4.size ?_
                      intro r5 v5 o5 g5 _
                      have C5 := C4.grown g5 C4.size (fun q hq => (o4.lt q hq).1)
                      refine hK.out _ _ (KS _ C5) (fun hHeld => ?_)
                      clear hK K
                      (try simp only [Act.put, List.setIfInBounds_toArray, List.set_cons_zero, List.set_cons_succ])
                      obtain ⟨a5, c5, rfl⟩ := own_shape o5
                      have y5 := g5.size
                      refine wpAnyH_take (i := 12) (oi := { dst := some 3, op := Op.assign (Operand.tmp 72), type := 53, pos := "l13_draw.go:90", after := _, guard := none }) (v := ?_) rfl (by kernel_rfl) (by kernel_rfl) (by kernel_rfl) (fun _ _ _ h => h) (Or.inl ⟨by rfl, ?_⟩) (by assumption) ?_
                      rotate_left
                      · (intro w hSw; (try dsimp only at hSw); go_simp; (try with_reducible rfl))
                      simp only [Act.put, List.setIfInBounds_toArray, List.set_cons_zero, List.set_cons_succ]
                      refine wpAnyH_done (by kernel_rfl) ?_ _
                      obtain ⟨g9, rfl⟩ := own_some o5 (by omega)
                      have hln : (L.take j ++ (x0, x1, x2, x3, x4) :: L.drop j).length = j + 1 + (L.length - j) := by rw [List.length_append, List.length_take, List.length_cons, List.length_drop]; omega
                      have hOW := Lib.hid (own_mono (base' := w.heap.size) (by have := HKW7.out.size; have := B0.size; omega) o5)
                      have hRW := Lib.hid (HRD7.out.below (B0.trans (C5.mono B0.size)))
                      have hKW := Lib.hid (HKW7.out.trans (.of_below (B0.trans (C5.mono B0.size))))
                      have hAW := Lib.hid (HA.out.ins (j := j) h0 h1 x2 x3 x4)
                      go_wp2_with fail
                      go_roundw
                      case rel =>
                        refine ⟨k - 1, g9, c5, L.take j ++ (x0, x1, x2, x3, x4) :: L.drop j, p2, by omega, by go_num, by rw [hln], ?_, hAW.out, by omega, by omega, hRW.out, by omega, hKW.out⟩
                        rw [hln, List.flatMap_append, List.flatMap_cons]
                        have := hOW.out
                        skip
                        simpa [encSpace] using this
                      case measure => simp [intOf]; omega
                    refine AllReadyH.cons (o := { dst := some 67, op := Op.buildSlice 53 1 #[(0, Operand.tmp 66)], type := 53, pos := "l13_draw.go:90", after := _, guard := none }) rfl (fun K hK => ?_) AllReadyH.nil
                    go_simp
                    refine hK.out _ _ (KS _ (C1.alloc C1.size _)) (fun hHeld => ?_)
                    clear hK K
                    (try simp only [Act.put, List.setIfInBounds_toArray, List.set_cons_zero, List.set_cons_succ])
                    have C6 := C1.alloc C1.size (.cells #[.string x0, .string x1, .int .i64 x2, .bool x3, .int .i64 x4] 26)
                    have s6 := src_new v1 [.string x0, .string x1, .int .i64 x2, .bool x3, .int .i64 x4] 26 1 5 v1.heap.size rfl rfl
                    have y6 : v1.heap.size < (v1.alloc (.cells #[.string x0, .string x1, .int .i64 x2, .bool x3, .int .i64 x4] 26)).heap.size := by rw [World.size_alloc]; omega
                    have o6 := own_below o1 (below_alloc v1 (.cells #[.string x0, .string x1, .int .i64 x2, .bool x3, .int .i64 x4] 26))
                    generalize v1.alloc (.cells #[.string x0, .string x1, .int .i64 x2, .bool x3, .int .i64 x4] 26) = v6 at C6 s6 y6 o6 ⊢
                    refine wpAnyH_ready (rs := [4]) (by kernel_rfl) (by simp) ?_
                    refine AllReadyH.cons (o := { dst := some 65, op := Op.call { callee := Callee.builtin Builtin.append, args := #[Operand.tmp 61, Operand.tmp 64], argTypes := #[53, 53] }, type := 53, pos := "l13_draw.go:90", after := _, guard := none }) rfl (fun K hK => ?_) AllReadyH.nil
                    refine step_append_src _ rfl (.tmp 61) (.tmp 64) 53 rfl w8.heap.size 26 i0 (.agg #[.string ⟨#[]⟩, .string ⟨#[]⟩, .int .i64 0, .bool false, .int .i64 0]) 5 56 Tryd.underlying53 hi hz0 hz1 hz2 rfl (by decide) (.slice (some ⟨w8.heap.size, 0, none⟩) 0 0) (0) [] rfl o6 (some ⟨g, 0, none⟩) j cb ((L.take j).flatMap encSpace) rfl ((src_take encSpace_len (by decide) hjl HE0.out).below C6) (fun u hu => one_sps hu) (by unfold maxLen; omega) (by omega) C6.size ?_
                    intro r7 v7 o7 g7 _
                    have C7 := C6.grown g7 C6.size (fun q hq => (o6.lt q hq).1)
                    refine hK.out _ _ (KS _ C7) (fun hHeld => ?_)
                    clear hK K
                    (try simp only [Act.put, List.setIfInBounds_toArray, List.set_cons_zero, List.set_cons_succ])
                    rw [Nat.zero_add, List.nil_append] at o7
                    obtain ⟨a7, c7, rfl⟩ := own_shape o7
                    have y7 := g7.size
                    have s7 := s6.kept (kept_of_grown g7) (fun q hq e => by have e1 := own_blk e; simp at hq; omega)
                    refine wpAnyH_ready (rs := [7]) (by kernel_rfl) (by simp) ?_
                    refine AllReadyH.cons (o := { dst := some 68, op := Op.call { callee := Callee.builtin Builtin.append, args := #[Operand.tmp 65, Operand.tmp 67], argTypes := #[53, 53] }, type := 53, pos := "l13_draw.go:90", after := _, guard := none }) rfl (fun K hK => ?_) AllReadyH.nil
                    refine step_append_src _ rfl (.tmp 65) (.tmp 67) 53 rfl w8.heap.size 26 i0 (.agg #[.string ⟨#[]⟩, .string ⟨#[]⟩, .int .i64 0, .bool false, .int .i64 0]) 5 56 Tryd.underlying53 hi hz0 hz1 hz2 rfl (by decide) (.slice a7 (j) c7) (j) ((L.take j).flatMap encSpace) rfl o7 (some ⟨v1.heap.size, 0, none⟩) 1 1 [.string x0, .string x1, .int .i64 x2, .bool x3, .int .i64 x4] rfl s7 (by simp [Value.oneCell']) (by unfold maxLen; omega) (by omega) C7.size ?_
                    intro r8 v8 o8 g8 _
                    have C8 := C7.grown g8 C7.size (fun q hq => (o7.lt q hq).1)
                    refine hK.out _ _ (KS _ C8) (fun hHeld => ?_)
                    clear hK K
                    (try simp only [Act.put, List.setIfInBounds_toArray, List.set_cons_zero, List.set_cons_succ])
                    obtain ⟨a8, c8, rfl⟩ := own_shape o8
                    have y8 := g8.size
                    refine wpAnyH_ready (rs := [11]) (by kernel_rfl) (by simp) ?_
                    refine AllReadyH.cons (o := { dst := some 72, op := Op.call { callee := Callee.builtin Builtin.append, args := #[Operand.tmp 68, Operand.tmp 71], argTypes := #[53, 53] }, type := 53, pos := "l13_draw.go:90", after := _, guard := none }) rfl (fun K hK => ?_) AllReadyH.nil
                    refine step_append_src _ rfl (.tmp 68) (.tmp 71) 53 rfl w8.heap.size 26 i0 (.agg #[.string ⟨#[]⟩, .string ⟨#[]⟩, .int .i64 0, .bool false, .int .i64 0]) 5 56 Tryd.underlying53 hi hz0 hz1 hz2 rfl (by decide) (.slice a8 (j + 1) c8) (j + 1) ((L.take j).flatMap encSpace ++ [.string x0, .string x1, .int .i64 x2, .bool x3, .int .i64 x4]) rfl o8 (some ⟨g, j * 5, none⟩) (L.length - j) (cb - j) ((L.drop j).flatMap encSpace) rfl ((src_drop encSpace_len (by decide) HE0.out).below C8) (fun u hu => one_sps hu) (by unfold maxLen; omega) (by omega) C8.size ?_
                    intro r9 v9 o9 g9 _
                    have C9 := C8.grown g9 C8.size (fun q hq => (o8.lt q hq).1)
                    refine hK.out _ _ (KS _ C9) (fun hHeld => ?_)
                    clear hK K
                    (try simp only [Act.put, List.setIfInBounds_toArray, List.set_cons_zero, List.set_cons_succ])
                    obtain ⟨a9, c9, rfl⟩ := own_shape o9
                    have y9 := g9.size
                    refine wpAnyH_take (i := 12) (oi := { dst := some 3, op := Op.assign (Operand.tmp 72), type := 53, pos := "l13_draw.go:90", after := _, guard := none }) (v := ?_) rfl (by kernel_rfl) (by kernel_rfl) (by kernel_rfl) (fun _ _ _ h => h) (Or.inl ⟨by rfl, ?_⟩) (by assumption) ?_
                    rotate_left
                    · (intro w hSw; (try dsimp only at hSw); go_simp; (try with_reducible rfl))
                    simp only [Act.put, List.setIfInBounds_toArray, List.set_cons_zero, List.set_cons_succ]
                    refine wpAnyH_done (by kernel_rfl) ?_ _
                    obtain ⟨g9, rfl⟩ := own_some o9 (by omega)
                    have hln : (L.take j ++ (x0, x1, x2, x3, x4) :: L.drop j).length = j + 1 + (L.length - j) := by rw [List.length_append, List.length_take, List.length_cons, List.length_drop]; omega
                    have hOW := Lib.hid (own_mono (base' := w.heap.size) (by have := HKW7.out.size; have := B0.size; omega) o9)
                    have hRW := Lib.hid (HRD7.out.below (B0.trans (C9.mono B0.size)))
                    have hKW := Lib.hid (HKW7.out.trans (.of_below (B0.trans (C9.mono B0.size))))
                    have hAW := Lib.hid (HA.out.ins (j := j) h0 h1 x2 x3 x4)
                    go_wp2_with fail
                    go_roundw
                    case rel =>
                      refine ⟨k - 1, g9, c9, L.take j ++ (x0, x1, x2, x3, x4) :: L.drop j, p2, by omega, by go_num, by rw [hln], ?_, hAW.out, by omega, by omega, hRW.out, by omega, hKW.out⟩
                      rw [hln, List.flatMap_append, List.flatMap_cons]
                      have := hOW.out
                      skip
                      simpa [encSpace] using this
                    case measure => simp [intOf]; omega
                  refine AllReadyH.cons (o := { dst := some 67, op := Op.buildSlice 53 1 #[(0, Operand.tmp 66)], type := 53, pos := "l13_draw.go:90", after := _, guard := none }) rfl (fun K hK => ?_) AllReadyH.nil
                  go_simp
                  refine hK.out _ _ (KS _ (B8.alloc B8.size _)) (fun hHeld => ?_)
                  clear hK K
                  (try simp only [Act.put, List.setIfInBounds_toArray, List.set_cons_zero, List.set_cons_succ])
                  have C10 := B8.alloc B8.size (.cells #[.string x0, .string x1, .int .i64 x2, .bool x3, .int .i64 x4] 26)
                  have s10 := src_new w8 [.string x0, .string x1, .int .i64 x2, .bool x3, .int .i64 x4] 26 1 5 w8.heap.size rfl rfl
                  have y10 : w8.heap.size < (w8.alloc (.cells #[.string x0, .string x1, .int .i64 x2, .bool x3, .int .i64 x4] 26)).heap.size := by rw [World.size_alloc]; omega
                  generalize w8.alloc (.cells #[.string x0, .string x1, .int .i64 x2, .bool x3, .int .i64 x4] 26) = v10 at C10 s10 y10  ⊢
                  refine wpAnyH_ready (rs := [0]) (by kernel_rfl) (by simp) ?_
                  refine AllReadyH.cons (o := { dst := some 61, op := Op.buildSlice 53 0 #[], type := 53, pos := "l13_draw.go:90", after := _, guard := none }) rfl (fun K hK => ?_) AllReadyH.nil
                  go_simp
                  refine hK.out _ _ (KS _ (C10.alloc C10.size _)) (fun hHeld => ?_)
                  clear hK K
                  (try simp only [Act.put, List.setIfInBounds_toArray, List.set_cons_zero, List.set_cons_succ])
                  have C11 := C10.alloc C10.size (.cells #[] 26)
                  have o11 := own_lit00 (base := w8.heap.size) v10 26 5 v10.heap.size rfl C10.size
                  have s11 := s10.below (below_alloc v10 (.cells #[] 26))
                  have y11 : v10.heap.size < (v10.alloc (.cells #[] 26)).heap.size := by rw [World.size_alloc]; omega
                  generalize v10.alloc (.cells #[] 26) = v11 at C11 o11 y11 s11 ⊢
                  refine wpAnyH_ready (rs := [4]) (by kernel_rfl) (by simp) ?_
                  refine AllReadyH.cons (o := { dst := some 65, op := Op.call { callee := Callee.builtin Builtin.append, args := #[Operand.tmp 61, Operand.tmp 64], argTypes := #[53, 53] }, type := 53, pos := "l13_draw.go:90", after := _, guard := none }) rfl (fun K hK => ?_) AllReadyH.nil
                  refine step_append_src _ rfl (.tmp 61) (.tmp 64) 53 rfl w8.heap.size 26 i0 (.agg #[.string ⟨#[]⟩, .string ⟨#[]⟩, .int .i64 0, .bool false, .int .i64 0]) 5 56 Tryd.underlying53 hi hz0 hz1 hz2 rfl (by decide) (.slice (some ⟨v10.heap.size, 0, none⟩) 0 0) (0) [] rfl o11 (some ⟨g, 0, none⟩) j cb ((L.take j).flatMap encSpace) rfl ((src_take encSpace_len (by decide) hjl HE0.out).below C11) (fun u hu => one_sps hu) (by unfold maxLen; omega) (by omega) C11.size ?_
                  intro r12 v12 o12 g12 _
                  have C12 := C11.grown g12 C11.size (fun q hq => (o11.lt q hq).1)
                  refine hK.out _ _ (KS _ C12) (fun hHeld => ?_)
                  clear hK K
                  (try simp only [Act.put, List.setIfInBounds_toArray, List.set_cons_zero, List.set_cons_succ])
                  rw [Nat.zero_add, List.nil_append] at o12
                  obtain ⟨a12, c12, rfl⟩ := own_shape o12
                  have y12 := g12.size
                  have s12 := s11.kept (kept_of_grown g12) (fun q hq e => by have e1 := own_blk e; simp at hq; omega)
                  refine wpAnyH_ready (rs := [7]) (by kernel_rfl) (by simp) ?_
                  refine AllReadyH.cons (o := { dst := some 68, op := Op.call { callee := Callee.builtin Builtin.append, args := #[Operand.tmp 65, Operand.tmp 67], argTypes := #[53, 53] }, type := 53, pos := "l13_draw.go:90", after := _, guard := none }) rfl (fun K hK => ?_) AllReadyH.nil
                  refine step_append_src _ rfl (.tmp 65) (.tmp 67) 53 rfl w8.heap.size 26 i0 (.agg #[.string ⟨#[]⟩, .string ⟨#[]⟩, .int .i64 0, .bool false, .int .i64 0]) 5 56 Tryd.underlying53 hi hz0 hz1 hz2 rfl (by decide) (.slice a12 (j) c12) (j) ((L.take j).flatMap encSpace) rfl o12 (some ⟨w8.heap.size, 0, none⟩) 1 1 [.string x0, .string x1, .int .i64 x2, .bool x3, .int .i64 x4] rfl s12 (by simp [Value.oneCell']) (by unfold maxLen; omega) (by omega) C12.size ?_
                  intro r13 v13 o13 g13 _
                  have C13 := C12.grown g13 C12.size (fun q hq => (o12.lt q hq).1)
                  refine hK.out _ _ (KS _ C13) (fun hHeld => ?_)
                  clear hK K
                  (try simp only [Act.put, List.setIfInBounds_toArray, List.set_cons_zero, List.set_cons_succ])
                  obtain ⟨a13, c13, rfl⟩ := own_shape o13
                  have y13 := g13.size
                  refine wpAnyH_ready (rs := [11]) (by kernel_rfl) (by simp) ?_
                  refine AllReadyH.cons (o := { dst := some 72, op := Op.call { callee := Callee.builtin Builtin.append, args := #[Operand.tmp 68, Operand.tmp 71], argTypes := #[53, 53] }, type := 53, pos := "l13_draw.go:90", after := _, guard := none }) rfl (fun K hK => ?_) AllReadyH.nil
                  refine step_append_src _ rfl (.tmp 68) (.tmp 71) 53 rfl w8.heap.size 26 i0 (.agg #[.string ⟨#[]⟩, .string ⟨#[]⟩, .int .i64 0, .bool false, .int .i64 0]) 5 56 Tryd.underlying53 hi hz0 hz1 hz2 rfl (by decide) (.slice a13 (j + 1) c13) (j + 1) ((L.take j).flatMap encSpace ++ [.string x0, .string x1, .int .i64 x2, .bool x3, .int .i64 x4]) rfl o13 (some ⟨g, j * 5, none⟩) (L.length - j) (cb - j) ((L.drop j).flatMap encSpace) rfl ((src_drop encSpace_len (by decide) HE0.out).below C13) (fun u hu => one_sps hu) (by unfold maxLen; omega) (by omega) C13.size ?_
                  intro r14 v14 o14 g14 _
                  have C14 := C13.grown g14 C13.size (fun q hq => (o13.lt q hq).1)
                  refine hK.out _ _ (KS _ C14) (fun hHeld => ?_)
                  clear hK K
                  (try simp only [Act.put, List.setIfInBounds_toArray, List.set_cons_zero, List.set_cons_succ])
                  obtain ⟨a14, c14, rfl⟩ := own_shape o14
                  have y14 := g14.size
                  refine wpAnyH_take (i := 12) (oi := { dst := some 3, op := Op.assign (Operand.tmp 72), type := 53, pos := "l13_draw.go:90", after := _, guard := none }) (v := ?_) rfl (by kernel_rfl) (by kernel_rfl) (by kernel_rfl) (fun _ _ _ h => h) (Or.inl ⟨by rfl, ?_⟩) (by assumption) ?_
                  rotate_left
                  · (intro w hSw; (try dsimp only at hSw); go_simp; (try with_reducible rfl))
                  simp only [Act.put, List.setIfInBounds_toArray, List.set_cons_zero, List.set_cons_succ]
                  refine wpAnyH_done (by kernel_rfl) ?_ _
                  obtain ⟨g9, rfl⟩ := own_some o14 (by omega)
                  have hln : (L.take j ++ (x0, x1, x2, x3, x4) :: L.drop j).length = j + 1 + (L.length - j) := by rw [List.length_append, List.length_take, List.length_cons, List.length_drop]; omega
                  have hOW := Lib.hid (own_mono (base' := w.heap.size) (by have := HKW7.out.size; have := B0.size; omega) o14)
                  have hRW := Lib.hid (HRD7.out.below (B0.trans (C14.mono B0.size)))
                  have hKW := Lib.hid (HKW7.out.trans (.of_below (B0.trans (C14.mono B0.size))))
                  have hAW := Lib.hid (HA.out.ins (j := j) h0 h1 x2 x3 x4)
                  go_wp2_with fail
                  go_roundw
                  case rel =>
                    refine ⟨k - 1, g9, c14, L.take j ++ (x0, x1, x2, x3, x4) :: L.drop j, p2, by omega, by go_num, by rw [hln], ?_, hAW.out, by omega, by omega, hRW.out, by omega, hKW.out⟩
                    rw [hln, List.flatMap_append, List.flatMap_cons]
                    have := hOW.out
                    skip
                    simpa [encSpace] using this
                  case measure => simp [intOf]; omega
    · go_wp2_with fail
      go_ret
      exact ⟨_, L, p', rfl, HO.out, HA.out, hL1, by omega, HRD.out, by omega, HKP.out⟩
end Go.Proofs.YthbhgeifknkolaaDoor
