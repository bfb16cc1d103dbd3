import Derived.Test.YtbdicaanniffpabMarkD
import Derived.Test.YtbdicaanniffpabPick
import Derived.Test.YtbdicaanniffpabSlotsW
import Derived.Test.YtbdicaanniffpabThingOk
/- Drawn things. -/
namespace Go.Proofs.Ytbdicaanniffpab
open Go Go.RowKit

def litS3 : List ByteArray := [⟨#[97, 108, 108]⟩, ⟨#[97]⟩, ⟨#[98]⟩]
def litN4 : List ByteArray := [⟨#[97]⟩, ⟨#[98]⟩, ⟨#[97, 98]⟩, ⟨#[99]⟩]
def litB4 : List ByteArray := [⟨#[]⟩, ⟨#[98, 111, 100, 121]⟩, ⟨#[97, 32, 108, 111, 110, 103, 101, 114, 32, 98, 111, 100, 121]⟩, ⟨#[32]⟩]
def litM3 : List ByteArray := [⟨#[107]⟩, ⟨#[108]⟩, ⟨#[109]⟩]
theorem litS3_size : ∀ s ∈ litS3, s.size ≤ 24 := by
  intro s hs
  simp only [litS3, List.mem_cons, List.not_mem_nil, or_false] at hs
  rcases hs with rfl | rfl | rfl <;> simp [ByteArray.size]
theorem litN4_size : ∀ s ∈ litN4, s.size ≤ 24 := by
  intro s hs
  simp only [litN4, List.mem_cons, List.not_mem_nil, or_false] at hs
  rcases hs with rfl | rfl | rfl | rfl <;> simp [ByteArray.size]
theorem litB4_size : ∀ s ∈ litB4, s.size ≤ 24 := by
  intro s hs
  simp only [litB4, List.mem_cons, List.not_mem_nil, or_false] at hs
  rcases hs with rfl | rfl | rfl | rfl <;> simp [ByteArray.size]
theorem litM3_size : ∀ s ∈ litM3, s.size ≤ 24 := by
  intro s hs
  simp only [litM3, List.mem_cons, List.not_mem_nil, or_false] at hs
  rcases hs with rfl | rfl | rfl <;> simp [ByteArray.size]
/-- no text of it is too long -/
def AnyTh (t : ThingD) : Prop := t.sp.size ≤ 24 ∧ t.nm.size ≤ 24 ∧ t.body.size ≤ 64 ∧ (∀ s ∈ t.marks, s.size ≤ 24) ∧ t.marks.length ≤ 3
def DrawThP (w : World) (r : Nat) (a : Option Addr) (c : Nat) (l : List UInt8) (p n : Nat) (e : Ending) (w' : World) : Prop :=
  ∃ (am : Option Addr) (cm : Nat) (t : ThingD) (p' : Nat), e = .returned (thingV am cm t) ∧ MkS w' w.heap.size (.slice am t.marks.length cm) t.marks ∧ AnyTh t ∧ Rd w' r a c l p' ∧ p' ≤ p + n ∧ KeptOut (fun b => b = r) w w'
def TLit (r : Nat) (lit : List ByteArray) (v : Value) (w : World) : Prop := ∃ b, v = .slice (some ⟨b, 0, none⟩) lit.length lit.length ∧ b ≠ r ∧ ∀ j (h : j < lit.length), w.cell? ⟨b, 0 + j, none⟩ = some (.string lit[j])
theorem TLit.kept {r : Nat} {lit : List ByteArray} {v : Value} {w w' : World} (h : TLit r lit v w) (hk : KeptOut (fun b => b = r) w w') : TLit r lit v w' := by
  obtain ⟨b, e, hb, hc⟩ := h
  exact ⟨b, e, hb, fun j hj => by have := hc j hj; rw [hk.cell (p := ⟨b, 0 + j, none⟩) (by have := World.block_lt_of_cell? w _ this; simpa using this) hb]; exact this⟩
theorem MkS.kept2 {S : Nat → Prop} {B : Nat} {v : Value} {R : List ByteArray} {w w' : World} (h : MkS w B v R) (hS : ∀ b, B ≤ b → ¬ S b) (hk : KeptOut S w w') : MkS w' B v R := by
  obtain ⟨a, c, e, hc, he, hn⟩ := h
  refine ⟨a, c, e, hc, he.kept hk (fun k hk => ?_), hn⟩
  rcases hn with ⟨rfl, _⟩ | ⟨_, g, rfl, hg⟩
  · simp at hk
  · simp at hk; subst hk; exact hS _ hg
theorem MkS.kept {r B : Nat} {v : Value} {R : List ByteArray} {w w' : World} (h : MkS w B v R) (hB : r < B) (hk : KeptOut (fun b => b = r) w w') : MkS w' B v R := h.kept2 (fun b hb e => by omega) hk
theorem MkS.mono {B B' : Nat} {v : Value} {R : List ByteArray} {w : World} (h : MkS w B v R) (hB : B' ≤ B) : MkS w B' v R := by
  obtain ⟨a, c, e, hc, he, hn⟩ := h
  exact ⟨a, c, e, hc, he, hn.imp id fun ⟨h1, g, h2, h3⟩ => ⟨h1, g, h2, by omega⟩⟩
theorem mark_of {w : World} {B : Nat} {am : Option Addr} {cm : Nat} {ms : List ByteArray} (h : MkS w B (.slice am ms.length cm) ms) (hs : ∀ s ∈ ms, s.size ≤ 24) (hn : ms.length ≤ 5) (x : ByteArray) (hx : x.size ≤ 24) (hBw : B ≤ w.heap.size) :
    Calls Try.prog 82 #[.slice am ms.length cm, .string x] w (MarkP w B ms.length) := by
  obtain ⟨a, c, e, hc, he, hn2⟩ := h
  cases e
  rcases hn2 with ⟨rfl, rfl, rfl⟩ | ⟨h1, g, rfl, hg⟩
  · exact mark_nil B x hx w hBw
  · exact mark_some B g cm ms x hx w he hc hs (List.length_pos_iff.2 h1) hn hg
theorem drawTh_of {w w8 W : World} {r c p p' T R : Nat} {a : Option Addr} {l : List UInt8} {am : Option Addr} {cm : Nat} (t : ThingD) (KS : KeptOut (fun b => b = T ∨ b = R) w8 W) (hT : w.heap.size ≤ T) (hR : w.heap.size ≤ R) (hRT : R < T) (hr : r < w.heap.size) (har : l ≠ [] → ∀ x, a = some x → x.block < w.heap.size)
    (hm : MkS w8 (T + 1) (.slice am t.marks.length cm) t.marks) (ht : AnyTh t) (hrd : Rd w8 r a c l p') (hp : p' ≤ p + 30) (hk : KeptOut (fun b => b = r) w w8) : DrawThP w r a c l p 30 (.returned (thingV am cm t)) W :=
  ⟨am, cm, t, p', rfl, (hm.kept2 (fun b hb e => by omega) KS).mono (by omega), ht, hrd.kept2 KS (by omega) (fun hn x hx => by have := har hn x hx; omega), hp, hk.step KS (fun b hb => .inl (by omega))⟩
def MkAt (B n : Nat) (v : Value) (w : World) : Prop := ∃ R, MkS w B v R ∧ (∀ s ∈ R, s.size ≤ 24) ∧ R.length ≤ n + 1
def TStr (v : Value) : Prop := ∃ s : ByteArray, s.size ≤ 24 ∧ v = .string s
def GTh (r T B : Nat) (vm : Value) (n : Nat) : Nat → Value → World → Prop
  | 0, v, _ | 6, v, _ => v = .pointer (some ⟨T, 5, none⟩)
  | 1, v, _ => v = vm
  | 2, v, _ => v = .pointer (some ⟨r, 0, none⟩)
  | 3, v, w => TLit r litM3 v w
  | 4, v, _ => TStr v
  | 5, v, w => MkAt B n v w
  | _, _, _ => True
theorem gth_kept {r T B : Nat} {vm : Value} {n : Nat} (hB : r < B) (i : Nat) (v : Value) (w w' : World) (h : GTh r T B vm n i v w) (hk : KeptOut (fun b => b = r) w w') : GTh r T B vm n i v w' := by
  unfold GTh at h ⊢
  split at h <;> first | exact h | exact TLit.kept h hk | exact (let ⟨R, h1, h2⟩ := h; ⟨R, h1.kept hB hk, h2⟩)
def STh (w0 : World) (r : Nat) (a : Option Addr) (c : Nat) (l : List UInt8) (p : Nat) (k : Nat) (w : World) : Prop := KeptOut (fun b => b = r) w0 w ∧ ∃ p', p' + k ≤ p ∧ Rd w r a c l p'
theorem names_any (w : World) : Calls Try.prog 81 #[] w fun e w' => (∃ b, e = .returned (.slice (some ⟨b, 0, none⟩) 4 4) ∧ w.heap.size ≤ b ∧ ∀ j (h : j < litN4.length), w'.cell? ⟨b, 0 + j, none⟩ = some (.string litN4[j])) ∧ Below w.heap.size w w' := by
  go_enter Try.func81, Try.ntmps81
  go_wp2
  go_ret
  exact ⟨⟨w.heap.size, rfl, Nat.le_refl _, lit_cells w litN4 _⟩, below_alloc _ _⟩
set_option maxRecDepth 100000 in
set_option maxHeartbeats 2000000 in
theorem l13Thing_any (w : World) (r : Nat) (a : Option Addr) (c : Nat) (l : List UInt8) (p : Nat) (hp : p ≤ 10000000) (h : Rd w r a c l p) :
    Calls Try.prog 38 #[.pointer (some ⟨r, 0, none⟩)] w (DrawThP w r a c l p 30) := by
  have hr : r < w.heap.size := h.lt
  have HAR := Lib.hid (rd_har h)
  have HR := Lib.hid h
  clear h
  go_enter Try.func38, Try.ntmps38
  go_wp2_with fail
  obtain ⟨wA, hA⟩ : ∃ wA, w.alloc (Obj.cells #[.string ⟨#[]⟩, .string ⟨#[]⟩, .int .i64 0, .int .i64 0, .bool false, .slice none 0 0, .string ⟨#[]⟩] 25) = wA := ⟨_, rfl⟩
  have zA : wA.heap.size = w.heap.size + 1 := by rw [← hA, World.size_alloc]
  have BX := Lib.hid (show Box wA w.heap.size [.string ⟨#[]⟩, .string ⟨#[]⟩, .int .i64 0, .int .i64 0, .bool false, .slice none 0 0, .string ⟨#[]⟩] by rw [← hA]; exact Box.alloc w _ _)
  have BA := Lib.hid (show Below w.heap.size w wA by rw [← hA]; exact below_alloc _ _)
  rw [hA]
  clear hA
  refine (of_any _ r a c l p (by omega) ((HR.out.below BA.out).below (below_alloc wA _)) (w.heap.size + 1) 0 3 litS3 (by decide) (by decide) (by omega) (by rw [← zA]; exact lit_cells wA litS3 _)).mono ?_
  rintro e w1 ⟨sp, hsp, rfl, h1, k1⟩
  have hsp := litS3_size sp hsp
  have H1 := Lib.hid h1
  have K1 := Lib.hid (((KeptOut.of_below (S := fun b => b = r) BA.out).trans (KeptOut.of_below (S := fun b => b = r) (below_alloc wA _))).trans k1)
  have BX1 := Lib.hid ((BX.out.below (below_alloc wA _)).kept k1 (by omega))
  have z1 := k1.size
  rw [World.size_alloc] at z1
  clear h1 k1 BX
  go_wp2_with fail
  refine (names_any _).mono ?_
  rintro e w2 ⟨⟨bn, rfl, hbn, hcn⟩, b2⟩
  have z2 := b2.size
  have K2 := Lib.hid (K1.out.trans (KeptOut.of_below (S := fun b => b = r) b2))
  have BX2 := Lib.hid (BX1.out.below b2)
  have H2 := Lib.hid (H1.out.below b2)
  clear b2 K1 BX1 H1
  go_wp2_with fail
  refine (of_any _ r a c l (p + 1) (by omega) H2.out bn 0 4 litN4 (by decide) (by decide) (by omega) hcn).mono ?_
  rintro e w3 ⟨nm, hnm, rfl, h3, k3⟩
  have hnm := litN4_size nm hnm
  have z3 := k3.size
  have K3 := Lib.hid (K2.out.trans k3)
  have BX3 := Lib.hid (BX2.out.kept k3 (by omega))
  have H3 := Lib.hid h3
  clear k3 K2 BX2 H2 h3 hcn
  go_wp2_with fail
  refine (pick_any 9 _ r a c l (p + 1 + 1) (by omega) (by omega) (by omega) H3.out).mono ?_
  rintro e w4 ⟨q4, rfl, q40, q41, h4, k4⟩
  have q42 := q41 (by omega)
  have z4 := k4.size
  have K4 := Lib.hid (K3.out.trans k4)
  have BX4 := Lib.hid (BX3.out.kept k4 (by omega))
  have H4 := Lib.hid h4
  clear k4 K3 BX3 H3 h4 q41
  go_wp2_with fail
  refine (pick_any 20 _ r a c l (p + 1 + 1 + 1) (by omega) (by omega) (by omega) H4.out).mono ?_
  rintro e w5 ⟨q5, rfl, q50, q51, h5, k5⟩
  have q52 := q51 (by omega)
  have z5 := k5.size
  have K5 := Lib.hid (K4.out.trans k5)
  have BX5 := Lib.hid (BX4.out.kept k5 (by omega))
  have H5 := Lib.hid h5
  clear k5 K4 BX4 H4 h5 q51
  go_wp2_with fail
  refine (of_any _ r a c l (p + 1 + 1 + 1 + 1) (by omega) (H5.out.below (below_alloc w5 _)) w5.heap.size 0 4 litB4 (by decide) (by decide) (by omega) (lit_cells w5 litB4 _)).mono ?_
  rintro e w6 ⟨bo, hbo, rfl, h6, k6⟩
  have hbo := litB4_size bo hbo
  have z6 := k6.size
  rw [World.size_alloc] at z6
  have K6 := Lib.hid ((K5.out.trans (KeptOut.of_below (S := fun b => b = r) (below_alloc w5 _))).trans k6)
  have BX6 := Lib.hid ((BX5.out.below (below_alloc w5 _)).kept k6 (by omega))
  have H6 := Lib.hid h6
  clear k6 K5 BX5 H5 h6
  go_wp2_with fail
  obtain ⟨wB, hB⟩ : ∃ wB, w6.alloc (Obj.cells #[.string sp, .string nm, .int .i64 (1 + q4), .int .i64 (1 + q5), .bool false, .slice none 0 0, .string bo] 25) = wB := ⟨_, rfl⟩
  have zB : wB.heap.size = w6.heap.size + 1 := by rw [← hB, World.size_alloc]
  have BY := Lib.hid (show Box wB w6.heap.size [.string sp, .string nm, .int .i64 (1 + q4), .int .i64 (1 + q5), .bool false, .slice none 0 0, .string bo] by rw [← hB]; exact Box.alloc w6 _ _)
  have BB := Lib.hid (show Below w6.heap.size w6 wB by rw [← hB]; exact below_alloc _ _)
  rw [hB]
  clear hB
  obtain ⟨T, hT⟩ : ∃ T, T = w6.heap.size := ⟨_, rfl⟩
  refine (pick_any 3 _ r a c l (p + 1 + 1 + 1 + 1 + 1) (by omega) (by omega) (by omega) (H6.out.below BB.out)).mono ?_
  rintro e w7 ⟨q7, rfl, q70, q71, h7, k7⟩
  have q72 := q71 (by omega)
  obtain ⟨q7, rfl⟩ := Int.eq_ofNat_of_zero_le q70
  have z7 := k7.size
  have K7 := Lib.hid ((K6.out.trans (KeptOut.of_below (S := fun b => b = r) BB.out)).trans k7)
  have BX7 := Lib.hid ((BX6.out.below BB.out).kept k7 (by omega))
  have BY7 := Lib.hid (BY.out.kept k7 (by omega))
  have H7 := Lib.hid h7
  clear k7 K6 BX6 BY H6 h7 q71
  go_wp2_with fail
  go_loopw [4] (fun i wr => ∃ (k : Nat) (am : Option Addr) (cm : Nat) (ms : List ByteArray) (p' : Nat), i = .int .i64 k ∧ ms.length + k ≤ 2 ∧ MkS wr (w6.heap.size + 1) (.slice am ms.length cm) ms ∧ (∀ s ∈ ms, s.size ≤ 24) ∧ Box wr w6.heap.size [.string sp, .string nm, .int .i64 (1 + q4), .int .i64 (1 + q5), .bool false, .slice am ms.length cm, .string bo] ∧ Box wr w.heap.size [.string ⟨#[]⟩, .string ⟨#[]⟩, .int .i64 0, .int .i64 0, .bool false, .slice none 0 0, .string ⟨#[]⟩] ∧ Rd wr r a c l p' ∧ p' + 8 * k ≤ p + 25 ∧ KeptOut (fun b => b = r) w wr) (fun i _ => (intOf i).toNat)
  case atStart => exact ⟨q7, none, 0, [], p + 1 + 1 + 1 + 1 + 1 + 1, rfl, by simp; omega, ⟨none, 0, rfl, Nat.zero_le _, ⟨by simp, .inl rfl⟩, .inl ⟨rfl, rfl, rfl⟩⟩, by simp, BY7.out, BX7.out, H7.out, by omega, K7.out⟩
  case round =>
    obtain ⟨k, am, cm, ms, p', rfl, hmk, hms, hsm, hby, hbx, hrd, hp', hkw⟩ := hrel
    have HMS := Lib.hid hms
    have HSM := Lib.hid hsm
    have HBY := Lib.hid hby
    have HBX := Lib.hid hbx
    have HRD := Lib.hid hrd
    have HKW := Lib.hid hkw
    have zr := hkw.size
    have hTr := hby.lt
    clear hms hsm hby hbx hrd hkw
    by_cases hk0 : 0 < k
    · go_wp2_with fail
      refine wp_region_slotsW (G := GTh r w6.heap.size (w6.heap.size + 1) (.slice am ms.length cm) ms.length) (S := STh wr r a c l (p' + 8)) (by kernel_rfl) 7 45 rfl (by kernel_rfl) (fun W W' => KeptOut (fun b => b = r) W W') (gth_kept (by omega)) ⟨(KeptOut.refl _ _).drew, p', Nat.le_refl _, HRD.out⟩ ?step (fun A W e => absurd e (by decide)) ?last
      case step =>
        intro i o A W kk K him ho hs hd hS hK
        obtain ⟨hkw, p3, hp3, hrd⟩ := hS
        have hr2 : r < W.heap.size := hrd.lt
        have hszW := hkw.size
        match i, him, ho, hd, hK with
        | 0, _, ho, hd, hK =>
          obtain rfl := Option.some.inj ho
          have e : A.tmps.getD 3 undef = .pointer (some ⟨w6.heap.size, 0, none⟩) := hs.keep (by kernel_rfl)
          go_simp
          exact hK _ _ (KeptOut.refl _ _) rfl ⟨hkw, p3, by omega, hrd⟩
        | 1, _, ho, hd, hK =>
          obtain rfl := Option.some.inj ho
          have e0 : A.tmps.getD 27 undef = .pointer (some ⟨w6.heap.size, 5, none⟩) := hd ⟨0, .data⟩ (by simp) rfl
          have y5 := ((HBY.out.kept hkw (by omega)) 5 _ rfl).1
          go_simp
          exact hK _ _ (KeptOut.refl _ _) rfl ⟨hkw, p3, by omega, hrd⟩
        | 2, _, ho, hd, hK =>
          obtain rfl := Option.some.inj ho
          have e : A.tmps.getD 0 undef = .pointer (some ⟨r, 0, none⟩) := hs.keep (by kernel_rfl)
          go_simp
          exact hK _ _ (KeptOut.refl _ _) rfl ⟨hkw, p3, by omega, hrd⟩
        | 3, _, ho, hd, hK =>
          obtain rfl := Option.some.inj ho
          go_simp
          exact hK _ _ (.of_below (below_alloc _ _)) ⟨W.heap.size, rfl, by omega, lit_cells W litM3 _⟩ ⟨hkw.trans (.of_below (below_alloc _ _)), p3, by omega, hrd.below (below_alloc _ _)⟩
        | 4, _, ho, hd, hK =>
          obtain rfl := Option.some.inj ho
          have e0 : A.tmps.getD 29 undef = .pointer (some ⟨r, 0, none⟩) := hd ⟨2, .data⟩ (by simp) rfl
          obtain ⟨b9, e1, hb, hc⟩ := (show TLit r litM3 (A.tmps.getD 30 undef) W from hd ⟨3, .data⟩ (by simp) rfl)
          go_simp
          refine (of_any _ r a c l p3 (by omega) hrd b9 0 litM3.length litM3 (by decide) (by decide) hb hc).mono ?_
          rintro e w' ⟨s, hsm, rfl, h1, k1⟩
          exact hK _ _ k1 ⟨s, litM3_size s hsm, rfl⟩ ⟨hkw.trans k1, p3 + 1, by omega, h1⟩
        | 5, _, ho, hd, hK =>
          obtain rfl := Option.some.inj ho
          have e0 : A.tmps.getD 28 undef = .slice am ms.length cm := hd ⟨1, .data⟩ (by simp) rfl
          obtain ⟨x, hx, e1⟩ := (show TStr (A.tmps.getD 31 undef) from hd ⟨4, .data⟩ (by simp) rfl)
          have hM := HMS.out.kept (by omega) hkw
          go_simp
          refine (mark_of hM HSM.out (by omega) x hx (by omega)).mono ?_
          rintro e w' ⟨v, R, rfl, hR, hRs, hRl, hb⟩
          exact hK _ _ (.of_below hb) ⟨R, hR, hRs, hRl⟩ ⟨hkw.trans (.of_below hb), p3, by omega, hrd.below hb⟩
        | 6, _, ho, hd, hK =>
          obtain rfl := Option.some.inj ho
          have e : A.tmps.getD 3 undef = .pointer (some ⟨w6.heap.size, 0, none⟩) := hs.keep (by kernel_rfl)
          go_simp
          exact hK _ _ (KeptOut.refl _ _) rfl ⟨hkw, p3, by omega, hrd⟩
        | n + 7, him, ho, hd, hK => omega
      case last =>
        intro o A W K ho hs hG hS hK
        obtain ⟨hkw, p3, hp3, hrd⟩ := hS
        obtain rfl := Option.some.inj ho
        obtain ⟨R, hR, hRs, hRl⟩ := (show MkAt (w6.heap.size + 1) ms.length (A.tmps.getD 32 undef) W from hG 5 (by decide))
        obtain ⟨a9, c9, e9, hR2⟩ := id hR
        rw [e9] at hR
        have e0 : A.tmps.getD 33 undef = .pointer (some ⟨w6.heap.size, 5, none⟩) := hG 6 (by decide)
        have e9' := (Array.getD_eq_getD_getElem? ..).symm.trans e9
        have hby := HBY.out.kept hkw (by omega)
        obtain ⟨⟨y0, v0⟩, ⟨y1, v1⟩, ⟨y2, v2⟩, ⟨y3, v3⟩, ⟨y4, v4⟩, ⟨y5, v5⟩, y6, v6⟩ := show _ ∧ _ ∧ _ ∧ _ ∧ _ ∧ _ ∧ _ from ⟨hby 0 _ rfl, hby 1 _ rfl, hby 2 _ rfl, hby 3 _ rfl, hby 4 _ rfl, hby 5 _ rfl, hby 6 _ rfl⟩
        go_simp
        refine hK _ _ ?_
        have k0 : at_ A 0 = .pointer (some ⟨r, 0, none⟩) := hs.keep (by kernel_rfl)
        have k1 : at_ A 1 = undef := hs.keep (by kernel_rfl)
        have k2 : at_ A 2 = .pointer (some ⟨w.heap.size, 0, none⟩) := hs.keep (by kernel_rfl)
        have k3 : at_ A 3 = .pointer (some ⟨w6.heap.size, 0, none⟩) := hs.keep (by kernel_rfl)
        have k4 : at_ A 4 = .int .i64 (k : Int) := hs.keep (by kernel_rfl)
        have k5 : at_ A 5 = .pointer (some ⟨r, 0, none⟩) := hs.keep (by kernel_rfl)
        have k6 : at_ A 6 = .slice (some ⟨w.heap.size + 1, 0, none⟩) 3 3 := hs.keep (by kernel_rfl)
        have k7 : at_ A 7 = .string sp := hs.keep (by kernel_rfl)
        have k8 : at_ A 8 = .pointer (some ⟨r, 0, none⟩) := hs.keep (by kernel_rfl)
        have k9 : at_ A 9 = .slice (some ⟨bn, 0, none⟩) 4 4 := hs.keep (by kernel_rfl)
        have k10 : at_ A 10 = .string nm := hs.keep (by kernel_rfl)
        have k11 : at_ A 11 = .pointer (some ⟨r, 0, none⟩) := hs.keep (by kernel_rfl)
        have k12 : at_ A 12 = .int .i64 q4 := hs.keep (by kernel_rfl)
        have k13 : at_ A 13 = .int .i64 (1 + q4) := hs.keep (by kernel_rfl)
        have k14 : at_ A 14 = .pointer (some ⟨r, 0, none⟩) := hs.keep (by kernel_rfl)
        have k15 : at_ A 15 = .int .i64 q5 := hs.keep (by kernel_rfl)
        have k16 : at_ A 16 = .int .i64 (1 + q5) := hs.keep (by kernel_rfl)
        have k17 : at_ A 17 = .pointer (some ⟨r, 0, none⟩) := hs.keep (by kernel_rfl)
        have k18 : at_ A 18 = .slice (some ⟨w5.heap.size, 0, none⟩) 4 4 := hs.keep (by kernel_rfl)
        have k19 : at_ A 19 = .string bo := hs.keep (by kernel_rfl)
        have k20 : at_ A 20 = .agg #[.string sp, .string nm, .int .i64 (1 + q4), .int .i64 (1 + q5), .bool false, .slice none 0 0, .string bo] := hs.keep (by kernel_rfl)
        have k21 : at_ A 21 = .pointer (some ⟨r, 0, none⟩) := hs.keep (by kernel_rfl)
        have k22 : at_ A 22 = .int .i64 (q7 : Int) := hs.keep (by kernel_rfl)
        have k34 : at_ A 34 = undef := hs.keep (by kernel_rfl)
        have k35 : at_ A 35 = undef := hs.keep (by kernel_rfl)
        have k36 : at_ A 36 = undef := hs.keep (by kernel_rfl)
        have k37 : at_ A 37 = undef := hs.keep (by kernel_rfl)
        have k38 : at_ A 38 = undef := hs.keep (by kernel_rfl)
        have k39 : at_ A 39 = undef := hs.keep (by kernel_rfl)
        have k40 : at_ A 40 = undef := hs.keep (by kernel_rfl)
        have k41 : at_ A 41 = undef := hs.keep (by kernel_rfl)
        have k42 : at_ A 42 = undef := hs.keep (by kernel_rfl)
        have k43 : at_ A 43 = undef := hs.keep (by kernel_rfl)
        have k44 : at_ A 44 = undef := hs.keep (by kernel_rfl)
        rw [act_lit (n := 45) hs.size hs.defers]
        change Exit.inBlock _ _ _ { tmps := #[at_ A 0, at_ A 1, at_ A 2, at_ A 3, at_ A 4, at_ A 5, at_ A 6, at_ A 7, at_ A 8, at_ A 9, at_ A 10, at_ A 11, at_ A 12, at_ A 13, at_ A 14, at_ A 15, at_ A 16, at_ A 17, at_ A 18, at_ A 19, at_ A 20, at_ A 21, at_ A 22, at_ A 23, at_ A 24, at_ A 25, at_ A 26, at_ A 27, at_ A 28, at_ A 29, at_ A 30, at_ A 31, at_ A 32, at_ A 33, at_ A 34, at_ A 35, at_ A 36, at_ A 37, at_ A 38, at_ A 39, at_ A 40, at_ A 41, at_ A 42, at_ A 43, at_ A 44], defers := [] } _
        (try dsimp only)
        rw [k0, k1, k2, k3, k4, k5, k6, k7, k8, k9, k10, k11, k12, k13, k14, k15, k16, k17, k18, k19, k20, k21, k22, k34, k35, k36, k37, k38, k39, k40, k41, k42, k43, k44]
        generalize at_ A 23 = zz23
        generalize at_ A 24 = zz24
        generalize at_ A 25 = zz25
        generalize at_ A 26 = zz26
        generalize at_ A 27 = zz27
        generalize at_ A 28 = zz28
        generalize at_ A 29 = zz29
        generalize at_ A 30 = zz30
        generalize at_ A 31 = zz31
        generalize at_ A 32 = zz32
        generalize at_ A 33 = zz33
        have HR9 := Lib.hid hR
        have HRS := Lib.hid hRs
        have HRD9 := Lib.hid hrd
        have HKW9 := Lib.hid (HKW.out.trans hkw)
        have KS := Lib.hid ((KeptOut.refl (fun b => b = w6.heap.size) W).setCell (p := ⟨w6.heap.size, 5, none⟩) rfl (.slice a9 R.length c9))
        have HBX9 := Lib.hid (HBX.out.kept hkw (by omega))
        have BYN := Lib.hid (show Box (W.setCell ⟨w6.heap.size, 5, none⟩ (.slice a9 R.length c9)) w6.heap.size [.string sp, .string nm, .int .i64 (1 + q4), .int .i64 (1 + q5), .bool false, .slice a9 R.length c9, .string bo] from by
          intro i v hv
          match i, hv with
          | 0, hv => cases hv; simp [go_sem, y0, v0]
          | 1, hv => cases hv; simp [go_sem, y1, v1]
          | 2, hv => cases hv; simp [go_sem, y2, v2]
          | 3, hv => cases hv; simp [go_sem, y3, v3]
          | 4, hv => cases hv; simp [go_sem, y4, v4]
          | 5, hv => cases hv; simp [go_sem, y5, v5]
          | 6, hv => cases hv; simp [go_sem, y6, v6]
          | n + 7, hv => simp at hv)
        clear hs hG hK hR hR2 hRs hrd hkw hby k0 k1 k2 k3 k4 k5 k6 k7 k8 k9 k10 k11 k12 k13 k14 k15 k16 k17 k18 k19 k20 k21 k22 k34 k35 k36 k37 k38 k39 k40 k41 k42 k43 k44 e0 e9 e9' y0 y1 y2 y3 y4 y5 y6 v0 v1 v2 v3 v4 v5 v6
        go_wp2_with fail
        go_roundw
        case rel => exact ⟨k - 1, a9, c9, R, p3, by go_num, by omega, HR9.out.kept2 (fun b hb e => by omega) KS.out, HRS.out, BYN.out, HBX9.out.kept KS.out (by omega), HRD9.out.kept2 KS.out (by omega) (fun hn x hx => by have := HAR.out hn x hx; omega), by omega, HKW9.out.step KS.out (fun b hb => .inl (by omega))⟩
        case measure => simp [intOf]; omega
    · have hne : w.heap.size ≠ w6.heap.size := by omega
      have hne2 : w6.heap.size ≠ w.heap.size := by omega
      by_cases h0 : 0 < ms.length
      · have h0i : (0 : Int) < (ms.length : Int) := by omega
        have y5 := (HBY.out 5 _ rfl).1
        go_wp2_with fail
        clear y5
        refine (pick_any 3 _ r a c l p' (by omega) (by omega) (by omega) HRD.out).mono ?_
        rintro e w8 ⟨q8, rfl, q80, q81, h8, k8⟩
        have H8 := Lib.hid h8
        have K8 := Lib.hid (HKW.out.trans k8)
        have M8 := Lib.hid (HMS.out.kept (by omega) k8)
        have BY8 := Lib.hid (HBY.out.kept k8 (by omega))
        have BX8 := Lib.hid (HBX.out.kept k8 (by omega))
        have z8 := k8.size
        clear h8 k8 q81 HMS HBY HBX HRD HKW
        obtain ⟨⟨y0, v0⟩, ⟨y1, v1⟩, ⟨y2, v2⟩, ⟨y3, v3⟩, ⟨y4, v4⟩, ⟨y5, v5⟩, y6, v6⟩ := show _ ∧ _ ∧ _ ∧ _ ∧ _ ∧ _ ∧ _ from ⟨BY8.out 0 _ rfl, BY8.out 1 _ rfl, BY8.out 2 _ rfl, BY8.out 3 _ rfl, BY8.out 4 _ rfl, BY8.out 5 _ rfl, BY8.out 6 _ rfl⟩
        obtain ⟨⟨x0, u0⟩, ⟨x1, u1⟩, ⟨x2, u2⟩, ⟨x3, u3⟩, ⟨x4, u4⟩, ⟨x5, u5⟩, x6, u6⟩ := show _ ∧ _ ∧ _ ∧ _ ∧ _ ∧ _ ∧ _ from ⟨BX8.out 0 _ rfl, BX8.out 1 _ rfl, BX8.out 2 _ rfl, BX8.out 3 _ rfl, BX8.out 4 _ rfl, BX8.out 5 _ rfl, BX8.out 6 _ rfl⟩
        go_wp2
        refine bodyPost_ret (v := thingV am cm ⟨sp, nm, 1 + q4, 1 + q5, (q8 == 0), ms, bo⟩) (by simp [results, Try.results38, go_sem, thingV, x0, x1, x2, x3, x4, x5, x6]) rfl (drawTh_of (T := w6.heap.size) (R := w.heap.size) ⟨sp, nm, 1 + q4, 1 + q5, (q8 == 0), ms, bo⟩ ?_ (by omega) (Nat.le_refl _) (by omega) hr HAR.out M8.out ⟨hsp, hnm, by show bo.size ≤ 64; omega, HSM.out, by show ms.length ≤ 3; omega⟩ H8.out (by omega) K8.out)
        repeat (first | with_reducible exact KeptOut.refl _ _ | refine KeptOut.setCell ?_ (by first | exact .inl rfl | exact .inr rfl) _)
      · have h0i : ¬ (0 : Int) < (ms.length : Int) := by omega
        obtain ⟨⟨y0, v0⟩, ⟨y1, v1⟩, ⟨y2, v2⟩, ⟨y3, v3⟩, ⟨y4, v4⟩, ⟨y5, v5⟩, y6, v6⟩ := show _ ∧ _ ∧ _ ∧ _ ∧ _ ∧ _ ∧ _ from ⟨HBY.out 0 _ rfl, HBY.out 1 _ rfl, HBY.out 2 _ rfl, HBY.out 3 _ rfl, HBY.out 4 _ rfl, HBY.out 5 _ rfl, HBY.out 6 _ rfl⟩
        obtain ⟨⟨x0, u0⟩, ⟨x1, u1⟩, ⟨x2, u2⟩, ⟨x3, u3⟩, ⟨x4, u4⟩, ⟨x5, u5⟩, x6, u6⟩ := show _ ∧ _ ∧ _ ∧ _ ∧ _ ∧ _ ∧ _ from ⟨HBX.out 0 _ rfl, HBX.out 1 _ rfl, HBX.out 2 _ rfl, HBX.out 3 _ rfl, HBX.out 4 _ rfl, HBX.out 5 _ rfl, HBX.out 6 _ rfl⟩
        go_wp2
        refine bodyPost_ret (v := thingV am cm ⟨sp, nm, 1 + q4, 1 + q5, false, ms, bo⟩) (by simp [results, Try.results38, go_sem, thingV, x0, x1, x2, x3, x4, x5, x6]) rfl (drawTh_of (T := w6.heap.size) (R := w.heap.size) ⟨sp, nm, 1 + q4, 1 + q5, false, ms, bo⟩ ?_ (by omega) (Nat.le_refl _) (by omega) hr HAR.out HMS.out ⟨hsp, hnm, by show bo.size ≤ 64; omega, HSM.out, by show ms.length ≤ 3; omega⟩ HRD.out (by omega) HKW.out)
        repeat (first | with_reducible exact KeptOut.refl _ _ | refine KeptOut.setCell ?_ (by first | exact .inl rfl | exact .inr rfl) _)
end Go.Proofs.Ytbdicaanniffpab
