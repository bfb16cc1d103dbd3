import Derived.Test.YtbdicaanniffpabModelK
/- The walk of FnExactModelNew. -/
namespace Go.Proofs.Ytbdicaanniffpab
open Go Go.RowKit

def newSps : List SpaceD := [(⟨#[97, 108, 108]⟩, ⟨#[]⟩, -1, false, 0)]
def newUses : List UseD := [(⟨#[97, 108, 108]⟩, 0)]
def newM : ModelD := ⟨0, 0, 0, newSps, newUses, [], []⟩
/-- a new model in memory of its own -/
def OwNew (w : World) (base lim : Nat) (v : Value) (s : List SpaceD) (u : List UseD) : Prop := ∃ v3 v4 b, v = .agg #[.int .i64 0, .int .i64 0, .int .i64 0, v3, v4, .slice none 0 0, .slice none 0 0] ∧ (base ≤ b ∧ b ≤ lim) ∧ OwSpaceS w base b v3 s ∧ OwUseS w b lim v4 u
theorem OwNew.below {w w' : World} {base lim : Nat} {v : Value} {s : List SpaceD} {u : List UseD} (hb : Below w.heap.size w w') (h : OwNew w base lim v s u) : OwNew w' base lim v s u := let ⟨v3, v4, b, e, g, h3, h4⟩ := h; ⟨v3, v4, b, e, g, h3.below hb, h4.below hb⟩
theorem OwNew.kept {S : Nat → Prop} {w w' : World} {base lim : Nat} {v : Value} {s : List SpaceD} {u : List UseD} (hb : KeptOut S w w') (h : OwNew w base lim v s u) (hs : ∀ b, base ≤ b → b < lim → ¬ S b) : OwNew w' base lim v s u :=
  let ⟨v3, v4, b, e, g, h3, h4⟩ := h; ⟨v3, v4, b, e, g, h3.kept hb (fun k h1 h2 => hs k h1 (by omega)), h4.kept hb (fun k h1 h2 => hs k (by omega) h2)⟩
theorem nilThs (w : World) : VwThingS w (.slice none 0 0) [] := ⟨none, 0, [], rfl, ⟨by simp, .inl rfl⟩, rfl, by simp⟩
theorem nilPasts (w : World) : VwPastS w (.slice none 0 0) [] := ⟨none, 0, rfl, ⟨by simp, .inl rfl⟩, by simp⟩
theorem OwNew.vw {w : World} {base lim : Nat} {v : Value} (h : OwNew w base lim v newSps newUses) : VwModel w v newM := let ⟨v3, v4, _, e, _, h3, h4⟩ := h; ⟨v3, v4, _, _, e, h3.vw, h4.vw, nilThs w, nilPasts w⟩
theorem ownSpaces1 (w : World) (base : Nat) (hb : base ≤ w.heap.size) : OwSpaceS (w.alloc (.cells #[.string ⟨#[97, 108, 108]⟩, .string ⟨#[]⟩, .int .i64 (-1), .bool false, .int .i64 0] 38)) base (w.alloc (.cells #[.string ⟨#[97, 108, 108]⟩, .string ⟨#[]⟩, .int .i64 (-1), .bool false, .int .i64 0] 38)).heap.size (.slice (some ⟨w.heap.size, 0, none⟩) 1 1) newSps :=
  owSpaceS_of (l := newSps) (World.ownsRow_lit (base := base) (e := 38) (size := 5) w #[.string ⟨#[97, 108, 108]⟩, .string ⟨#[]⟩, .int .i64 (-1), .bool false, .int .i64 0] 1 hb (by unfold maxLen; omega) rfl) (by unfold maxLen; simp [newSps]) (by intro x hx; simp [newSps] at hx; subst hx; exact ⟨by decide, by decide⟩)
theorem ownUses1 (w : World) (base : Nat) (hb : base ≤ w.heap.size) : OwUseS (w.alloc (.cells #[.string ⟨#[97, 108, 108]⟩, .int .i64 0] 77)) base (w.alloc (.cells #[.string ⟨#[97, 108, 108]⟩, .int .i64 0] 77)).heap.size (.slice (some ⟨w.heap.size, 0, none⟩) 1 1) newUses :=
  owUseS_of (l := newUses) (World.ownsRow_lit (base := base) (e := 77) (size := 2) w #[.string ⟨#[97, 108, 108]⟩, .int .i64 0] 1 hb (by unfold maxLen; omega) rfl) (by unfold maxLen; simp [newUses]) (by intro x hx; simp [newUses] at hx; subst hx; show (⟨#[97, 108, 108]⟩ : ByteArray).size ≤ maxLen; decide)
def newW (w : World) : World := ((w.alloc (.cells #[.int .i64 0, .int .i64 0, .int .i64 0, .slice (some ⟨w.heap.size + 1, 0, none⟩) 1 1, .slice (some ⟨w.heap.size + 1 + 1, 0, none⟩) 1 1, .slice none 0 0, .slice none 0 0] 42)).alloc (.cells #[.string ⟨#[97, 108, 108]⟩, .string ⟨#[]⟩, .int .i64 (-1), .bool false, .int .i64 0] 38)).alloc (.cells #[.string ⟨#[97, 108, 108]⟩, .int .i64 0] 77)
theorem newW_ow (w : World) : OwNew (newW w) w.heap.size (newW w).heap.size (.agg #[.int .i64 0, .int .i64 0, .int .i64 0, .slice (some ⟨w.heap.size + 1, 0, none⟩) 1 1, .slice (some ⟨w.heap.size + 1 + 1, 0, none⟩) 1 1, .slice none 0 0, .slice none 0 0]) newSps newUses ∧ Below w.heap.size w (newW w) := by
  unfold newW
  obtain ⟨w1, h1⟩ : ∃ w1, w.alloc (.cells #[.int .i64 0, .int .i64 0, .int .i64 0, .slice (some ⟨w.heap.size + 1, 0, none⟩) 1 1, .slice (some ⟨w.heap.size + 1 + 1, 0, none⟩) 1 1, .slice none 0 0, .slice none 0 0] 42) = w1 := ⟨_, rfl⟩
  have z1 : w1.heap.size = w.heap.size + 1 := by rw [← h1, World.size_alloc]
  have b1 : Below w.heap.size w w1 := by rw [← h1]; exact below_alloc _ _
  rw [h1]
  have o2 := ownSpaces1 w1 w.heap.size (by omega)
  obtain ⟨w2, h2⟩ : ∃ w2, w1.alloc (.cells #[.string ⟨#[97, 108, 108]⟩, .string ⟨#[]⟩, .int .i64 (-1), .bool false, .int .i64 0] 38) = w2 := ⟨_, rfl⟩
  have z2 : w2.heap.size = w1.heap.size + 1 := by rw [← h2, World.size_alloc]
  have b2 : Below w.heap.size w w2 := by rw [← h2]; exact b1.alloc (by omega) _
  rw [h2] at o2 ⊢
  have o3 := ownUses1 w2 w2.heap.size (Nat.le_refl _)
  rw [z1] at o2
  rw [z2, z1] at o3
  exact ⟨⟨_, _, w2.heap.size, rfl, ⟨by omega, by rw [World.size_alloc]; omega⟩, o2.below (below_alloc _ _), by rw [z2, z1]; exact o3⟩, b2.alloc (by omega) _⟩
set_option maxRecDepth 100000 in
set_option maxHeartbeats 1000000 in
theorem specNew_any (w : World) : Calls Try.prog 18 #[] w fun e w' => ∃ v, e = .returned v ∧ OwNew w' w.heap.size w'.heap.size v newSps newUses ∧ Below w.heap.size w w' := by
  have H := newW_ow w
  unfold newW at H
  have HN := Lib.hid H
  clear H
  go_enter Try.func18, Try.ntmps18
  go_wp2
  exact bodyPost_ret (v := .agg #[.int .i64 0, .int .i64 0, .int .i64 0, .slice (some ⟨w.heap.size + 1, 0, none⟩) 1 1, .slice (some ⟨w.heap.size + 1 + 1, 0, none⟩) 1 1, .slice none 0 0, .slice none 0 0]) (by simp [results, Try.results18, go_sem]) rfl ⟨_, rfl, HN.out.1, HN.out.2⟩
set_option maxRecDepth 100000 in
set_option maxHeartbeats 1000000 in
theorem implNew_any (w : World) : Calls Try.prog 19 #[] w fun e w' => ∃ v, e = .returned v ∧ OwNew w' w.heap.size w'.heap.size v newSps newUses ∧ Below w.heap.size w w' := by
  have H := newW_ow w
  unfold newW at H
  have HN := Lib.hid H
  clear H
  go_enter Try.func19, Try.ntmps19
  go_wp2
  exact bodyPost_ret (v := .agg #[.int .i64 0, .int .i64 0, .int .i64 0, .slice (some ⟨w.heap.size + 1, 0, none⟩) 1 1, .slice (some ⟨w.heap.size + 1 + 1, 0, none⟩) 1 1, .slice none 0 0, .slice none 0 0]) (by simp [results, Try.results19, go_sem]) rfl ⟨_, rfl, HN.out.1, HN.out.2⟩
theorem markThNil (k : Int) (w : World) : Calls Try.prog 54 #[.slice none 0 0, .int .i64 k] w fun e w' => e = .returned (.int .i64 k) ∧ w = w' := by
  go_enter Try.func54, Try.ntmps54
  go_wp2
  refine wp_loop_rounds 1 ?_
  rw [rounds_succ]
  go_wp2
  go_ret
  exact ⟨rfl, rfl⟩
theorem heldThNil (k : Int) (w : World) : Calls Try.prog 58 #[.slice none 0 0, .int .i64 k] w fun e w' => e = .returned (.int .i64 k) ∧ w = w' := by
  go_enter Try.func58, Try.ntmps58
  go_wp2
  refine wp_loop_rounds 1 ?_
  rw [rounds_succ]
  go_wp2
  go_ret
  exact ⟨rfl, rfl⟩
theorem markPsNil (k : Int) (w : World) : Calls Try.prog 55 #[.slice none 0 0, .int .i64 k] w fun e w' => e = .returned (.int .i64 k) ∧ w = w' := by
  go_enter Try.func55, Try.ntmps55
  go_wp2
  refine wp_loop_rounds 1 ?_
  rw [rounds_succ]
  go_wp2
  go_ret
  exact ⟨rfl, rfl⟩
theorem heldPsNil (k : Int) (w : World) : Calls Try.prog 59 #[.slice none 0 0, .int .i64 k] w fun e w' => e = .returned (.int .i64 k) ∧ w = w' := by
  go_enter Try.func59, Try.ntmps59
  go_wp2
  refine wp_loop_rounds 1 ?_
  rw [rounds_succ]
  go_wp2
  go_ret
  exact ⟨rfl, rfl⟩
set_option maxRecDepth 100000 in
set_option maxHeartbeats 1000000 in
theorem markNew_c {v : Value} {w : World} {base lim : Nat} (h : OwNew w base lim v newSps newUses) (hlim : lim ≤ w.heap.size) :
    Calls Try.prog 21 #[v, .int .i64 1] w fun e w' => e = .returned (.int .i64 8) ∧ OwNew w' base lim v (mksSpaceS 1 newSps) (mksUseS 6 newUses) ∧ KeptOut (fun b => base ≤ b ∧ b < lim) w w' := by
  obtain ⟨v3, v4, b, rfl, ⟨g1, g2⟩, h3, h4⟩ := h
  have H3 := Lib.hid h3
  have H4 := Lib.hid h4
  clear h3 h4
  go_enter Try.func21, Try.ntmps21
  go_wp2_with fail
  obtain ⟨w2, hA⟩ : ∃ wA, w.alloc (.cells #[.int .i64 0, .int .i64 0, .int .i64 0, v3, v4, .slice none 0 0, .slice none 0 0] 42) = wA := ⟨_, rfl⟩
  have BX := Lib.hid (show Box w2 w.heap.size [.int .i64 0, .int .i64 0, .int .i64 0, v3, v4, .slice none 0 0, .slice none 0 0] by rw [← hA]; exact Box.alloc w _ _)
  have B2 := Lib.hid (show Below w.heap.size w w2 by rw [← hA]; exact below_alloc _ _)
  rw [hA]
  clear hA
  refine (markSpaceS_c (H3.out.below B2.out) (by omega) (by omega) (by simp [numSpaceS, newSps])).mono ?_
  rintro e w3 ⟨rfl, o3, k3⟩
  rw [show (1 : Int) + numSpaceS newSps = 6 from rfl]
  have BX3 := Lib.hid (BX.out.kept k3 (by omega))
  have x4 := (BX3.out 4 _ rfl).1
  have O3 := Lib.hid o3
  have K3 := Lib.hid k3
  have O4 := Lib.hid ((H4.out.below B2.out).kept k3 (fun q h1 h2 => by omega))
  clear o3 k3
  go_wp2_with fail
  refine (markUseS_c O4.out (by omega) (by omega) (by simp [numUseS, newUses])).mono ?_
  rintro e w4 ⟨rfl, o4, k4⟩
  rw [show (6 : Int) + numUseS newUses = 8 from rfl]
  have BX4 := Lib.hid (BX3.out.kept k4 (by omega))
  have x5 := (BX4.out 5 _ rfl).1
  have x6 := (BX4.out 6 _ rfl).1
  have O5 := Lib.hid o4
  have K4 := Lib.hid ((K3.out.mono (T := fun b => base ≤ b ∧ b < lim) (fun q _ h => by omega)).trans (k4.mono (T := fun b => base ≤ b ∧ b < lim) (fun q _ h => by omega)))
  have O6 := Lib.hid (O3.out.kept k4 (fun q h1 h2 => by omega))
  clear o4 k4 x4
  go_wp2_with fail
  refine (markThNil 8 w4).mono ?_
  rintro e w5 ⟨rfl, rfl⟩
  go_wp2_with fail
  refine (markPsNil 8 w4).mono ?_
  rintro e w5 ⟨rfl, rfl⟩
  go_wp2
  go_ret
  exact ⟨rfl, ⟨v3, v4, b, rfl, ⟨g1, g2⟩, O6.out, O5.out⟩, (KeptOut.of_below (S := fun b => base ≤ b ∧ b < lim) B2.out).trans K4.out⟩
set_option maxRecDepth 100000 in
set_option maxHeartbeats 1000000 in
theorem heldNew_c {v : Value} {w : World} {base lim : Nat} (h : OwNew w base lim v (mksSpaceS 1 newSps) (mksUseS 6 newUses)) :
    Calls Try.prog 22 #[v, .int .i64 1] w fun e w' => e = .returned (.int .i64 8) ∧ Below w.heap.size w w' := by
  obtain ⟨v3, v4, b, rfl, ⟨g1, g2⟩, h3, h4⟩ := h
  have H3 := Lib.hid h3.vw
  have H4 := Lib.hid h4.vw
  clear h3 h4
  go_enter Try.func22, Try.ntmps22
  go_wp2_with fail
  obtain ⟨w2, hA⟩ : ∃ wA, w.alloc (.cells #[.int .i64 0, .int .i64 0, .int .i64 0, v3, v4, .slice none 0 0, .slice none 0 0] 42) = wA := ⟨_, rfl⟩
  have BX := Lib.hid (show Box w2 w.heap.size [.int .i64 0, .int .i64 0, .int .i64 0, v3, v4, .slice none 0 0, .slice none 0 0] by rw [← hA]; exact Box.alloc w _ _)
  have B2 := Lib.hid (show Below w.heap.size w w2 by rw [← hA]; exact below_alloc _ _)
  have z2 := B2.out.size
  rw [hA]
  clear hA
  refine (heldSpaceS_c (l := newSps) (H3.out.below B2.out) (by omega) (by omega) (by simp [numSpaceS, newSps])).mono ?_
  rintro e w3 ⟨rfl, b3⟩
  rw [show (1 : Int) + numSpaceS newSps = 6 from rfl]
  have BX3 := Lib.hid (BX.out.below b3)
  have x4 := (BX3.out 4 _ rfl).1
  have B3 := Lib.hid (B2.out.trans (b3.mono z2))
  have z3 := b3.size
  clear b3
  go_wp2_with fail
  refine (heldUseS_c (l := newUses) (H4.out.below B3.out) (by omega) (by omega) (by simp [numUseS, newUses])).mono ?_
  rintro e w4 ⟨rfl, b4⟩
  rw [show (6 : Int) + numUseS newUses = 8 from rfl]
  have BX4 := Lib.hid (BX3.out.below b4)
  have x5 := (BX4.out 5 _ rfl).1
  have x6 := (BX4.out 6 _ rfl).1
  have B4 := Lib.hid (B3.out.trans (b4.mono (by omega)))
  clear b4 x4
  go_wp2_with fail
  refine (heldThNil 8 w4).mono ?_
  rintro e w5 ⟨rfl, rfl⟩
  go_wp2_with fail
  refine (heldPsNil 8 w4).mono ?_
  rintro e w5 ⟨rfl, rfl⟩
  go_wp2
  go_ret
  exact ⟨rfl, B4.out⟩
set_option maxRecDepth 100000 in
set_option maxHeartbeats 2000000 in
theorem fnExactModelNewWalk {w : World} :
    Calls Try.prog 5 #[] w fun e w' => e = .returned (.bool true) ∧ Below w.heap.size w w' := by
  go_enter Try.func5, Try.ntmps5
  go_wp2_with fail
  refine (specNew_any w).mono ?_
  rintro e w1 ⟨v1, rfl, o1, b1⟩
  obtain ⟨p3, p4, p5, rfl, gp, hp3, hp4⟩ := id o1
  obtain ⟨a3, n3, c3, rfl⟩ := hp3.shape
  obtain ⟨a4, n4, c4, rfl⟩ := hp4.shape
  have O1 := Lib.hid o1
  have B1 := Lib.hid b1
  have z1 := b1.size
  clear o1 b1 hp3 hp4 gp
  go_wp2_with fail
  obtain ⟨w2, hA⟩ : ∃ wA, w1.alloc (.cells #[.int .i64 0, .int .i64 0, .int .i64 0, .slice a3 n3 c3, .slice a4 n4 c4, .slice none 0 0, .slice none 0 0] 42) = wA := ⟨_, rfl⟩
  have BX := Lib.hid (show Box w2 w1.heap.size [.int .i64 0, .int .i64 0, .int .i64 0, .slice a3 n3 c3, .slice a4 n4 c4, .slice none 0 0, .slice none 0 0] by rw [← hA]; exact Box.alloc w1 _ _)
  have A2 : Below w1.heap.size w1 w2 := by rw [← hA]; exact below_alloc _ _
  have z2 : w2.heap.size = w1.heap.size + 1 := by rw [← hA, World.size_alloc]
  have O2 := Lib.hid (O1.out.below A2)
  have B2 := Lib.hid (B1.out.trans (A2.mono z1))
  rw [hA]
  clear hA A2 O1 B1
  refine (implNew_any w2).mono ?_
  rintro e w3 ⟨v2, rfl, o3, b3⟩
  obtain ⟨q3, q4, q5, rfl, gp, hp3, hp4⟩ := id o3
  obtain ⟨d3, m3, e3, rfl⟩ := hp3.shape
  obtain ⟨d4, m4, e4, rfl⟩ := hp4.shape
  have O3 := Lib.hid o3
  have P3 := Lib.hid (O2.out.below b3)
  have BX3 := Lib.hid (BX.out.below b3)
  have B3 := Lib.hid (B2.out.trans (b3.mono (by omega)))
  have z3 := b3.size
  clear o3 b3 hp3 hp4 gp O2 BX B2
  have C4 := BX3.out.below (below_alloc w3 (.cells #[.int .i64 0, .int .i64 0, .int .i64 0, .slice d3 m3 e3, .slice d4 m4 e4, .slice none 0 0, .slice none 0 0] 42))
  obtain ⟨⟨x0, _⟩, ⟨x1, _⟩, ⟨x2, _⟩, ⟨x3, _⟩, ⟨x4, _⟩, ⟨x5, _⟩, x6, _⟩ := show _ ∧ _ ∧ _ ∧ _ ∧ _ ∧ _ ∧ _ from ⟨C4 0 _ rfl, C4 1 _ rfl, C4 2 _ rfl, C4 3 _ rfl, C4 4 _ rfl, C4 5 _ rfl, C4 6 _ rfl⟩
  clear C4
  go_wp2_with fail
  obtain ⟨w4, hA⟩ : ∃ wA, w3.alloc (.cells #[.int .i64 0, .int .i64 0, .int .i64 0, .slice d3 m3 e3, .slice d4 m4 e4, .slice none 0 0, .slice none 0 0] 42) = wA := ⟨_, rfl⟩
  have A4 : Below w3.heap.size w3 w4 := by rw [← hA]; exact below_alloc _ _
  have BY := Lib.hid (show Box w4 w3.heap.size [.int .i64 0, .int .i64 0, .int .i64 0, .slice d3 m3 e3, .slice d4 m4 e4, .slice none 0 0, .slice none 0 0] by rw [← hA]; exact Box.alloc w3 _ _)
  have z4 : w4.heap.size = w3.heap.size + 1 := by rw [← hA, World.size_alloc]
  have HZ4 := Lib.hid z4
  rw [hA]
  have BX4 := Lib.hid (BX3.out.below A4)
  have O4 := Lib.hid (O3.out.below A4)
  have P4 := Lib.hid (P3.out.below A4)
  have B4 := Lib.hid (B3.out.trans (A4.mono (by omega)))
  have z4' : w3.heap.size < w4.heap.size := by omega
  clear hA A4 z4 BX3 O3 P3 B3 x0 x1 x2 x3 x4 x5 x6
  refine (eqModel_c O4.out.vw P4.out.vw).mono ?_
  rintro e w5 ⟨rfl, b5⟩
  have BX5 := Lib.hid (BX4.out.below b5)
  have BY5 := BY.out.below b5
  have O5 := Lib.hid (O4.out.below b5)
  have P5 := Lib.hid (P4.out.below b5)
  have B5 := Lib.hid (B4.out.trans (b5.mono (by omega)))
  have z5 := b5.size
  have HBY5 := Lib.hid BY5
  obtain ⟨⟨y0, _⟩, ⟨y1, _⟩, ⟨y2, _⟩, ⟨y3, _⟩, ⟨y4, _⟩, ⟨y5, _⟩, y6, _⟩ := show _ ∧ _ ∧ _ ∧ _ ∧ _ ∧ _ ∧ _ from ⟨BY5 0 _ rfl, BY5 1 _ rfl, BY5 2 _ rfl, BY5 3 _ rfl, BY5 4 _ rfl, BY5 5 _ rfl, BY5 6 _ rfl⟩
  clear b5 BX4 BY O4 P4 B4 BY5
  go_wp2_with fail
  refine (markNew_c O5.out (by omega)).mono ?_
  rintro e w6 ⟨rfl, o6, k6⟩
  have z6 := k6.size
  have BX6 := Lib.hid (BX5.out.kept k6 (by omega))
  have BY6 := HBY5.out.kept k6 (by omega)
  have O6 := Lib.hid o6
  have P6 := Lib.hid (P5.out.kept k6 (fun q h1 h2 => by omega))
  have B6 := Lib.hid (show Below w.heap.size w w6 from k6.below B5.out B5.out.size (fun q hq => by omega))
  have HBY6 := Lib.hid BY6
  clear y0 y1 y2 y3 y4 y5 y6
  obtain ⟨⟨y0, _⟩, ⟨y1, _⟩, ⟨y2, _⟩, ⟨y3, _⟩, ⟨y4, _⟩, ⟨y5, _⟩, y6, _⟩ := show _ ∧ _ ∧ _ ∧ _ ∧ _ ∧ _ ∧ _ from ⟨BY6 0 _ rfl, BY6 1 _ rfl, BY6 2 _ rfl, BY6 3 _ rfl, BY6 4 _ rfl, BY6 5 _ rfl, BY6 6 _ rfl⟩
  clear o6 k6 BX5 HBY5 O5 P5 B5 BY6
  go_wp2_with fail
  refine (heldNew_c O6.out).mono ?_
  rintro e w7 ⟨rfl, b7⟩
  have z7 := b7.size
  have BX7 := Lib.hid (BX6.out.below b7)
  have BY7 := Lib.hid (HBY6.out.below b7)
  have O7 := Lib.hid (O6.out.below b7)
  have P7 := Lib.hid (P6.out.below b7)
  have B7 := Lib.hid (B6.out.trans (b7.mono (by omega)))
  clear b7 BX6 HBY6 O6 P6 B6 y0 y1 y2 y3 y4 y5 y6
  go_wp2_with fail
  refine (implNew_any w7).mono ?_
  rintro e w8 ⟨v3, rfl, o8, b8⟩
  obtain ⟨q3, q4, q5, rfl, gp, hp3, hp4⟩ := id o8
  obtain ⟨f3, l3, i3, rfl⟩ := hp3.shape
  obtain ⟨f4, l4, i4, rfl⟩ := hp4.shape
  have z8 := b8.size
  have N8 := Lib.hid o8
  have BX8 := Lib.hid (BX7.out.below b8)
  have BY8 := Lib.hid (BY7.out.below b8)
  have O8 := Lib.hid (O7.out.below b8)
  have P8 := Lib.hid (P7.out.below b8)
  have B8 := Lib.hid (B7.out.trans (b8.mono (by omega)))
  clear o8 b8 hp3 hp4 gp BX7 BY7 O7 P7 B7
  have C9 := BX8.out.below (below_alloc w8 (.cells #[.int .i64 0, .int .i64 0, .int .i64 0, .slice f3 l3 i3, .slice f4 l4 i4, .slice none 0 0, .slice none 0 0] 42))
  obtain ⟨⟨x0, _⟩, ⟨x1, _⟩, ⟨x2, _⟩, ⟨x3, _⟩, ⟨x4, _⟩, ⟨x5, _⟩, x6, _⟩ := show _ ∧ _ ∧ _ ∧ _ ∧ _ ∧ _ ∧ _ from ⟨C9 0 _ rfl, C9 1 _ rfl, C9 2 _ rfl, C9 3 _ rfl, C9 4 _ rfl, C9 5 _ rfl, C9 6 _ rfl⟩
  clear C9
  go_wp2_with fail
  obtain ⟨w9, hA⟩ : ∃ wA, w8.alloc (.cells #[.int .i64 0, .int .i64 0, .int .i64 0, .slice f3 l3 i3, .slice f4 l4 i4, .slice none 0 0, .slice none 0 0] 42) = wA := ⟨_, rfl⟩
  have A9 : Below w8.heap.size w8 w9 := by rw [← hA]; exact below_alloc _ _
  have z9 := A9.size
  rw [hA]
  have BY9 := Lib.hid (BY8.out.below A9)
  have N9 := Lib.hid (N8.out.below A9)
  have O9 := Lib.hid (O8.out.below A9)
  have P9 := Lib.hid (P8.out.below A9)
  have B9 := Lib.hid (B8.out.trans (A9.mono (by omega)))
  clear hA A9 BX8 BY8 N8 O8 P8 B8 x0 x1 x2 x3 x4 x5 x6
  refine (eqModel_c N9.out.vw P9.out.vw).mono ?_
  rintro e w10 ⟨rfl, b10⟩
  have BY10 := BY9.out.below b10
  have O10 := Lib.hid (O9.out.below b10)
  have B10 := Lib.hid (B9.out.trans (b10.mono (by omega)))
  have z10 := b10.size
  obtain ⟨⟨y0, _⟩, ⟨y1, _⟩, ⟨y2, _⟩, ⟨y3, _⟩, ⟨y4, _⟩, ⟨y5, _⟩, y6, _⟩ := show _ ∧ _ ∧ _ ∧ _ ∧ _ ∧ _ ∧ _ from ⟨BY10 0 _ rfl, BY10 1 _ rfl, BY10 2 _ rfl, BY10 3 _ rfl, BY10 4 _ rfl, BY10 5 _ rfl, BY10 6 _ rfl⟩
  clear b10 BY10 BY9 N9 O9 P9 B9
  go_wp2_with fail
  refine (heldNew_c O10.out).mono ?_
  rintro e w11 ⟨rfl, b11⟩
  have B11 := Lib.hid (B10.out.trans (b11.mono (by omega)))
  clear y0 y1 y2 y3 y4 y5 y6
  go_wp2
  go_ret
  exact ⟨rfl, B11.out⟩
end Go.Proofs.Ytbdicaanniffpab
