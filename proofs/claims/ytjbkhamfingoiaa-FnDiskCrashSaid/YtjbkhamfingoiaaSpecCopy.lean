import Derived.Test.YtjbkhamfingoiaaDriveTop
import Derived.Test.YtjbkhamfingoiaaApp
/- l2Copy of the model: the same disk in memory of its own. -/
namespace Go.Proofs.Ytjbkhamfingoiaa
open Go Go.RowKit

theorem KeptOut.alloc {S : Nat → Prop} {w0 w : World} (h : KeptOut S w0 w) (o : Obj) : KeptOut S w0 (w.alloc o) := h.trans (.of_below (below_alloc w o))
theorem KeptOut.drew {S : Nat → Prop} {w0 w : World} (h : KeptOut S w0 w) : KeptOut S w0 w.drew := h.trans (.of_below ((Below.refl _ _).drew))
theorem KeptOut.grown {S : Nat → Prop} {w0 w w' : World} (h : KeptOut S w0 w) {o : Option Nat} (hg : w.grownBy w' o) (ho : ∀ k, o = some k → w0.heap.size ≤ k) : KeptOut S w0 w' :=
  ⟨hg.os.trans h.os, hg.tape.trans h.tape, hg.output.trans h.output, Nat.le_trans h.size hg.size, fun k hk hn => (hg.block k (Nat.lt_of_lt_of_le hk h.size) (fun e => by have := ho k e.symm; omega)).trans (h.block k hk hn)⟩

theorem below_app {B : Nat} {w0 W w1 : World} {g n c : Nat} (h : Below B w0 W) (hB : B ≤ W.heap.size) (hg : W.grownBy w1 (Value.slice (some ⟨g, 0, none⟩) n c).ownBlock) (hk : B ≤ g) : Below B w0 w1 :=
  h.grown hg hB (fun k e => by
    have e2 : g = k := Option.some.inj e
    omega)
theorem own_other {w w' : World} {base : Nat} {e : TypeId} {size : Nat} {v : Value} {n : Nat} {xs : List Value} {g n' c' : Nat} (h : w.ownsRow base e size v n xs) (hg : w.grownBy w' (Value.slice (some ⟨g, 0, none⟩) n' c').ownBlock) (hne : ∀ k, v.ownBlock = some k → k ≠ g) : w'.ownsRow base e size v n xs :=
  h.kept hg (by
    cases hv : v.ownBlock with
    | none => exact .inl rfl
    | some k => exact .inr (fun e => hne k hv (Option.some.inj e)))
theorem at_cases {v : Value} {g n c m y : Nat} (h : v.ownBlock = (Value.slice (some ⟨g, 0, none⟩) n c).ownBlock ∨ v.ownBlock = some m) (hy : v.ownBlock = some y) : y = g ∨ y = m := by
  rcases h with h | h
  · rw [h] at hy; exact .inl (Option.some.inj hy).symm
  · rw [h] at hy; exact .inr (Option.some.inj hy).symm
theorem own_lit0 {base : Nat} (W : World) (e : TypeId) (size g : Nat) (hg : g = W.heap.size) (h : base ≤ W.heap.size) : (W.alloc (.cells #[] e)).ownsRow base e size (.slice (some ⟨g, 0, none⟩) 0 0) 0 [] := by
  subst hg
  exact World.ownsRow_lit W #[] 0 h (by unfold maxLen; omega) (by simp)
theorem own_blk {g n c k : Nat} (h : (Value.slice (some ⟨g, 0, none⟩) n c).ownBlock = some k) : k = g := (Option.some.inj h).symm

set_option maxRecDepth 100000 in
set_option maxHeartbeats 800000 in
theorem copy_any (v : Value) (d : DiskD) (w : World) (hv : DiskR w v d) (hl1 : d.1.length ≤ 1048576) (hl2 : d.2.1.length ≤ 1048577) :
    Calls Try.prog 54 #[v] w (TopPost w d) := by
  obtain ⟨a, ca, b, cb, rfl, hs, hw, hok⟩ := hv
  obtain ⟨ds, dw, dl⟩ := d
  simp only at hs hw hok hl1 hl2
  dsimp only
  obtain ⟨i0, hi, hz0, hz1, hz2⟩ := info_parts infoStr
  obtain ⟨j0, hj, hy0, hy1, hy2⟩ := info_parts infoWait
  go_enter Try.func54, Try.ntmps54
  go_wp2
  have TB := two_box (w := w) (xs := #[Value.slice a ds.length ca, Value.slice b dw.length cb, Value.int IntKind.i64 dl]) (ys := #[Value.slice none 0 0, Value.slice none 0 0, Value.int IntKind.i64 0]) (t1 := 26) (t2 := 26) (Below.refl _ _)
  generalize ((w.alloc (Obj.cells #[Value.slice a ds.length ca, Value.slice b dw.length cb, Value.int IntKind.i64 dl] 26)).alloc (Obj.cells #[Value.slice none 0 0, Value.slice none 0 0, Value.int IntKind.i64 0] 26)) = w0 at TB ⊢
  obtain ⟨BX, BZ, B0, S0⟩ := TB
  have X0 := (BX 0 _ rfl).1
  have X1 := (BX 1 _ rfl).1
  have X2 := (BX 2 _ rfl).1
  have hsrc1 := Lib.hid ((src_str hs).below B0)
  have hsrc2 := Lib.hid ((src_el encWait_len (by omega) hw).below B0)
  have l0 : w.heap.size < w0.heap.size := by omega
  have KS : ∀ w' : World, KeptOut (fun k => k = w.heap.size + 1) w0 w' → w'.cell? ⟨w.heap.size, 0, none⟩ = some (.slice a ds.length ca) ∧ w'.cell? ⟨w.heap.size, 1, none⟩ = some (.slice b dw.length cb) ∧ w'.cell? ⟨w.heap.size, 2, none⟩ = some (.int .i64 dl) ∧ KeptOut (fun k => k = w.heap.size + 1) w0 w' :=
    fun w' h => ⟨(h.cell (p := ⟨w.heap.size, 0, none⟩) l0 (by simp)).trans X0, (h.cell (p := ⟨w.heap.size, 1, none⟩) l0 (by simp)).trans X1, (h.cell (p := ⟨w.heap.size, 2, none⟩) l0 (by simp)).trans X2, h⟩
  have h1c : ∀ u ∈ dw.flatMap encWait, u.oneCell' = true := by
    intro u hu
    rw [List.mem_flatMap] at hu
    obtain ⟨x, _, hx⟩ := hu
    simp only [encWait, List.mem_cons, List.not_mem_nil, or_false] at hx
    rcases hx with rfl | rfl <;> rfl
  go_region_held3 (fun w' => w'.cell? ⟨w.heap.size, 0, none⟩ = some (.slice a ds.length ca) ∧ w'.cell? ⟨w.heap.size, 1, none⟩ = some (.slice b dw.length cb) ∧ w'.cell? ⟨w.heap.size, 2, none⟩ = some (.int .i64 dl) ∧ KeptOut (fun k => k = w.heap.size + 1) w0 w')
    ((refine KS _ ?_; (repeat (first | exact KeptOut.refl _ _ | exact b1 | exact b2 | refine KeptOut.drew ?_ | refine KeptOut.alloc ?_ _ | refine KeptOut.setCell ?_ (by exact rfl) _))))
    (first
      | (refine step_append_src _ rfl (.tmp 3) (.tmp 5) 23 rfl w0.heap.size 9 i0 (.string ⟨#[]⟩) 1 16 Try.underlying23 hi hz0 hz1 hz2 rfl (by decide) (.slice (some ⟨_, 0, none⟩) 0 0) 0 [] rfl ((own_lit0 w0 9 1 _ rfl (Nat.le_refl _)).drew) a ds.length ca (ds.map .string) rfl (hsrc1.out.below ((below_alloc w0 _).drew)) (by simp [Value.oneCell']) (by unfold maxLen; omega) (by omega) (by simp; try omega) ?_; intro v1 w1 o1 g1 at1; rw [Nat.zero_add, List.nil_append] at o1; obtain ⟨a1, c1, rfl⟩ := own_shape o1; have B1 : Below w0.heap.size w0 w1 := below_app ((below_alloc w0 _).drew) (by simp; try omega) g1 (by omega); have b1 : KeptOut (fun k => k = w.heap.size + 1) w0 w1 := .of_below B1; have z1 := B1.size)
      | (refine step_append_src _ rfl (.tmp 3) (.tmp 5) 23 rfl w0.heap.size 9 i0 (.string ⟨#[]⟩) 1 16 Try.underlying23 hi hz0 hz1 hz2 rfl (by decide) (.slice (some ⟨_, 0, none⟩) 0 0) 0 [] rfl (((own_lit0 w0 9 1 _ rfl (Nat.le_refl _)).alloc _).drew) a ds.length ca (ds.map .string) rfl (hsrc1.out.below (((below_alloc w0 _).alloc (by simp) _).drew)) (by simp [Value.oneCell']) (by unfold maxLen; omega) (by omega) (by simp; try omega) ?_; intro v1 w1 o1 g1 at1; rw [Nat.zero_add, List.nil_append] at o1; obtain ⟨a1, c1, rfl⟩ := own_shape o1; have B1 : Below w0.heap.size w0 w1 := below_app (((below_alloc w0 _).alloc (by simp) _).drew) (by simp; try omega) g1 (by omega); have b1 : KeptOut (fun k => k = w.heap.size + 1) w0 w1 := .of_below B1; have z1 := B1.size; have o7 : w1.ownsRow w0.heap.size 43 2 (.slice (some ⟨w0.heap.size + 1, 0, none⟩) 0 0) 0 [] := own_other (own_lit0 (w0.alloc _) 43 2 _ (by simp) (by simp)).drew g1 (fun k hk => by have := own_blk hk; omega); have n1 : ∀ x, (Value.slice a1 ds.length c1).ownBlock = some x → x = w0.heap.size ∨ x = w0.heap.size + 2 := fun x hx => by have := at_cases at1 hx; simp at this; omega)
      | (refine step_append_src _ rfl (.tmp 3) (.tmp 5) 23 rfl w0.heap.size 9 i0 (.string ⟨#[]⟩) 1 16 Try.underlying23 hi hz0 hz1 hz2 rfl (by decide) (.slice (some ⟨_, 0, none⟩) 0 0) 0 [] rfl ((own_lit0 (w0.alloc _) 9 1 (w0.heap.size + 1) (by simp) (by simp)).drew) a ds.length ca (ds.map .string) rfl (hsrc1.out.below (((below_alloc w0 _).alloc (by simp) _).drew)) (by simp [Value.oneCell']) (by unfold maxLen; omega) (by omega) (by simp; try omega) ?_; intro v1 w1 o1 g1 at1; rw [Nat.zero_add, List.nil_append] at o1; obtain ⟨a1, c1, rfl⟩ := own_shape o1; have B1 : Below w0.heap.size w0 w1 := below_app (((below_alloc w0 _).alloc (by simp) _).drew) (by simp; try omega) g1 (by omega); have b1 : KeptOut (fun k => k = w.heap.size + 1) w0 w1 := .of_below B1; have z1 := B1.size; have o7 : w1.ownsRow w0.heap.size 43 2 (.slice (some ⟨w0.heap.size, 0, none⟩) 0 0) 0 [] := own_other ((own_lit0 w0 43 2 _ rfl (Nat.le_refl _)).alloc _).drew g1 (fun k hk => by have := own_blk hk; omega); have n1 : ∀ x, (Value.slice a1 ds.length c1).ownBlock = some x → x = w0.heap.size + 1 ∨ x = w0.heap.size + 2 := fun x hx => by have := at_cases at1 hx; simp at this; omega)
      | (refine step_append_src _ rfl (.tmp 7) (.tmp 9) 24 rfl w0.heap.size 43 j0 (.agg #[.int .i64 0, .string ⟨#[]⟩]) 2 24 Try.underlying24 hj hy0 hy1 hy2 rfl (by decide) (.slice (some ⟨_, 0, none⟩) 0 0) 0 [] rfl (own_lit0 w1 43 2 _ rfl z1) b dw.length cb (dw.flatMap encWait) rfl (hsrc2.out.below (B1.alloc z1 _)) h1c (by unfold maxLen; omega) (by omega) (by first | omega | (simp; omega)) ?_; intro v2 w2 o2 g2 at2; rw [Nat.zero_add, List.nil_append] at o2; obtain ⟨a2, c2, rfl⟩ := own_shape o2; have B2 : Below w0.heap.size w0 w2 := below_app (B1.alloc z1 _) (by first | omega | (simp; omega)) g2 (by omega); have b2 : KeptOut (fun k => k = w.heap.size + 1) w0 w2 := .of_below B2; have z2 := B2.size; have q0 := (BZ.below B2) 0 _ rfl; have q1 := (BZ.below B2) 1 _ rfl; have q2 := (BZ.below B2) 2 _ rfl; obtain ⟨y0, f0⟩ := q0; obtain ⟨y1, f1⟩ := q1; obtain ⟨y2, f2⟩ := q2; have O1 : w2.ownsRow w0.heap.size 9 1 (.slice a1 ds.length c1) ds.length (ds.map .string) := own_other (o1.alloc _) g2 (fun k hk => by have := (o1.lt k hk).2; omega); have N : ∀ x y, (Value.slice a1 ds.length c1).ownBlock = some x → (Value.slice a2 dw.length c2).ownBlock = some y → x ≠ y := fun x y hx hy => by have h1 := (o1.lt x hx).2; have h2 := at_cases at2 hy; simp at h2; omega)
      | (refine step_append_src _ rfl (.tmp 7) (.tmp 9) 24 rfl w0.heap.size 43 j0 (.agg #[.int .i64 0, .string ⟨#[]⟩]) 2 24 Try.underlying24 hj hy0 hy1 hy2 rfl (by decide) (.slice (some ⟨_, 0, none⟩) 0 0) 0 [] rfl (o7) b dw.length cb (dw.flatMap encWait) rfl (hsrc2.out.below (B1)) h1c (by unfold maxLen; omega) (by omega) (by first | omega | (simp; omega)) ?_; intro v2 w2 o2 g2 at2; rw [Nat.zero_add, List.nil_append] at o2; obtain ⟨a2, c2, rfl⟩ := own_shape o2; have B2 : Below w0.heap.size w0 w2 := below_app (B1) (by first | omega | (simp; omega)) g2 (by omega); have b2 : KeptOut (fun k => k = w.heap.size + 1) w0 w2 := .of_below B2; have z2 := B2.size; have q0 := (BZ.below B2) 0 _ rfl; have q1 := (BZ.below B2) 1 _ rfl; have q2 := (BZ.below B2) 2 _ rfl; obtain ⟨y0, f0⟩ := q0; obtain ⟨y1, f1⟩ := q1; obtain ⟨y2, f2⟩ := q2; have O1 : w2.ownsRow w0.heap.size 9 1 (.slice a1 ds.length c1) ds.length (ds.map .string) := own_other o1 g2 (fun k hk => by have := n1 k hk; omega); have N : ∀ x y, (Value.slice a1 ds.length c1).ownBlock = some x → (Value.slice a2 dw.length c2).ownBlock = some y → x ≠ y := fun x y hx hy => by have h1 := (o1.lt x hx).2; have h3 := n1 x hx; have h2 := at_cases at2 hy; omega))
  all_goals
    go_wp2
    have D := put_disk (b := w.heap.size + 1) (v := .agg #[.slice a1 ds.length c1, .slice a2 dw.length c2, .int .i64 dl]) (x := (ds, dw, dl)) ⟨a1, c1, a2, c2, rfl, O1, o2, N⟩ S0 (.slice a1 ds.length c1) (.slice a2 dw.length c2) (.int .i64 dl)
    have B := put_below (B0.trans (B2.mono (by omega))) (show w.heap.size ≤ w.heap.size + 1 by omega) (.slice a1 ds.length c1) (.slice a2 dw.length c2) (.int .i64 dl)
    exact bodyPost_ret (v := .agg #[.slice a1 ds.length c1, .slice a2 dw.length c2, .int .i64 dl]) (by simp [results, Try.results54, go_sem, y0, y1, y2]) rfl ⟨_, rfl, D.mono (by omega), B⟩
end Go.Proofs.Ytjbkhamfingoiaa
