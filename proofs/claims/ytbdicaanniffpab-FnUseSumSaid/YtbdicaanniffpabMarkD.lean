import Derived.Test.YtbdicaanniffpabIns
import Derived.Deep.RegionHeld3
import Derived.Deep.QuietTactic
import Derived.BigQuiet
/- l13Mark: words with one more, in order, once. -/
namespace Go.Proofs.Ytbdicaanniffpab
open Go Go.RowKit

theorem infoStrD : (Try.prog.info? 9).map (fun i => (i.zero, i.size, i.bytes)) = some (some (.string ⟨#[]⟩), 1, 16) := by kernel_rfl
def encS1 (s : ByteArray) : List Value := [.string s]
theorem encS1_len (s : ByteArray) : (encS1 s).length = 1 := rfl
theorem one_s1 {l : List ByteArray} {u : Value} (hu : u ∈ l.flatMap encS1) : u.oneCell' = true := by
  obtain ⟨x, _, hx⟩ := List.mem_flatMap.1 hu
  simp only [encS1, List.mem_cons, List.not_mem_nil, or_false] at hx
  rcases hx with rfl
  rfl
/-- a list of short words, read at a slice -/
def MkS (w : World) (B : Nat) (v : Value) (R : List ByteArray) : Prop := ∃ a c, v = .slice a R.length c ∧ R.length ≤ c ∧ ElS 1 encS1 w a R ∧ ((a = none ∧ c = 0 ∧ R = []) ∨ (R ≠ [] ∧ ∃ g, a = some ⟨g, 0, none⟩ ∧ B ≤ g))
def MarkP (w : World) (B n : Nat) (e : Ending) (w' : World) : Prop := ∃ v R, e = .returned v ∧ MkS w' B v R ∧ (∀ s ∈ R, s.size ≤ 24) ∧ R.length ≤ n + 1 ∧ Below w.heap.size w w'
theorem own_capM {w : World} {base : Nat} {e : TypeId} {size : Nat} {a : Option Addr} {n c : Nat} {xs : List Value} (h : w.ownsRow base e size (.slice a n c) n xs) : n ≤ c := by
  rcases h.2 with ⟨hv, h0⟩ | ⟨g, cap, cur, hv, hb, hg, h1, h2, _⟩
  · omega
  · simp only [Value.slice.injEq] at hv
    omega
theorem own_el1 {w : World} {B base n : Nat} {e : TypeId} {a : Option Addr} {c : Nat} {R : List ByteArray} (hn : R.length = n) (hm : n ≤ maxLen) (hp : 0 < n) (hB : B ≤ base) (h : w.ownsRow base e 1 (.slice a n c) n (R.flatMap encS1)) : MkS w B (.slice a n c) R := by
  subst hn
  obtain ⟨g, rfl⟩ := own_some h hp
  exact ⟨_, c, rfl, own_capM h, own_el encS1_len hm h, .inr ⟨List.length_pos_iff.1 hp, g, rfl, Nat.le_trans hB (h.lt g rfl).1⟩⟩
theorem ins_small {L : List ByteArray} {x : ByteArray} (j : Nat) (h : ∀ s ∈ L, s.size ≤ 24) (hx : x.size ≤ 24) : ∀ s ∈ L.take j ++ x :: L.drop j, s.size ≤ 24 := by
  intro s hs
  rcases List.mem_append.1 hs with hs | hs
  · exact h s (List.mem_of_mem_take hs)
  · rcases List.mem_cons.1 hs with rfl | hs
    · exact hx
    · exact h s (List.mem_of_mem_drop hs)

theorem src_drop1 {w : World} {g k : Nat} {l : List ByteArray} (h : ElS 1 encS1 w (some ⟨g, 0, none⟩) l) : SrcS w 1 (some ⟨g, k, none⟩) (l.length - k) ((l.drop k).flatMap encS1) := by
  have := src_drop encS1_len (by decide) (k := k) h
  rwa [Nat.mul_one] at this
set_option maxRecDepth 100000 in
set_option maxHeartbeats 4000000 in
theorem mark_nil (B : Nat) (x : ByteArray) (hx : x.size ≤ 24) (w : World) (hBw : B ≤ w.heap.size) :
    Calls Try.prog 82 #[.slice none 0 0, .string x] w (MarkP w B 0) := by
  obtain ⟨i0, hi, hz0, hz1, hz2⟩ := info_parts infoStrD
  go_enter Try.func82, Try.ntmps82
  go_wp2_with fail
  refine wp_loop_rounds 1 ?_
  rw [rounds_succ]
  go_wp2_with fail
  have hw0 : ∃ w8, w.drew = w8 := ⟨_, rfl⟩
  refine wp_region_held_drew (S := fun _ => True) (by kernel_rfl) (trivial) (fun hHeld => ?_)
  obtain ⟨w8, hw8⟩ := hw0
  rw [hw8]
  have KS : ∀ W', Below w8.heap.size w8 W' → (fun _ => True) W' := fun W' hb => trivial
  have B8 : Below w8.heap.size w8 w8 := Below.refl _ _
  have B0 : Below w.heap.size w w8 := by rw [← hw8]; exact (Below.refl _ _).drew
  refine wpAnyH_take (i := 1) (oi := { dst := some 34, op := Op.move (Operand.tmp 0), type := 23, pos := "l13_draw.go:27", after := _, guard := none }) (v := ?_) rfl (by kernel_rfl) (by kernel_rfl) (by kernel_rfl) (fun _ _ _ h => h) (Or.inl ⟨by rfl, ?_⟩) (by first | assumption | trivial) ?_
  rotate_left
  · (intro w hSw; (try dsimp only at hSw); go_simp; (try with_reducible rfl))
  simp only [Act.put, List.setIfInBounds_toArray, List.set_cons_zero, List.set_cons_succ]
  refine wpAnyH_take (i := 2) (oi := { dst := some 35, op := Op.move (Operand.tmp 5), type := 3, pos := "l13_draw.go:27", after := _, guard := none }) (v := ?_) rfl (by kernel_rfl) (by kernel_rfl) (by kernel_rfl) (fun _ _ _ h => h) (Or.inl ⟨by rfl, ?_⟩) (by first | assumption | trivial) ?_
  rotate_left
  · (intro w hSw; (try dsimp only at hSw); go_simp; (try with_reducible rfl))
  simp only [Act.put, List.setIfInBounds_toArray, List.set_cons_zero, List.set_cons_succ]
  refine wpAnyH_take (i := 3) (oi := { dst := some 36, op := Op.slice 23 (Operand.tmp 34) none (some (Operand.tmp 35)) none, type := 23, pos := "l13_draw.go:27", after := _, guard := none }) (v := ?_) rfl (by kernel_rfl) (by kernel_rfl) (by kernel_rfl) (fun _ _ _ h => h) (Or.inl ⟨by rfl, ?_⟩) (by first | assumption | trivial) ?_
  rotate_left
  · (intro w hSw; (try dsimp only at hSw); go_simp; (try with_reducible rfl))
  simp only [Act.put, List.setIfInBounds_toArray, List.set_cons_zero, List.set_cons_succ]
  refine wpAnyH_take (i := 5) (oi := { dst := some 38, op := Op.move (Operand.tmp 1), type := 9, pos := "l13_draw.go:27", after := _, guard := none }) (v := ?_) rfl (by kernel_rfl) (by kernel_rfl) (by kernel_rfl) (fun _ _ _ h => h) (Or.inl ⟨by rfl, ?_⟩) (by first | assumption | trivial) ?_
  rotate_left
  · (intro w hSw; (try dsimp only at hSw); go_simp; (try with_reducible rfl))
  simp only [Act.put, List.setIfInBounds_toArray, List.set_cons_zero, List.set_cons_succ]
  refine wpAnyH_take (i := 8) (oi := { dst := some 41, op := Op.move (Operand.tmp 0), type := 23, pos := "l13_draw.go:27", after := _, guard := none }) (v := ?_) rfl (by kernel_rfl) (by kernel_rfl) (by kernel_rfl) (fun _ _ _ h => h) (Or.inl ⟨by rfl, ?_⟩) (by first | assumption | trivial) ?_
  rotate_left
  · (intro w hSw; (try dsimp only at hSw); go_simp; (try with_reducible rfl))
  simp only [Act.put, List.setIfInBounds_toArray, List.set_cons_zero, List.set_cons_succ]
  refine wpAnyH_take (i := 9) (oi := { dst := some 42, op := Op.move (Operand.tmp 5), type := 3, pos := "l13_draw.go:27", after := _, guard := none }) (v := ?_) rfl (by kernel_rfl) (by kernel_rfl) (by kernel_rfl) (fun _ _ _ h => h) (Or.inl ⟨by rfl, ?_⟩) (by first | assumption | trivial) ?_
  rotate_left
  · (intro w hSw; (try dsimp only at hSw); go_simp; (try with_reducible rfl))
  simp only [Act.put, List.setIfInBounds_toArray, List.set_cons_zero, List.set_cons_succ]
  refine wpAnyH_take (i := 10) (oi := { dst := some 43, op := Op.slice 23 (Operand.tmp 41) (some (Operand.tmp 42)) none none, type := 23, pos := "l13_draw.go:27", after := _, guard := none }) (v := ?_) rfl (by kernel_rfl) (by kernel_rfl) (by kernel_rfl) (fun _ _ _ h => h) (Or.inl ⟨by rfl, ?_⟩) (by first | assumption | trivial) ?_
  rotate_left
  · (intro w hSw; (try dsimp only at hSw); go_simp; (try with_reducible rfl))
  simp only [Act.put, List.setIfInBounds_toArray, List.set_cons_zero, List.set_cons_succ]
  refine wpAnyH_ready (rs := [0, 6]) (by kernel_rfl) (by simp) ?_
  refine AllReadyH.cons (o := { dst := some 33, op := Op.buildSlice 23 0 #[], type := 23, pos := "l13_draw.go:27", after := _, guard := none }) rfl (fun K hK => ?_) ?_
  · skip
    go_simp
    refine hK.out _ _ trivial (fun hHeld => ?_)
    clear hK K
    (try simp only [Act.put, List.setIfInBounds_toArray, List.set_cons_zero, List.set_cons_succ])
    have C1 := B8.alloc B8.size (.cells #[] 9)
    have o1 := own_lit00 (base := w8.heap.size) w8 9 1 w8.heap.size rfl B8.size
    have y1 : w8.heap.size < (w8.alloc (.cells #[] 9)).heap.size := by rw [World.size_alloc]; omega
    generalize w8.alloc (.cells #[] 9) = v1 at C1 o1 y1  ⊢
    refine wpAnyH_ready (rs := [4, 6]) (by kernel_rfl) (by simp) ?_
    refine AllReadyH.cons (o := { dst := some 37, op := Op.call { callee := Callee.builtin Builtin.append, args := #[Operand.tmp 33, Operand.tmp 36], argTypes := #[23, 23] }, type := 23, pos := "l13_draw.go:27", after := _, guard := none }) rfl (fun K hK => ?_) ?_
    · skip
      refine step_append_src _ rfl (.tmp 33) (.tmp 36) 23 rfl w8.heap.size 9 i0 (.string ⟨#[]⟩) 1 16 Try.underlying23 hi hz0 hz1 hz2 rfl (by decide) (.slice (some ⟨w8.heap.size, 0, none⟩) 0 0) (0) [] rfl o1 none 0 0 [] rfl (src_nil _ _ _) (by simp) (by unfold maxLen; omega) (by omega) C1.size ?_
      intro r2 v2 o2 g2 _
      have C2 := C1.grown g2 C1.size (fun q hq => (o1.lt q hq).1)
      refine hK.out _ _ trivial (fun hHeld => ?_)
      clear hK K
      (try simp only [Act.put, List.setIfInBounds_toArray, List.set_cons_zero, List.set_cons_succ])
      rw [Nat.zero_add, List.nil_append] at o2
      obtain ⟨a2, c2, rfl⟩ := own_shape o2
      have y2 := g2.size
      refine wpAnyH_ready (rs := [6]) (by kernel_rfl) (by simp) ?_
      refine AllReadyH.cons (o := { dst := some 39, op := Op.buildSlice 23 1 #[(0, Operand.tmp 38)], type := 23, pos := "l13_draw.go:27", after := _, guard := none }) rfl (fun K hK => ?_) AllReadyH.nil
      go_simp
      refine hK.out _ _ trivial (fun hHeld => ?_)
      clear hK K
      (try simp only [Act.put, List.setIfInBounds_toArray, List.set_cons_zero, List.set_cons_succ])
      have C3 := C2.alloc C2.size (.cells #[.string x] 9)
      have s3 := src_new v2 [.string x] 9 1 1 v2.heap.size rfl rfl
      have y3 : v2.heap.size < (v2.alloc (.cells #[.string x] 9)).heap.size := by rw [World.size_alloc]; omega
      have o3 := own_below o2 (below_alloc v2 (.cells #[.string x] 9))
      generalize v2.alloc (.cells #[.string x] 9) = v3 at C3 s3 y3 o3 ⊢
      refine wpAnyH_ready (rs := [7]) (by kernel_rfl) (by simp) ?_
      refine AllReadyH.cons (o := { dst := some 40, op := Op.call { callee := Callee.builtin Builtin.append, args := #[Operand.tmp 37, Operand.tmp 39], argTypes := #[23, 23] }, type := 23, pos := "l13_draw.go:27", after := _, guard := none }) rfl (fun K hK => ?_) AllReadyH.nil
      refine step_append_src _ rfl (.tmp 37) (.tmp 39) 23 rfl w8.heap.size 9 i0 (.string ⟨#[]⟩) 1 16 Try.underlying23 hi hz0 hz1 hz2 rfl (by decide) (.slice a2 (0) c2) (0) [] rfl o3 (some ⟨v2.heap.size, 0, none⟩) 1 1 [.string x] rfl s3 (by simp [Value.oneCell']) (by unfold maxLen; omega) (by omega) C3.size ?_
      intro r4 v4 o4 g4 _
      have C4 := C3.grown g4 C3.size (fun q hq => (o3.lt q hq).1)
      refine hK.out _ _ trivial (fun hHeld => ?_)
      clear hK K
      (try simp only [Act.put, List.setIfInBounds_toArray, List.set_cons_zero, List.set_cons_succ])
      obtain ⟨a4, c4, rfl⟩ := own_shape o4
      have y4 := g4.size
      refine wpAnyH_ready (rs := [11]) (by kernel_rfl) (by simp) ?_
      refine AllReadyH.cons (o := { dst := some 44, op := Op.call { callee := Callee.builtin Builtin.append, args := #[Operand.tmp 40, Operand.tmp 43], argTypes := #[23, 23] }, type := 23, pos := "l13_draw.go:27", after := _, guard := none }) rfl (fun K hK => ?_) AllReadyH.nil
      refine step_append_src _ rfl (.tmp 40) (.tmp 43) 23 rfl w8.heap.size 9 i0 (.string ⟨#[]⟩) 1 16 Try.underlying23 hi hz0 hz1 hz2 rfl (by decide) (.slice a4 (0 + 1) c4) (0 + 1) ([] ++ [.string x]) rfl o4 none 0 0 [] rfl (src_nil _ _ _) (by simp) (by unfold maxLen; omega) (by omega) C4.size ?_
      intro r5 v5 o5 g5 _
      have C5 := C4.grown g5 C4.size (fun q hq => (o4.lt q hq).1)
      refine hK.out _ _ trivial (fun hHeld => ?_)
      clear hK K
      (try simp only [Act.put, List.setIfInBounds_toArray, List.set_cons_zero, List.set_cons_succ])
      obtain ⟨a5, c5, rfl⟩ := own_shape o5
      have y5 := g5.size
      refine wpAnyH_take (i := 12) (oi := { dst := some 4, op := Op.assign (Operand.tmp 44), type := 23, pos := "l13_draw.go:27", after := _, guard := none }) (v := ?_) rfl (by kernel_rfl) (by kernel_rfl) (by kernel_rfl) (fun _ _ _ h => h) (Or.inl ⟨by rfl, ?_⟩) (by first | assumption | trivial) ?_
      rotate_left
      · (intro w hSw; (try dsimp only at hSw); go_simp; (try with_reducible rfl))
      simp only [Act.put, List.setIfInBounds_toArray, List.set_cons_zero, List.set_cons_succ]
      refine wpAnyH_done (by kernel_rfl) ?_ _
      have hO := Lib.hid o5
      have hB := Lib.hid (B0.trans (C5.mono B0.size))
      go_wp2_with fail
      go_ret
      exact ⟨_, [x], rfl, own_el1 (base := w8.heap.size) (e := 9) (n := 1) rfl (by unfold maxLen; omega) (by omega) (by have := B0.size; omega) (by simpa [encS1] using hO.out), by simpa using hx, by simp, hB.out⟩
    refine AllReadyH.cons (o := { dst := some 39, op := Op.buildSlice 23 1 #[(0, Operand.tmp 38)], type := 23, pos := "l13_draw.go:27", after := _, guard := none }) rfl (fun K hK => ?_) AllReadyH.nil
    go_simp
    refine hK.out _ _ trivial (fun hHeld => ?_)
    clear hK K
    (try simp only [Act.put, List.setIfInBounds_toArray, List.set_cons_zero, List.set_cons_succ])
    have C6 := C1.alloc C1.size (.cells #[.string x] 9)
    have s6 := src_new v1 [.string x] 9 1 1 v1.heap.size rfl rfl
    have y6 : v1.heap.size < (v1.alloc (.cells #[.string x] 9)).heap.size := by rw [World.size_alloc]; omega
    have o6 := own_below o1 (below_alloc v1 (.cells #[.string x] 9))
    generalize v1.alloc (.cells #[.string x] 9) = v6 at C6 s6 y6 o6 ⊢
    refine wpAnyH_ready (rs := [4]) (by kernel_rfl) (by simp) ?_
    refine AllReadyH.cons (o := { dst := some 37, op := Op.call { callee := Callee.builtin Builtin.append, args := #[Operand.tmp 33, Operand.tmp 36], argTypes := #[23, 23] }, type := 23, pos := "l13_draw.go:27", after := _, guard := none }) rfl (fun K hK => ?_) AllReadyH.nil
    refine step_append_src _ rfl (.tmp 33) (.tmp 36) 23 rfl w8.heap.size 9 i0 (.string ⟨#[]⟩) 1 16 Try.underlying23 hi hz0 hz1 hz2 rfl (by decide) (.slice (some ⟨w8.heap.size, 0, none⟩) 0 0) (0) [] rfl o6 none 0 0 [] rfl (src_nil _ _ _) (by simp) (by unfold maxLen; omega) (by omega) C6.size ?_
    intro r7 v7 o7 g7 _
    have C7 := C6.grown g7 C6.size (fun q hq => (o6.lt q hq).1)
    refine hK.out _ _ trivial (fun hHeld => ?_)
    clear hK K
    (try simp only [Act.put, List.setIfInBounds_toArray, List.set_cons_zero, List.set_cons_succ])
    rw [Nat.zero_add, List.nil_append] at o7
    obtain ⟨a7, c7, rfl⟩ := own_shape o7
    have y7 := g7.size
    have s7 := s6.kept (kept_of_grown g7) (fun q hq e => by have e1 := own_blk e; simp at hq; omega)
    refine wpAnyH_ready (rs := [7]) (by kernel_rfl) (by simp) ?_
    refine AllReadyH.cons (o := { dst := some 40, op := Op.call { callee := Callee.builtin Builtin.append, args := #[Operand.tmp 37, Operand.tmp 39], argTypes := #[23, 23] }, type := 23, pos := "l13_draw.go:27", after := _, guard := none }) rfl (fun K hK => ?_) AllReadyH.nil
    refine step_append_src _ rfl (.tmp 37) (.tmp 39) 23 rfl w8.heap.size 9 i0 (.string ⟨#[]⟩) 1 16 Try.underlying23 hi hz0 hz1 hz2 rfl (by decide) (.slice a7 (0) c7) (0) [] rfl o7 (some ⟨v1.heap.size, 0, none⟩) 1 1 [.string x] rfl s7 (by simp [Value.oneCell']) (by unfold maxLen; omega) (by omega) C7.size ?_
    intro r8 v8 o8 g8 _
    have C8 := C7.grown g8 C7.size (fun q hq => (o7.lt q hq).1)
    refine hK.out _ _ trivial (fun hHeld => ?_)
    clear hK K
    (try simp only [Act.put, List.setIfInBounds_toArray, List.set_cons_zero, List.set_cons_succ])
    obtain ⟨a8, c8, rfl⟩ := own_shape o8
    have y8 := g8.size
    refine wpAnyH_ready (rs := [11]) (by kernel_rfl) (by simp) ?_
    refine AllReadyH.cons (o := { dst := some 44, op := Op.call { callee := Callee.builtin Builtin.append, args := #[Operand.tmp 40, Operand.tmp 43], argTypes := #[23, 23] }, type := 23, pos := "l13_draw.go:27", after := _, guard := none }) rfl (fun K hK => ?_) AllReadyH.nil
    refine step_append_src _ rfl (.tmp 40) (.tmp 43) 23 rfl w8.heap.size 9 i0 (.string ⟨#[]⟩) 1 16 Try.underlying23 hi hz0 hz1 hz2 rfl (by decide) (.slice a8 (0 + 1) c8) (0 + 1) ([] ++ [.string x]) rfl o8 none 0 0 [] rfl (src_nil _ _ _) (by simp) (by unfold maxLen; omega) (by omega) C8.size ?_
    intro r9 v9 o9 g9 _
    have C9 := C8.grown g9 C8.size (fun q hq => (o8.lt q hq).1)
    refine hK.out _ _ trivial (fun hHeld => ?_)
    clear hK K
    (try simp only [Act.put, List.setIfInBounds_toArray, List.set_cons_zero, List.set_cons_succ])
    obtain ⟨a9, c9, rfl⟩ := own_shape o9
    have y9 := g9.size
    refine wpAnyH_take (i := 12) (oi := { dst := some 4, op := Op.assign (Operand.tmp 44), type := 23, pos := "l13_draw.go:27", after := _, guard := none }) (v := ?_) rfl (by kernel_rfl) (by kernel_rfl) (by kernel_rfl) (fun _ _ _ h => h) (Or.inl ⟨by rfl, ?_⟩) (by first | assumption | trivial) ?_
    rotate_left
    · (intro w hSw; (try dsimp only at hSw); go_simp; (try with_reducible rfl))
    simp only [Act.put, List.setIfInBounds_toArray, List.set_cons_zero, List.set_cons_succ]
    refine wpAnyH_done (by kernel_rfl) ?_ _
    have hO := Lib.hid o9
    have hB := Lib.hid (B0.trans (C9.mono B0.size))
    go_wp2_with fail
    go_ret
    exact ⟨_, [x], rfl, own_el1 (base := w8.heap.size) (e := 9) (n := 1) rfl (by unfold maxLen; omega) (by omega) (by have := B0.size; omega) (by simpa [encS1] using hO.out), by simpa using hx, by simp, hB.out⟩
  refine AllReadyH.cons (o := { dst := some 39, op := Op.buildSlice 23 1 #[(0, Operand.tmp 38)], type := 23, pos := "l13_draw.go:27", after := _, guard := none }) rfl (fun K hK => ?_) AllReadyH.nil
  go_simp
  refine hK.out _ _ trivial (fun hHeld => ?_)
  clear hK K
  (try simp only [Act.put, List.setIfInBounds_toArray, List.set_cons_zero, List.set_cons_succ])
  have C10 := B8.alloc B8.size (.cells #[.string x] 9)
  have s10 := src_new w8 [.string x] 9 1 1 w8.heap.size rfl rfl
  have y10 : w8.heap.size < (w8.alloc (.cells #[.string x] 9)).heap.size := by rw [World.size_alloc]; omega
  generalize w8.alloc (.cells #[.string x] 9) = v10 at C10 s10 y10  ⊢
  refine wpAnyH_ready (rs := [0]) (by kernel_rfl) (by simp) ?_
  refine AllReadyH.cons (o := { dst := some 33, op := Op.buildSlice 23 0 #[], type := 23, pos := "l13_draw.go:27", after := _, guard := none }) rfl (fun K hK => ?_) AllReadyH.nil
  go_simp
  refine hK.out _ _ trivial (fun hHeld => ?_)
  clear hK K
  (try simp only [Act.put, List.setIfInBounds_toArray, List.set_cons_zero, List.set_cons_succ])
  have C11 := C10.alloc C10.size (.cells #[] 9)
  have o11 := own_lit00 (base := w8.heap.size) v10 9 1 v10.heap.size rfl C10.size
  have s11 := s10.below (below_alloc v10 (.cells #[] 9))
  have y11 : v10.heap.size < (v10.alloc (.cells #[] 9)).heap.size := by rw [World.size_alloc]; omega
  generalize v10.alloc (.cells #[] 9) = v11 at C11 o11 y11 s11 ⊢
  refine wpAnyH_ready (rs := [4]) (by kernel_rfl) (by simp) ?_
  refine AllReadyH.cons (o := { dst := some 37, op := Op.call { callee := Callee.builtin Builtin.append, args := #[Operand.tmp 33, Operand.tmp 36], argTypes := #[23, 23] }, type := 23, pos := "l13_draw.go:27", after := _, guard := none }) rfl (fun K hK => ?_) AllReadyH.nil
  refine step_append_src _ rfl (.tmp 33) (.tmp 36) 23 rfl w8.heap.size 9 i0 (.string ⟨#[]⟩) 1 16 Try.underlying23 hi hz0 hz1 hz2 rfl (by decide) (.slice (some ⟨v10.heap.size, 0, none⟩) 0 0) (0) [] rfl o11 none 0 0 [] rfl (src_nil _ _ _) (by simp) (by unfold maxLen; omega) (by omega) C11.size ?_
  intro r12 v12 o12 g12 _
  have C12 := C11.grown g12 C11.size (fun q hq => (o11.lt q hq).1)
  refine hK.out _ _ trivial (fun hHeld => ?_)
  clear hK K
  (try simp only [Act.put, List.setIfInBounds_toArray, List.set_cons_zero, List.set_cons_succ])
  rw [Nat.zero_add, List.nil_append] at o12
  obtain ⟨a12, c12, rfl⟩ := own_shape o12
  have y12 := g12.size
  have s12 := s11.kept (kept_of_grown g12) (fun q hq e => by have e1 := own_blk e; simp at hq; omega)
  refine wpAnyH_ready (rs := [7]) (by kernel_rfl) (by simp) ?_
  refine AllReadyH.cons (o := { dst := some 40, op := Op.call { callee := Callee.builtin Builtin.append, args := #[Operand.tmp 37, Operand.tmp 39], argTypes := #[23, 23] }, type := 23, pos := "l13_draw.go:27", after := _, guard := none }) rfl (fun K hK => ?_) AllReadyH.nil
  refine step_append_src _ rfl (.tmp 37) (.tmp 39) 23 rfl w8.heap.size 9 i0 (.string ⟨#[]⟩) 1 16 Try.underlying23 hi hz0 hz1 hz2 rfl (by decide) (.slice a12 (0) c12) (0) [] rfl o12 (some ⟨w8.heap.size, 0, none⟩) 1 1 [.string x] rfl s12 (by simp [Value.oneCell']) (by unfold maxLen; omega) (by omega) C12.size ?_
  intro r13 v13 o13 g13 _
  have C13 := C12.grown g13 C12.size (fun q hq => (o12.lt q hq).1)
  refine hK.out _ _ trivial (fun hHeld => ?_)
  clear hK K
  (try simp only [Act.put, List.setIfInBounds_toArray, List.set_cons_zero, List.set_cons_succ])
  obtain ⟨a13, c13, rfl⟩ := own_shape o13
  have y13 := g13.size
  refine wpAnyH_ready (rs := [11]) (by kernel_rfl) (by simp) ?_
  refine AllReadyH.cons (o := { dst := some 44, op := Op.call { callee := Callee.builtin Builtin.append, args := #[Operand.tmp 40, Operand.tmp 43], argTypes := #[23, 23] }, type := 23, pos := "l13_draw.go:27", after := _, guard := none }) rfl (fun K hK => ?_) AllReadyH.nil
  refine step_append_src _ rfl (.tmp 40) (.tmp 43) 23 rfl w8.heap.size 9 i0 (.string ⟨#[]⟩) 1 16 Try.underlying23 hi hz0 hz1 hz2 rfl (by decide) (.slice a13 (0 + 1) c13) (0 + 1) ([] ++ [.string x]) rfl o13 none 0 0 [] rfl (src_nil _ _ _) (by simp) (by unfold maxLen; omega) (by omega) C13.size ?_
  intro r14 v14 o14 g14 _
  have C14 := C13.grown g14 C13.size (fun q hq => (o13.lt q hq).1)
  refine hK.out _ _ trivial (fun hHeld => ?_)
  clear hK K
  (try simp only [Act.put, List.setIfInBounds_toArray, List.set_cons_zero, List.set_cons_succ])
  obtain ⟨a14, c14, rfl⟩ := own_shape o14
  have y14 := g14.size
  refine wpAnyH_take (i := 12) (oi := { dst := some 4, op := Op.assign (Operand.tmp 44), type := 23, pos := "l13_draw.go:27", after := _, guard := none }) (v := ?_) rfl (by kernel_rfl) (by kernel_rfl) (by kernel_rfl) (fun _ _ _ h => h) (Or.inl ⟨by rfl, ?_⟩) (by first | assumption | trivial) ?_
  rotate_left
  · (intro w hSw; (try dsimp only at hSw); go_simp; (try with_reducible rfl))
  simp only [Act.put, List.setIfInBounds_toArray, List.set_cons_zero, List.set_cons_succ]
  refine wpAnyH_done (by kernel_rfl) ?_ _
  have hO := Lib.hid o14
  have hB := Lib.hid (B0.trans (C14.mono B0.size))
  go_wp2_with fail
  go_ret
  exact ⟨_, [x], rfl, own_el1 (base := w8.heap.size) (e := 9) (n := 1) rfl (by unfold maxLen; omega) (by omega) (by have := B0.size; omega) (by simpa [encS1] using hO.out), by simpa using hx, by simp, hB.out⟩

set_option maxRecDepth 100000 in
set_option maxHeartbeats 4000000 in
theorem mark_some (B g cb : Nat) (L : List ByteArray) (x : ByteArray) (hx : x.size ≤ 24) (w : World) (hL : ElS 1 encS1 w (some ⟨g, 0, none⟩) L) (hcap : L.length ≤ cb) (hs : ∀ s ∈ L, s.size ≤ 24) (h0 : 0 < L.length) (hn : L.length ≤ 5) (hBg : B ≤ g) :
    Calls Try.prog 82 #[.slice (some ⟨g, 0, none⟩) L.length cb, .string x] w (MarkP w B L.length) := by
  obtain ⟨i0, hi, hz0, hz1, hz2⟩ := info_parts infoStrD
  have HL := Lib.hid hL
  have HS := Lib.hid hs
  clear hL hs
  go_enter Try.func82, Try.ntmps82
  go_wp2_with fail
  go_loopw [5] (fun i wr => ∃ k : Nat, k ≤ L.length ∧ i = .int .i64 k ∧ w = wr) (fun i _ => L.length - (intOf i).toNat)
  case atStart => exact ⟨0, Nat.zero_le _, rfl, by first | rfl | trivial⟩
  case round =>
    obtain ⟨k, hk, rfl, hwe⟩ := hrel
    subst hwe
    by_cases hlt : k < L.length
    · have hd : decide (k < L.length) = true := decide_eq_true hlt
      have hk0 : (0 : Int) ≤ (k : Int) := by omega
      have hk1 : (k : Int) < (L.length : Int) := by omega
      have c0 : w.cell? ⟨g, k, none⟩ = some (.string L[k]) := by
        obtain ⟨b, o, e, hc⟩ := HL.out.2.resolve_left (fun e => by rw [e] at h0; simp at h0)
        cases e
        have := hc k hlt 0 (.string L[k]) rfl
        simpa using this
      cases hq : Op.bytesLess L[k].toList x.toList with
      | true =>
        go_wp2_with fail
        go_roundw
        case rel => exact ⟨k + 1, by omega, by go_num, by first | rfl | trivial⟩
        case measure => simp [intOf]; omega
      | false =>
        by_cases he : L[k] = x
        · have q1 : (L[k].toList == x.toList) = true := by rw [he]; simp
          clear he
          go_wp2_with fail
          go_ret
          exact ⟨_, L, rfl, ⟨_, _, rfl, hcap, HL.out, .inr ⟨List.length_pos_iff.1 h0, g, rfl, hBg⟩⟩, HS.out, by omega, Below.refl _ _⟩
        · have q1 : (L[k].toList == x.toList) = false := by
            rw [beq_eq_false_iff_ne]
            intro e
            rw [ByteArray.toList_eq, ByteArray.toList_eq] at e
            have e := Array.toList_inj.1 e
            exact he (by generalize L[k] = y at e; cases x; cases y; cases e; rfl)
          go_wp2_with fail
          have HE := HL.out
          have hjl : k ≤ L.length := hk
          have HE0 := Lib.hid (show ElS 1 encS1 w.drew (some ⟨g, 0, none⟩) L from HE.below ((Below.refl _ _).drew))
          have hw0 : ∃ w8, w.drew = w8 := ⟨_, rfl⟩
          have hj0 : (0 : Int) ≤ (k : Int) := by omega
          have hjn : (k : Int) ≤ (L.length : Int) := by omega
          have hjc : (k : Int) ≤ (cb : Int) := by omega
          have hnc : (L.length : Int) ≤ (cb : Int) := by omega
          by_cases hck : k = cb
          · have hdk : L.drop k = [] := List.drop_of_length_le (by omega)
            subst hck
            refine wp_region_held_drew (S := fun _ => True) (by kernel_rfl) (trivial) (fun hHeld => ?_)
            obtain ⟨w8, hw8⟩ := hw0
            clear hHeld; rw [hw8] at HE0 ⊢
            have KS : ∀ W', Below w8.heap.size w8 W' → (fun _ => True) W' := fun W' hb => trivial
            have B8 : Below w8.heap.size w8 w8 := Below.refl _ _
            have hgl8 : g < w8.heap.size := els_block HE0.out h0 encS1_len (by decide)
            have B0 : Below w.heap.size w w8 := by rw [← hw8]; exact (Below.refl _ _).drew
            refine wpAnyH_take (i := 1) (oi := { dst := some 34, op := Op.move (Operand.tmp 0), type := 23, pos := "l13_draw.go:27", after := _, guard := none }) (v := ?_) rfl (by kernel_rfl) (by kernel_rfl) (by kernel_rfl) (fun _ _ _ h => h) (Or.inl ⟨by rfl, ?_⟩) (by first | assumption | trivial) ?_
            rotate_left
            · (intro w hSw; (try dsimp only at hSw); go_simp; (try with_reducible rfl))
            simp only [Act.put, List.setIfInBounds_toArray, List.set_cons_zero, List.set_cons_succ]
            refine wpAnyH_take (i := 2) (oi := { dst := some 35, op := Op.move (Operand.tmp 5), type := 3, pos := "l13_draw.go:27", after := _, guard := none }) (v := ?_) rfl (by kernel_rfl) (by kernel_rfl) (by kernel_rfl) (fun _ _ _ h => h) (Or.inl ⟨by rfl, ?_⟩) (by first | assumption | trivial) ?_
            rotate_left
            · (intro w hSw; (try dsimp only at hSw); go_simp; (try with_reducible rfl))
            simp only [Act.put, List.setIfInBounds_toArray, List.set_cons_zero, List.set_cons_succ]
            refine wpAnyH_take (i := 3) (oi := { dst := some 36, op := Op.slice 23 (Operand.tmp 34) none (some (Operand.tmp 35)) none, type := 23, pos := "l13_draw.go:27", after := _, guard := none }) (v := ?_) rfl (by kernel_rfl) (by kernel_rfl) (by kernel_rfl) (fun _ _ _ h => h) (Or.inl ⟨by rfl, ?_⟩) (by first | assumption | trivial) ?_
            rotate_left
            · (intro w hSw; (try dsimp only at hSw); go_simp; (try with_reducible rfl))
            simp only [Act.put, List.setIfInBounds_toArray, List.set_cons_zero, List.set_cons_succ]
            refine wpAnyH_take (i := 5) (oi := { dst := some 38, op := Op.move (Operand.tmp 1), type := 9, pos := "l13_draw.go:27", after := _, guard := none }) (v := ?_) rfl (by kernel_rfl) (by kernel_rfl) (by kernel_rfl) (fun _ _ _ h => h) (Or.inl ⟨by rfl, ?_⟩) (by first | assumption | trivial) ?_
            rotate_left
            · (intro w hSw; (try dsimp only at hSw); go_simp; (try with_reducible rfl))
            simp only [Act.put, List.setIfInBounds_toArray, List.set_cons_zero, List.set_cons_succ]
            refine wpAnyH_take (i := 8) (oi := { dst := some 41, op := Op.move (Operand.tmp 0), type := 23, pos := "l13_draw.go:27", after := _, guard := none }) (v := ?_) rfl (by kernel_rfl) (by kernel_rfl) (by kernel_rfl) (fun _ _ _ h => h) (Or.inl ⟨by rfl, ?_⟩) (by first | assumption | trivial) ?_
            rotate_left
            · (intro w hSw; (try dsimp only at hSw); go_simp; (try with_reducible rfl))
            simp only [Act.put, List.setIfInBounds_toArray, List.set_cons_zero, List.set_cons_succ]
            refine wpAnyH_take (i := 9) (oi := { dst := some 42, op := Op.move (Operand.tmp 5), type := 3, pos := "l13_draw.go:27", after := _, guard := none }) (v := ?_) rfl (by kernel_rfl) (by kernel_rfl) (by kernel_rfl) (fun _ _ _ h => h) (Or.inl ⟨by rfl, ?_⟩) (by first | assumption | trivial) ?_
            rotate_left
            · (intro w hSw; (try dsimp only at hSw); go_simp; (try with_reducible rfl))
            simp only [Act.put, List.setIfInBounds_toArray, List.set_cons_zero, List.set_cons_succ]
            refine wpAnyH_take (i := 10) (oi := { dst := some 43, op := Op.slice 23 (Operand.tmp 41) (some (Operand.tmp 42)) none none, type := 23, pos := "l13_draw.go:27", after := _, guard := none }) (v := ?_) rfl (by kernel_rfl) (by kernel_rfl) (by kernel_rfl) (fun _ _ _ h => h) (Or.inl ⟨by rfl, ?_⟩) (by first | assumption | trivial) ?_
            rotate_left
            · (intro w hSw; (try dsimp only at hSw); go_simp; (try with_reducible rfl))
            simp only [Act.put, List.setIfInBounds_toArray, List.set_cons_zero, List.set_cons_succ]
            refine wpAnyH_ready (rs := [0, 6]) (by kernel_rfl) (by simp) ?_
            refine AllReadyH.cons (o := { dst := some 33, op := Op.buildSlice 23 0 #[], type := 23, pos := "l13_draw.go:27", after := _, guard := none }) rfl (fun K hK => ?_) ?_
            · skip
              go_simp
              refine hK.out _ _ trivial (fun hHeld => ?_)
              clear hK K
              (try simp only [Act.put, List.setIfInBounds_toArray, List.set_cons_zero, List.set_cons_succ])
              have C1 := B8.alloc B8.size (.cells #[] 9)
              have o1 := own_lit00 (base := w8.heap.size) w8 9 1 w8.heap.size rfl B8.size
              have y1 : w8.heap.size < (w8.alloc (.cells #[] 9)).heap.size := by rw [World.size_alloc]; omega
              generalize w8.alloc (.cells #[] 9) = v1 at C1 o1 y1  ⊢
              refine wpAnyH_ready (rs := [4, 6]) (by kernel_rfl) (by simp) ?_
              refine AllReadyH.cons (o := { dst := some 37, op := Op.call { callee := Callee.builtin Builtin.append, args := #[Operand.tmp 33, Operand.tmp 36], argTypes := #[23, 23] }, type := 23, pos := "l13_draw.go:27", after := _, guard := none }) rfl (fun K hK => ?_) ?_
              · skip
                refine step_append_src _ rfl (.tmp 33) (.tmp 36) 23 rfl w8.heap.size 9 i0 (.string ⟨#[]⟩) 1 16 Try.underlying23 hi hz0 hz1 hz2 rfl (by decide) (.slice (some ⟨w8.heap.size, 0, none⟩) 0 0) (0) [] rfl o1 (some ⟨g, 0, none⟩) k k ((L.take k).flatMap encS1) rfl ((src_take encS1_len (by decide) hjl HE0.out).below C1) (fun u hu => one_s1 hu) (by unfold maxLen; omega) (by omega) C1.size ?_
                intro r2 v2 o2 g2 _
                have C2 := C1.grown g2 C1.size (fun q hq => (o1.lt q hq).1)
                refine hK.out _ _ trivial (fun hHeld => ?_)
                clear hK K
                (try simp only [Act.put, List.setIfInBounds_toArray, List.set_cons_zero, List.set_cons_succ])
                rw [Nat.zero_add, List.nil_append] at o2
                obtain ⟨a2, c2, rfl⟩ := own_shape o2
                have y2 := g2.size
                refine wpAnyH_ready (rs := [6]) (by kernel_rfl) (by simp) ?_
                refine AllReadyH.cons (o := { dst := some 39, op := Op.buildSlice 23 1 #[(0, Operand.tmp 38)], type := 23, pos := "l13_draw.go:27", after := _, guard := none }) rfl (fun K hK => ?_) AllReadyH.nil
                go_simp
                refine hK.out _ _ trivial (fun hHeld => ?_)
                clear hK K
                (try simp only [Act.put, List.setIfInBounds_toArray, List.set_cons_zero, List.set_cons_succ])
                have C3 := C2.alloc C2.size (.cells #[.string x] 9)
                have s3 := src_new v2 [.string x] 9 1 1 v2.heap.size rfl rfl
                have y3 : v2.heap.size < (v2.alloc (.cells #[.string x] 9)).heap.size := by rw [World.size_alloc]; omega
                have o3 := own_below o2 (below_alloc v2 (.cells #[.string x] 9))
                generalize v2.alloc (.cells #[.string x] 9) = v3 at C3 s3 y3 o3 ⊢
                refine wpAnyH_ready (rs := [7]) (by kernel_rfl) (by simp) ?_
                refine AllReadyH.cons (o := { dst := some 40, op := Op.call { callee := Callee.builtin Builtin.append, args := #[Operand.tmp 37, Operand.tmp 39], argTypes := #[23, 23] }, type := 23, pos := "l13_draw.go:27", after := _, guard := none }) rfl (fun K hK => ?_) AllReadyH.nil
                refine step_append_src _ rfl (.tmp 37) (.tmp 39) 23 rfl w8.heap.size 9 i0 (.string ⟨#[]⟩) 1 16 Try.underlying23 hi hz0 hz1 hz2 rfl (by decide) (.slice a2 (k) c2) (k) ((L.take k).flatMap encS1) rfl o3 (some ⟨v2.heap.size, 0, none⟩) 1 1 [.string x] rfl s3 (by simp [Value.oneCell']) (by unfold maxLen; omega) (by omega) C3.size ?_
                intro r4 v4 o4 g4 _
                have C4 := C3.grown g4 C3.size (fun q hq => (o3.lt q hq).1)
                refine hK.out _ _ trivial (fun hHeld => ?_)
                clear hK K
                (try simp only [Act.put, List.setIfInBounds_toArray, List.set_cons_zero, List.set_cons_succ])
                obtain ⟨a4, c4, rfl⟩ := own_shape o4
                have y4 := g4.size
                refine wpAnyH_ready (rs := [11]) (by kernel_rfl) (by simp) ?_
                refine AllReadyH.cons (o := { dst := some 44, op := Op.call { callee := Callee.builtin Builtin.append, args := #[Operand.tmp 40, Operand.tmp 43], argTypes := #[23, 23] }, type := 23, pos := "l13_draw.go:27", after := _, guard := none }) rfl (fun K hK => ?_) AllReadyH.nil
                refine step_append_src _ rfl (.tmp 40) (.tmp 43) 23 rfl w8.heap.size 9 i0 (.string ⟨#[]⟩) 1 16 Try.underlying23 hi hz0 hz1 hz2 rfl (by decide) (.slice a4 (k + 1) c4) (k + 1) ((L.take k).flatMap encS1 ++ [.string x]) rfl o4 (some ⟨g, 0, none⟩) 0 0 [] rfl (src_nil _ _ _) (by simp) (by unfold maxLen; omega) (by omega) C4.size ?_
                intro r5 v5 o5 g5 _
                have C5 := C4.grown g5 C4.size (fun q hq => (o4.lt q hq).1)
                refine hK.out _ _ trivial (fun hHeld => ?_)
                clear hK K
                (try simp only [Act.put, List.setIfInBounds_toArray, List.set_cons_zero, List.set_cons_succ])
                obtain ⟨a5, c5, rfl⟩ := own_shape o5
                have y5 := g5.size
                refine wpAnyH_take (i := 12) (oi := { dst := some 4, op := Op.assign (Operand.tmp 44), type := 23, pos := "l13_draw.go:27", after := _, guard := none }) (v := ?_) rfl (by kernel_rfl) (by kernel_rfl) (by kernel_rfl) (fun _ _ _ h => h) (Or.inl ⟨by rfl, ?_⟩) (by first | assumption | trivial) ?_
                rotate_left
                · (intro w hSw; (try dsimp only at hSw); go_simp; (try with_reducible rfl))
                simp only [Act.put, List.setIfInBounds_toArray, List.set_cons_zero, List.set_cons_succ]
                refine wpAnyH_done (by kernel_rfl) ?_ _
                have hln : (L.take k ++ x :: L.drop k).length = k + 1 + 0 := by rw [List.length_append, List.length_take, List.length_cons, List.length_drop]; omega
                have hO := Lib.hid o5
                have hB := Lib.hid (B0.trans (C5.mono B0.size))
                go_wp2_with fail
                go_ret
                refine ⟨_, L.take k ++ x :: L.drop k, rfl, own_el1 (base := w8.heap.size) (e := 9) (n := k + 1 + 0) hln (by unfold maxLen; omega) (by omega) (by have := B0.size; omega) ?_, ins_small k HS.out hx, by omega, hB.out⟩
                rw [List.flatMap_append, List.flatMap_cons]
                have := hO.out
                rw [hdk]
                simpa [encS1] using this
              refine AllReadyH.cons (o := { dst := some 39, op := Op.buildSlice 23 1 #[(0, Operand.tmp 38)], type := 23, pos := "l13_draw.go:27", after := _, guard := none }) rfl (fun K hK => ?_) AllReadyH.nil
              go_simp
              refine hK.out _ _ trivial (fun hHeld => ?_)
              clear hK K
              (try simp only [Act.put, List.setIfInBounds_toArray, List.set_cons_zero, List.set_cons_succ])
              have C6 := C1.alloc C1.size (.cells #[.string x] 9)
              have s6 := src_new v1 [.string x] 9 1 1 v1.heap.size rfl rfl
              have y6 : v1.heap.size < (v1.alloc (.cells #[.string x] 9)).heap.size := by rw [World.size_alloc]; omega
              have o6 := own_below o1 (below_alloc v1 (.cells #[.string x] 9))
              generalize v1.alloc (.cells #[.string x] 9) = v6 at C6 s6 y6 o6 ⊢
              refine wpAnyH_ready (rs := [4]) (by kernel_rfl) (by simp) ?_
              refine AllReadyH.cons (o := { dst := some 37, op := Op.call { callee := Callee.builtin Builtin.append, args := #[Operand.tmp 33, Operand.tmp 36], argTypes := #[23, 23] }, type := 23, pos := "l13_draw.go:27", after := _, guard := none }) rfl (fun K hK => ?_) AllReadyH.nil
              refine step_append_src _ rfl (.tmp 33) (.tmp 36) 23 rfl w8.heap.size 9 i0 (.string ⟨#[]⟩) 1 16 Try.underlying23 hi hz0 hz1 hz2 rfl (by decide) (.slice (some ⟨w8.heap.size, 0, none⟩) 0 0) (0) [] rfl o6 (some ⟨g, 0, none⟩) k k ((L.take k).flatMap encS1) rfl ((src_take encS1_len (by decide) hjl HE0.out).below C6) (fun u hu => one_s1 hu) (by unfold maxLen; omega) (by omega) C6.size ?_
              intro r7 v7 o7 g7 _
              have C7 := C6.grown g7 C6.size (fun q hq => (o6.lt q hq).1)
              refine hK.out _ _ trivial (fun hHeld => ?_)
              clear hK K
              (try simp only [Act.put, List.setIfInBounds_toArray, List.set_cons_zero, List.set_cons_succ])
              rw [Nat.zero_add, List.nil_append] at o7
              obtain ⟨a7, c7, rfl⟩ := own_shape o7
              have y7 := g7.size
              have s7 := s6.kept (kept_of_grown g7) (fun q hq e => by have e1 := own_blk e; simp at hq; omega)
              refine wpAnyH_ready (rs := [7]) (by kernel_rfl) (by simp) ?_
              refine AllReadyH.cons (o := { dst := some 40, op := Op.call { callee := Callee.builtin Builtin.append, args := #[Operand.tmp 37, Operand.tmp 39], argTypes := #[23, 23] }, type := 23, pos := "l13_draw.go:27", after := _, guard := none }) rfl (fun K hK => ?_) AllReadyH.nil
              refine step_append_src _ rfl (.tmp 37) (.tmp 39) 23 rfl w8.heap.size 9 i0 (.string ⟨#[]⟩) 1 16 Try.underlying23 hi hz0 hz1 hz2 rfl (by decide) (.slice a7 (k) c7) (k) ((L.take k).flatMap encS1) rfl o7 (some ⟨v1.heap.size, 0, none⟩) 1 1 [.string x] rfl s7 (by simp [Value.oneCell']) (by unfold maxLen; omega) (by omega) C7.size ?_
              intro r8 v8 o8 g8 _
              have C8 := C7.grown g8 C7.size (fun q hq => (o7.lt q hq).1)
              refine hK.out _ _ trivial (fun hHeld => ?_)
              clear hK K
              (try simp only [Act.put, List.setIfInBounds_toArray, List.set_cons_zero, List.set_cons_succ])
              obtain ⟨a8, c8, rfl⟩ := own_shape o8
              have y8 := g8.size
              refine wpAnyH_ready (rs := [11]) (by kernel_rfl) (by simp) ?_
              refine AllReadyH.cons (o := { dst := some 44, op := Op.call { callee := Callee.builtin Builtin.append, args := #[Operand.tmp 40, Operand.tmp 43], argTypes := #[23, 23] }, type := 23, pos := "l13_draw.go:27", after := _, guard := none }) rfl (fun K hK => ?_) AllReadyH.nil
              refine step_append_src _ rfl (.tmp 40) (.tmp 43) 23 rfl w8.heap.size 9 i0 (.string ⟨#[]⟩) 1 16 Try.underlying23 hi hz0 hz1 hz2 rfl (by decide) (.slice a8 (k + 1) c8) (k + 1) ((L.take k).flatMap encS1 ++ [.string x]) rfl o8 (some ⟨g, 0, none⟩) 0 0 [] rfl (src_nil _ _ _) (by simp) (by unfold maxLen; omega) (by omega) C8.size ?_
              intro r9 v9 o9 g9 _
              have C9 := C8.grown g9 C8.size (fun q hq => (o8.lt q hq).1)
              refine hK.out _ _ trivial (fun hHeld => ?_)
              clear hK K
              (try simp only [Act.put, List.setIfInBounds_toArray, List.set_cons_zero, List.set_cons_succ])
              obtain ⟨a9, c9, rfl⟩ := own_shape o9
              have y9 := g9.size
              refine wpAnyH_take (i := 12) (oi := { dst := some 4, op := Op.assign (Operand.tmp 44), type := 23, pos := "l13_draw.go:27", after := _, guard := none }) (v := ?_) rfl (by kernel_rfl) (by kernel_rfl) (by kernel_rfl) (fun _ _ _ h => h) (Or.inl ⟨by rfl, ?_⟩) (by first | assumption | trivial) ?_
              rotate_left
              · (intro w hSw; (try dsimp only at hSw); go_simp; (try with_reducible rfl))
              simp only [Act.put, List.setIfInBounds_toArray, List.set_cons_zero, List.set_cons_succ]
              refine wpAnyH_done (by kernel_rfl) ?_ _
              have hln : (L.take k ++ x :: L.drop k).length = k + 1 + 0 := by rw [List.length_append, List.length_take, List.length_cons, List.length_drop]; omega
              have hO := Lib.hid o9
              have hB := Lib.hid (B0.trans (C9.mono B0.size))
              go_wp2_with fail
              go_ret
              refine ⟨_, L.take k ++ x :: L.drop k, rfl, own_el1 (base := w8.heap.size) (e := 9) (n := k + 1 + 0) hln (by unfold maxLen; omega) (by omega) (by have := B0.size; omega) ?_, ins_small k HS.out hx, by omega, hB.out⟩
              rw [List.flatMap_append, List.flatMap_cons]
              have := hO.out
              rw [hdk]
              simpa [encS1] using this
            refine AllReadyH.cons (o := { dst := some 39, op := Op.buildSlice 23 1 #[(0, Operand.tmp 38)], type := 23, pos := "l13_draw.go:27", after := _, guard := none }) rfl (fun K hK => ?_) AllReadyH.nil
            go_simp
            refine hK.out _ _ trivial (fun hHeld => ?_)
            clear hK K
            (try simp only [Act.put, List.setIfInBounds_toArray, List.set_cons_zero, List.set_cons_succ])
            have C10 := B8.alloc B8.size (.cells #[.string x] 9)
            have s10 := src_new w8 [.string x] 9 1 1 w8.heap.size rfl rfl
            have y10 : w8.heap.size < (w8.alloc (.cells #[.string x] 9)).heap.size := by rw [World.size_alloc]; omega
            generalize w8.alloc (.cells #[.string x] 9) = v10 at C10 s10 y10  ⊢
            refine wpAnyH_ready (rs := [0]) (by kernel_rfl) (by simp) ?_
            refine AllReadyH.cons (o := { dst := some 33, op := Op.buildSlice 23 0 #[], type := 23, pos := "l13_draw.go:27", after := _, guard := none }) rfl (fun K hK => ?_) AllReadyH.nil
            go_simp
            refine hK.out _ _ trivial (fun hHeld => ?_)
            clear hK K
            (try simp only [Act.put, List.setIfInBounds_toArray, List.set_cons_zero, List.set_cons_succ])
            have C11 := C10.alloc C10.size (.cells #[] 9)
            have o11 := own_lit00 (base := w8.heap.size) v10 9 1 v10.heap.size rfl C10.size
            have s11 := s10.below (below_alloc v10 (.cells #[] 9))
            have y11 : v10.heap.size < (v10.alloc (.cells #[] 9)).heap.size := by rw [World.size_alloc]; omega
            generalize v10.alloc (.cells #[] 9) = v11 at C11 o11 y11 s11 ⊢
            refine wpAnyH_ready (rs := [4]) (by kernel_rfl) (by simp) ?_
            refine AllReadyH.cons (o := { dst := some 37, op := Op.call { callee := Callee.builtin Builtin.append, args := #[Operand.tmp 33, Operand.tmp 36], argTypes := #[23, 23] }, type := 23, pos := "l13_draw.go:27", after := _, guard := none }) rfl (fun K hK => ?_) AllReadyH.nil
            refine step_append_src _ rfl (.tmp 33) (.tmp 36) 23 rfl w8.heap.size 9 i0 (.string ⟨#[]⟩) 1 16 Try.underlying23 hi hz0 hz1 hz2 rfl (by decide) (.slice (some ⟨v10.heap.size, 0, none⟩) 0 0) (0) [] rfl o11 (some ⟨g, 0, none⟩) k k ((L.take k).flatMap encS1) rfl ((src_take encS1_len (by decide) hjl HE0.out).below C11) (fun u hu => one_s1 hu) (by unfold maxLen; omega) (by omega) C11.size ?_
            intro r12 v12 o12 g12 _
            have C12 := C11.grown g12 C11.size (fun q hq => (o11.lt q hq).1)
            refine hK.out _ _ trivial (fun hHeld => ?_)
            clear hK K
            (try simp only [Act.put, List.setIfInBounds_toArray, List.set_cons_zero, List.set_cons_succ])
            rw [Nat.zero_add, List.nil_append] at o12
            obtain ⟨a12, c12, rfl⟩ := own_shape o12
            have y12 := g12.size
            have s12 := s11.kept (kept_of_grown g12) (fun q hq e => by have e1 := own_blk e; simp at hq; omega)
            refine wpAnyH_ready (rs := [7]) (by kernel_rfl) (by simp) ?_
            refine AllReadyH.cons (o := { dst := some 40, op := Op.call { callee := Callee.builtin Builtin.append, args := #[Operand.tmp 37, Operand.tmp 39], argTypes := #[23, 23] }, type := 23, pos := "l13_draw.go:27", after := _, guard := none }) rfl (fun K hK => ?_) AllReadyH.nil
            refine step_append_src _ rfl (.tmp 37) (.tmp 39) 23 rfl w8.heap.size 9 i0 (.string ⟨#[]⟩) 1 16 Try.underlying23 hi hz0 hz1 hz2 rfl (by decide) (.slice a12 (k) c12) (k) ((L.take k).flatMap encS1) rfl o12 (some ⟨w8.heap.size, 0, none⟩) 1 1 [.string x] rfl s12 (by simp [Value.oneCell']) (by unfold maxLen; omega) (by omega) C12.size ?_
            intro r13 v13 o13 g13 _
            have C13 := C12.grown g13 C12.size (fun q hq => (o12.lt q hq).1)
            refine hK.out _ _ trivial (fun hHeld => ?_)
            clear hK K
            (try simp only [Act.put, List.setIfInBounds_toArray, List.set_cons_zero, List.set_cons_succ])
            obtain ⟨a13, c13, rfl⟩ := own_shape o13
            have y13 := g13.size
            refine wpAnyH_ready (rs := [11]) (by kernel_rfl) (by simp) ?_
            refine AllReadyH.cons (o := { dst := some 44, op := Op.call { callee := Callee.builtin Builtin.append, args := #[Operand.tmp 40, Operand.tmp 43], argTypes := #[23, 23] }, type := 23, pos := "l13_draw.go:27", after := _, guard := none }) rfl (fun K hK => ?_) AllReadyH.nil
            refine step_append_src _ rfl (.tmp 40) (.tmp 43) 23 rfl w8.heap.size 9 i0 (.string ⟨#[]⟩) 1 16 Try.underlying23 hi hz0 hz1 hz2 rfl (by decide) (.slice a13 (k + 1) c13) (k + 1) ((L.take k).flatMap encS1 ++ [.string x]) rfl o13 (some ⟨g, 0, none⟩) 0 0 [] rfl (src_nil _ _ _) (by simp) (by unfold maxLen; omega) (by omega) C13.size ?_
            intro r14 v14 o14 g14 _
            have C14 := C13.grown g14 C13.size (fun q hq => (o13.lt q hq).1)
            refine hK.out _ _ trivial (fun hHeld => ?_)
            clear hK K
            (try simp only [Act.put, List.setIfInBounds_toArray, List.set_cons_zero, List.set_cons_succ])
            obtain ⟨a14, c14, rfl⟩ := own_shape o14
            have y14 := g14.size
            refine wpAnyH_take (i := 12) (oi := { dst := some 4, op := Op.assign (Operand.tmp 44), type := 23, pos := "l13_draw.go:27", after := _, guard := none }) (v := ?_) rfl (by kernel_rfl) (by kernel_rfl) (by kernel_rfl) (fun _ _ _ h => h) (Or.inl ⟨by rfl, ?_⟩) (by first | assumption | trivial) ?_
            rotate_left
            · (intro w hSw; (try dsimp only at hSw); go_simp; (try with_reducible rfl))
            simp only [Act.put, List.setIfInBounds_toArray, List.set_cons_zero, List.set_cons_succ]
            refine wpAnyH_done (by kernel_rfl) ?_ _
            have hln : (L.take k ++ x :: L.drop k).length = k + 1 + 0 := by rw [List.length_append, List.length_take, List.length_cons, List.length_drop]; omega
            have hO := Lib.hid o14
            have hB := Lib.hid (B0.trans (C14.mono B0.size))
            go_wp2_with fail
            go_ret
            refine ⟨_, L.take k ++ x :: L.drop k, rfl, own_el1 (base := w8.heap.size) (e := 9) (n := k + 1 + 0) hln (by unfold maxLen; omega) (by omega) (by have := B0.size; omega) ?_, ins_small k HS.out hx, by omega, hB.out⟩
            rw [List.flatMap_append, List.flatMap_cons]
            have := hO.out
            rw [hdk]
            simpa [encS1] using this
          · have hck2 : ¬ cb = k := fun h => hck h.symm
            have hck3 : k < cb := by omega
            clear hck
            refine wp_region_held_drew (S := fun _ => True) (by kernel_rfl) (trivial) (fun hHeld => ?_)
            obtain ⟨w8, hw8⟩ := hw0
            clear hHeld; rw [hw8] at HE0 ⊢
            have KS : ∀ W', Below w8.heap.size w8 W' → (fun _ => True) W' := fun W' hb => trivial
            have B8 : Below w8.heap.size w8 w8 := Below.refl _ _
            have hgl8 : g < w8.heap.size := els_block HE0.out h0 encS1_len (by decide)
            have B0 : Below w.heap.size w w8 := by rw [← hw8]; exact (Below.refl _ _).drew
            refine wpAnyH_take (i := 1) (oi := { dst := some 34, op := Op.move (Operand.tmp 0), type := 23, pos := "l13_draw.go:27", after := _, guard := none }) (v := ?_) rfl (by kernel_rfl) (by kernel_rfl) (by kernel_rfl) (fun _ _ _ h => h) (Or.inl ⟨by rfl, ?_⟩) (by first | assumption | trivial) ?_
            rotate_left
            · (intro w hSw; (try dsimp only at hSw); go_simp; (try with_reducible rfl))
            simp only [Act.put, List.setIfInBounds_toArray, List.set_cons_zero, List.set_cons_succ]
            refine wpAnyH_take (i := 2) (oi := { dst := some 35, op := Op.move (Operand.tmp 5), type := 3, pos := "l13_draw.go:27", after := _, guard := none }) (v := ?_) rfl (by kernel_rfl) (by kernel_rfl) (by kernel_rfl) (fun _ _ _ h => h) (Or.inl ⟨by rfl, ?_⟩) (by first | assumption | trivial) ?_
            rotate_left
            · (intro w hSw; (try dsimp only at hSw); go_simp; (try with_reducible rfl))
            simp only [Act.put, List.setIfInBounds_toArray, List.set_cons_zero, List.set_cons_succ]
            refine wpAnyH_take (i := 3) (oi := { dst := some 36, op := Op.slice 23 (Operand.tmp 34) none (some (Operand.tmp 35)) none, type := 23, pos := "l13_draw.go:27", after := _, guard := none }) (v := ?_) rfl (by kernel_rfl) (by kernel_rfl) (by kernel_rfl) (fun _ _ _ h => h) (Or.inl ⟨by rfl, ?_⟩) (by first | assumption | trivial) ?_
            rotate_left
            · (intro w hSw; (try dsimp only at hSw); go_simp; (try with_reducible rfl))
            simp only [Act.put, List.setIfInBounds_toArray, List.set_cons_zero, List.set_cons_succ]
            refine wpAnyH_take (i := 5) (oi := { dst := some 38, op := Op.move (Operand.tmp 1), type := 9, pos := "l13_draw.go:27", after := _, guard := none }) (v := ?_) rfl (by kernel_rfl) (by kernel_rfl) (by kernel_rfl) (fun _ _ _ h => h) (Or.inl ⟨by rfl, ?_⟩) (by first | assumption | trivial) ?_
            rotate_left
            · (intro w hSw; (try dsimp only at hSw); go_simp; (try with_reducible rfl))
            simp only [Act.put, List.setIfInBounds_toArray, List.set_cons_zero, List.set_cons_succ]
            refine wpAnyH_take (i := 8) (oi := { dst := some 41, op := Op.move (Operand.tmp 0), type := 23, pos := "l13_draw.go:27", after := _, guard := none }) (v := ?_) rfl (by kernel_rfl) (by kernel_rfl) (by kernel_rfl) (fun _ _ _ h => h) (Or.inl ⟨by rfl, ?_⟩) (by first | assumption | trivial) ?_
            rotate_left
            · (intro w hSw; (try dsimp only at hSw); go_simp; (try with_reducible rfl))
            simp only [Act.put, List.setIfInBounds_toArray, List.set_cons_zero, List.set_cons_succ]
            refine wpAnyH_take (i := 9) (oi := { dst := some 42, op := Op.move (Operand.tmp 5), type := 3, pos := "l13_draw.go:27", after := _, guard := none }) (v := ?_) rfl (by kernel_rfl) (by kernel_rfl) (by kernel_rfl) (fun _ _ _ h => h) (Or.inl ⟨by rfl, ?_⟩) (by first | assumption | trivial) ?_
            rotate_left
            · (intro w hSw; (try dsimp only at hSw); go_simp; (try with_reducible rfl))
            simp only [Act.put, List.setIfInBounds_toArray, List.set_cons_zero, List.set_cons_succ]
            refine wpAnyH_take (i := 10) (oi := { dst := some 43, op := Op.slice 23 (Operand.tmp 41) (some (Operand.tmp 42)) none none, type := 23, pos := "l13_draw.go:27", after := _, guard := none }) (v := ?_) rfl (by kernel_rfl) (by kernel_rfl) (by kernel_rfl) (fun _ _ _ h => h) (Or.inl ⟨by rfl, ?_⟩) (by first | assumption | trivial) ?_
            rotate_left
            · (intro w hSw; (try dsimp only at hSw); go_simp; (try with_reducible rfl))
            simp only [Act.put, List.setIfInBounds_toArray, List.set_cons_zero, List.set_cons_succ]
            refine wpAnyH_ready (rs := [0, 6]) (by kernel_rfl) (by simp) ?_
            refine AllReadyH.cons (o := { dst := some 33, op := Op.buildSlice 23 0 #[], type := 23, pos := "l13_draw.go:27", after := _, guard := none }) rfl (fun K hK => ?_) ?_
            · skip
              go_simp
              refine hK.out _ _ trivial (fun hHeld => ?_)
              clear hK K
              (try simp only [Act.put, List.setIfInBounds_toArray, List.set_cons_zero, List.set_cons_succ])
              have C1 := B8.alloc B8.size (.cells #[] 9)
              have o1 := own_lit00 (base := w8.heap.size) w8 9 1 w8.heap.size rfl B8.size
              have y1 : w8.heap.size < (w8.alloc (.cells #[] 9)).heap.size := by rw [World.size_alloc]; omega
              generalize w8.alloc (.cells #[] 9) = v1 at C1 o1 y1  ⊢
              refine wpAnyH_ready (rs := [4, 6]) (by kernel_rfl) (by simp) ?_
              refine AllReadyH.cons (o := { dst := some 37, op := Op.call { callee := Callee.builtin Builtin.append, args := #[Operand.tmp 33, Operand.tmp 36], argTypes := #[23, 23] }, type := 23, pos := "l13_draw.go:27", after := _, guard := none }) rfl (fun K hK => ?_) ?_
              · skip
                refine step_append_src _ rfl (.tmp 33) (.tmp 36) 23 rfl w8.heap.size 9 i0 (.string ⟨#[]⟩) 1 16 Try.underlying23 hi hz0 hz1 hz2 rfl (by decide) (.slice (some ⟨w8.heap.size, 0, none⟩) 0 0) (0) [] rfl o1 (some ⟨g, 0, none⟩) k cb ((L.take k).flatMap encS1) rfl ((src_take encS1_len (by decide) hjl HE0.out).below C1) (fun u hu => one_s1 hu) (by unfold maxLen; omega) (by omega) C1.size ?_
                intro r2 v2 o2 g2 _
                have C2 := C1.grown g2 C1.size (fun q hq => (o1.lt q hq).1)
                refine hK.out _ _ trivial (fun hHeld => ?_)
                clear hK K
                (try simp only [Act.put, List.setIfInBounds_toArray, List.set_cons_zero, List.set_cons_succ])
                rw [Nat.zero_add, List.nil_append] at o2
                obtain ⟨a2, c2, rfl⟩ := own_shape o2
                have y2 := g2.size
                refine wpAnyH_ready (rs := [6]) (by kernel_rfl) (by simp) ?_
                refine AllReadyH.cons (o := { dst := some 39, op := Op.buildSlice 23 1 #[(0, Operand.tmp 38)], type := 23, pos := "l13_draw.go:27", after := _, guard := none }) rfl (fun K hK => ?_) AllReadyH.nil
                go_simp
                refine hK.out _ _ trivial (fun hHeld => ?_)
                clear hK K
                (try simp only [Act.put, List.setIfInBounds_toArray, List.set_cons_zero, List.set_cons_succ])
                have C3 := C2.alloc C2.size (.cells #[.string x] 9)
                have s3 := src_new v2 [.string x] 9 1 1 v2.heap.size rfl rfl
                have y3 : v2.heap.size < (v2.alloc (.cells #[.string x] 9)).heap.size := by rw [World.size_alloc]; omega
                have o3 := own_below o2 (below_alloc v2 (.cells #[.string x] 9))
                generalize v2.alloc (.cells #[.string x] 9) = v3 at C3 s3 y3 o3 ⊢
                refine wpAnyH_ready (rs := [7]) (by kernel_rfl) (by simp) ?_
                refine AllReadyH.cons (o := { dst := some 40, op := Op.call { callee := Callee.builtin Builtin.append, args := #[Operand.tmp 37, Operand.tmp 39], argTypes := #[23, 23] }, type := 23, pos := "l13_draw.go:27", after := _, guard := none }) rfl (fun K hK => ?_) AllReadyH.nil
                refine step_append_src _ rfl (.tmp 37) (.tmp 39) 23 rfl w8.heap.size 9 i0 (.string ⟨#[]⟩) 1 16 Try.underlying23 hi hz0 hz1 hz2 rfl (by decide) (.slice a2 (k) c2) (k) ((L.take k).flatMap encS1) rfl o3 (some ⟨v2.heap.size, 0, none⟩) 1 1 [.string x] rfl s3 (by simp [Value.oneCell']) (by unfold maxLen; omega) (by omega) C3.size ?_
                intro r4 v4 o4 g4 _
                have C4 := C3.grown g4 C3.size (fun q hq => (o3.lt q hq).1)
                refine hK.out _ _ trivial (fun hHeld => ?_)
                clear hK K
                (try simp only [Act.put, List.setIfInBounds_toArray, List.set_cons_zero, List.set_cons_succ])
                obtain ⟨a4, c4, rfl⟩ := own_shape o4
                have y4 := g4.size
                refine wpAnyH_ready (rs := [11]) (by kernel_rfl) (by simp) ?_
                refine AllReadyH.cons (o := { dst := some 44, op := Op.call { callee := Callee.builtin Builtin.append, args := #[Operand.tmp 40, Operand.tmp 43], argTypes := #[23, 23] }, type := 23, pos := "l13_draw.go:27", after := _, guard := none }) rfl (fun K hK => ?_) AllReadyH.nil
                refine step_append_src _ rfl (.tmp 40) (.tmp 43) 23 rfl w8.heap.size 9 i0 (.string ⟨#[]⟩) 1 16 Try.underlying23 hi hz0 hz1 hz2 rfl (by decide) (.slice a4 (k + 1) c4) (k + 1) ((L.take k).flatMap encS1 ++ [.string x]) rfl o4 (some ⟨g, k, none⟩) (L.length - k) (cb - k) ((L.drop k).flatMap encS1) rfl ((src_drop1 HE0.out).below C4) (fun u hu => one_s1 hu) (by unfold maxLen; omega) (by omega) C4.size ?_
                intro r5 v5 o5 g5 _
                have C5 := C4.grown g5 C4.size (fun q hq => (o4.lt q hq).1)
                refine hK.out _ _ trivial (fun hHeld => ?_)
                clear hK K
                (try simp only [Act.put, List.setIfInBounds_toArray, List.set_cons_zero, List.set_cons_succ])
                obtain ⟨a5, c5, rfl⟩ := own_shape o5
                have y5 := g5.size
                refine wpAnyH_take (i := 12) (oi := { dst := some 4, op := Op.assign (Operand.tmp 44), type := 23, pos := "l13_draw.go:27", after := _, guard := none }) (v := ?_) rfl (by kernel_rfl) (by kernel_rfl) (by kernel_rfl) (fun _ _ _ h => h) (Or.inl ⟨by rfl, ?_⟩) (by first | assumption | trivial) ?_
                rotate_left
                · (intro w hSw; (try dsimp only at hSw); go_simp; (try with_reducible rfl))
                simp only [Act.put, List.setIfInBounds_toArray, List.set_cons_zero, List.set_cons_succ]
                refine wpAnyH_done (by kernel_rfl) ?_ _
                have hln : (L.take k ++ x :: L.drop k).length = k + 1 + (L.length - k) := by rw [List.length_append, List.length_take, List.length_cons, List.length_drop]; omega
                have hO := Lib.hid o5
                have hB := Lib.hid (B0.trans (C5.mono B0.size))
                go_wp2_with fail
                go_ret
                refine ⟨_, L.take k ++ x :: L.drop k, rfl, own_el1 (base := w8.heap.size) (e := 9) (n := k + 1 + (L.length - k)) hln (by unfold maxLen; omega) (by omega) (by have := B0.size; omega) ?_, ins_small k HS.out hx, by omega, hB.out⟩
                rw [List.flatMap_append, List.flatMap_cons]
                have := hO.out
                simpa [encS1] using this
              refine AllReadyH.cons (o := { dst := some 39, op := Op.buildSlice 23 1 #[(0, Operand.tmp 38)], type := 23, pos := "l13_draw.go:27", after := _, guard := none }) rfl (fun K hK => ?_) AllReadyH.nil
              go_simp
              refine hK.out _ _ trivial (fun hHeld => ?_)
              clear hK K
              (try simp only [Act.put, List.setIfInBounds_toArray, List.set_cons_zero, List.set_cons_succ])
              have C6 := C1.alloc C1.size (.cells #[.string x] 9)
              have s6 := src_new v1 [.string x] 9 1 1 v1.heap.size rfl rfl
              have y6 : v1.heap.size < (v1.alloc (.cells #[.string x] 9)).heap.size := by rw [World.size_alloc]; omega
              have o6 := own_below o1 (below_alloc v1 (.cells #[.string x] 9))
              generalize v1.alloc (.cells #[.string x] 9) = v6 at C6 s6 y6 o6 ⊢
              refine wpAnyH_ready (rs := [4]) (by kernel_rfl) (by simp) ?_
              refine AllReadyH.cons (o := { dst := some 37, op := Op.call { callee := Callee.builtin Builtin.append, args := #[Operand.tmp 33, Operand.tmp 36], argTypes := #[23, 23] }, type := 23, pos := "l13_draw.go:27", after := _, guard := none }) rfl (fun K hK => ?_) AllReadyH.nil
              refine step_append_src _ rfl (.tmp 33) (.tmp 36) 23 rfl w8.heap.size 9 i0 (.string ⟨#[]⟩) 1 16 Try.underlying23 hi hz0 hz1 hz2 rfl (by decide) (.slice (some ⟨w8.heap.size, 0, none⟩) 0 0) (0) [] rfl o6 (some ⟨g, 0, none⟩) k cb ((L.take k).flatMap encS1) rfl ((src_take encS1_len (by decide) hjl HE0.out).below C6) (fun u hu => one_s1 hu) (by unfold maxLen; omega) (by omega) C6.size ?_
              intro r7 v7 o7 g7 _
              have C7 := C6.grown g7 C6.size (fun q hq => (o6.lt q hq).1)
              refine hK.out _ _ trivial (fun hHeld => ?_)
              clear hK K
              (try simp only [Act.put, List.setIfInBounds_toArray, List.set_cons_zero, List.set_cons_succ])
              rw [Nat.zero_add, List.nil_append] at o7
              obtain ⟨a7, c7, rfl⟩ := own_shape o7
              have y7 := g7.size
              have s7 := s6.kept (kept_of_grown g7) (fun q hq e => by have e1 := own_blk e; simp at hq; omega)
              refine wpAnyH_ready (rs := [7]) (by kernel_rfl) (by simp) ?_
              refine AllReadyH.cons (o := { dst := some 40, op := Op.call { callee := Callee.builtin Builtin.append, args := #[Operand.tmp 37, Operand.tmp 39], argTypes := #[23, 23] }, type := 23, pos := "l13_draw.go:27", after := _, guard := none }) rfl (fun K hK => ?_) AllReadyH.nil
              refine step_append_src _ rfl (.tmp 37) (.tmp 39) 23 rfl w8.heap.size 9 i0 (.string ⟨#[]⟩) 1 16 Try.underlying23 hi hz0 hz1 hz2 rfl (by decide) (.slice a7 (k) c7) (k) ((L.take k).flatMap encS1) rfl o7 (some ⟨v1.heap.size, 0, none⟩) 1 1 [.string x] rfl s7 (by simp [Value.oneCell']) (by unfold maxLen; omega) (by omega) C7.size ?_
              intro r8 v8 o8 g8 _
              have C8 := C7.grown g8 C7.size (fun q hq => (o7.lt q hq).1)
              refine hK.out _ _ trivial (fun hHeld => ?_)
              clear hK K
              (try simp only [Act.put, List.setIfInBounds_toArray, List.set_cons_zero, List.set_cons_succ])
              obtain ⟨a8, c8, rfl⟩ := own_shape o8
              have y8 := g8.size
              refine wpAnyH_ready (rs := [11]) (by kernel_rfl) (by simp) ?_
              refine AllReadyH.cons (o := { dst := some 44, op := Op.call { callee := Callee.builtin Builtin.append, args := #[Operand.tmp 40, Operand.tmp 43], argTypes := #[23, 23] }, type := 23, pos := "l13_draw.go:27", after := _, guard := none }) rfl (fun K hK => ?_) AllReadyH.nil
              refine step_append_src _ rfl (.tmp 40) (.tmp 43) 23 rfl w8.heap.size 9 i0 (.string ⟨#[]⟩) 1 16 Try.underlying23 hi hz0 hz1 hz2 rfl (by decide) (.slice a8 (k + 1) c8) (k + 1) ((L.take k).flatMap encS1 ++ [.string x]) rfl o8 (some ⟨g, k, none⟩) (L.length - k) (cb - k) ((L.drop k).flatMap encS1) rfl ((src_drop1 HE0.out).below C8) (fun u hu => one_s1 hu) (by unfold maxLen; omega) (by omega) C8.size ?_
              intro r9 v9 o9 g9 _
              have C9 := C8.grown g9 C8.size (fun q hq => (o8.lt q hq).1)
              refine hK.out _ _ trivial (fun hHeld => ?_)
              clear hK K
              (try simp only [Act.put, List.setIfInBounds_toArray, List.set_cons_zero, List.set_cons_succ])
              obtain ⟨a9, c9, rfl⟩ := own_shape o9
              have y9 := g9.size
              refine wpAnyH_take (i := 12) (oi := { dst := some 4, op := Op.assign (Operand.tmp 44), type := 23, pos := "l13_draw.go:27", after := _, guard := none }) (v := ?_) rfl (by kernel_rfl) (by kernel_rfl) (by kernel_rfl) (fun _ _ _ h => h) (Or.inl ⟨by rfl, ?_⟩) (by first | assumption | trivial) ?_
              rotate_left
              · (intro w hSw; (try dsimp only at hSw); go_simp; (try with_reducible rfl))
              simp only [Act.put, List.setIfInBounds_toArray, List.set_cons_zero, List.set_cons_succ]
              refine wpAnyH_done (by kernel_rfl) ?_ _
              have hln : (L.take k ++ x :: L.drop k).length = k + 1 + (L.length - k) := by rw [List.length_append, List.length_take, List.length_cons, List.length_drop]; omega
              have hO := Lib.hid o9
              have hB := Lib.hid (B0.trans (C9.mono B0.size))
              go_wp2_with fail
              go_ret
              refine ⟨_, L.take k ++ x :: L.drop k, rfl, own_el1 (base := w8.heap.size) (e := 9) (n := k + 1 + (L.length - k)) hln (by unfold maxLen; omega) (by omega) (by have := B0.size; omega) ?_, ins_small k HS.out hx, by omega, hB.out⟩
              rw [List.flatMap_append, List.flatMap_cons]
              have := hO.out
              simpa [encS1] using this
            refine AllReadyH.cons (o := { dst := some 39, op := Op.buildSlice 23 1 #[(0, Operand.tmp 38)], type := 23, pos := "l13_draw.go:27", after := _, guard := none }) rfl (fun K hK => ?_) AllReadyH.nil
            go_simp
            refine hK.out _ _ trivial (fun hHeld => ?_)
            clear hK K
            (try simp only [Act.put, List.setIfInBounds_toArray, List.set_cons_zero, List.set_cons_succ])
            have C10 := B8.alloc B8.size (.cells #[.string x] 9)
            have s10 := src_new w8 [.string x] 9 1 1 w8.heap.size rfl rfl
            have y10 : w8.heap.size < (w8.alloc (.cells #[.string x] 9)).heap.size := by rw [World.size_alloc]; omega
            generalize w8.alloc (.cells #[.string x] 9) = v10 at C10 s10 y10  ⊢
            refine wpAnyH_ready (rs := [0]) (by kernel_rfl) (by simp) ?_
            refine AllReadyH.cons (o := { dst := some 33, op := Op.buildSlice 23 0 #[], type := 23, pos := "l13_draw.go:27", after := _, guard := none }) rfl (fun K hK => ?_) AllReadyH.nil
            go_simp
            refine hK.out _ _ trivial (fun hHeld => ?_)
            clear hK K
            (try simp only [Act.put, List.setIfInBounds_toArray, List.set_cons_zero, List.set_cons_succ])
            have C11 := C10.alloc C10.size (.cells #[] 9)
            have o11 := own_lit00 (base := w8.heap.size) v10 9 1 v10.heap.size rfl C10.size
            have s11 := s10.below (below_alloc v10 (.cells #[] 9))
            have y11 : v10.heap.size < (v10.alloc (.cells #[] 9)).heap.size := by rw [World.size_alloc]; omega
            generalize v10.alloc (.cells #[] 9) = v11 at C11 o11 y11 s11 ⊢
            refine wpAnyH_ready (rs := [4]) (by kernel_rfl) (by simp) ?_
            refine AllReadyH.cons (o := { dst := some 37, op := Op.call { callee := Callee.builtin Builtin.append, args := #[Operand.tmp 33, Operand.tmp 36], argTypes := #[23, 23] }, type := 23, pos := "l13_draw.go:27", after := _, guard := none }) rfl (fun K hK => ?_) AllReadyH.nil
            refine step_append_src _ rfl (.tmp 33) (.tmp 36) 23 rfl w8.heap.size 9 i0 (.string ⟨#[]⟩) 1 16 Try.underlying23 hi hz0 hz1 hz2 rfl (by decide) (.slice (some ⟨v10.heap.size, 0, none⟩) 0 0) (0) [] rfl o11 (some ⟨g, 0, none⟩) k cb ((L.take k).flatMap encS1) rfl ((src_take encS1_len (by decide) hjl HE0.out).below C11) (fun u hu => one_s1 hu) (by unfold maxLen; omega) (by omega) C11.size ?_
            intro r12 v12 o12 g12 _
            have C12 := C11.grown g12 C11.size (fun q hq => (o11.lt q hq).1)
            refine hK.out _ _ trivial (fun hHeld => ?_)
            clear hK K
            (try simp only [Act.put, List.setIfInBounds_toArray, List.set_cons_zero, List.set_cons_succ])
            rw [Nat.zero_add, List.nil_append] at o12
            obtain ⟨a12, c12, rfl⟩ := own_shape o12
            have y12 := g12.size
            have s12 := s11.kept (kept_of_grown g12) (fun q hq e => by have e1 := own_blk e; simp at hq; omega)
            refine wpAnyH_ready (rs := [7]) (by kernel_rfl) (by simp) ?_
            refine AllReadyH.cons (o := { dst := some 40, op := Op.call { callee := Callee.builtin Builtin.append, args := #[Operand.tmp 37, Operand.tmp 39], argTypes := #[23, 23] }, type := 23, pos := "l13_draw.go:27", after := _, guard := none }) rfl (fun K hK => ?_) AllReadyH.nil
            refine step_append_src _ rfl (.tmp 37) (.tmp 39) 23 rfl w8.heap.size 9 i0 (.string ⟨#[]⟩) 1 16 Try.underlying23 hi hz0 hz1 hz2 rfl (by decide) (.slice a12 (k) c12) (k) ((L.take k).flatMap encS1) rfl o12 (some ⟨w8.heap.size, 0, none⟩) 1 1 [.string x] rfl s12 (by simp [Value.oneCell']) (by unfold maxLen; omega) (by omega) C12.size ?_
            intro r13 v13 o13 g13 _
            have C13 := C12.grown g13 C12.size (fun q hq => (o12.lt q hq).1)
            refine hK.out _ _ trivial (fun hHeld => ?_)
            clear hK K
            (try simp only [Act.put, List.setIfInBounds_toArray, List.set_cons_zero, List.set_cons_succ])
            obtain ⟨a13, c13, rfl⟩ := own_shape o13
            have y13 := g13.size
            refine wpAnyH_ready (rs := [11]) (by kernel_rfl) (by simp) ?_
            refine AllReadyH.cons (o := { dst := some 44, op := Op.call { callee := Callee.builtin Builtin.append, args := #[Operand.tmp 40, Operand.tmp 43], argTypes := #[23, 23] }, type := 23, pos := "l13_draw.go:27", after := _, guard := none }) rfl (fun K hK => ?_) AllReadyH.nil
            refine step_append_src _ rfl (.tmp 40) (.tmp 43) 23 rfl w8.heap.size 9 i0 (.string ⟨#[]⟩) 1 16 Try.underlying23 hi hz0 hz1 hz2 rfl (by decide) (.slice a13 (k + 1) c13) (k + 1) ((L.take k).flatMap encS1 ++ [.string x]) rfl o13 (some ⟨g, k, none⟩) (L.length - k) (cb - k) ((L.drop k).flatMap encS1) rfl ((src_drop1 HE0.out).below C13) (fun u hu => one_s1 hu) (by unfold maxLen; omega) (by omega) C13.size ?_
            intro r14 v14 o14 g14 _
            have C14 := C13.grown g14 C13.size (fun q hq => (o13.lt q hq).1)
            refine hK.out _ _ trivial (fun hHeld => ?_)
            clear hK K
            (try simp only [Act.put, List.setIfInBounds_toArray, List.set_cons_zero, List.set_cons_succ])
            obtain ⟨a14, c14, rfl⟩ := own_shape o14
            have y14 := g14.size
            refine wpAnyH_take (i := 12) (oi := { dst := some 4, op := Op.assign (Operand.tmp 44), type := 23, pos := "l13_draw.go:27", after := _, guard := none }) (v := ?_) rfl (by kernel_rfl) (by kernel_rfl) (by kernel_rfl) (fun _ _ _ h => h) (Or.inl ⟨by rfl, ?_⟩) (by first | assumption | trivial) ?_
            rotate_left
            · (intro w hSw; (try dsimp only at hSw); go_simp; (try with_reducible rfl))
            simp only [Act.put, List.setIfInBounds_toArray, List.set_cons_zero, List.set_cons_succ]
            refine wpAnyH_done (by kernel_rfl) ?_ _
            have hln : (L.take k ++ x :: L.drop k).length = k + 1 + (L.length - k) := by rw [List.length_append, List.length_take, List.length_cons, List.length_drop]; omega
            have hO := Lib.hid o14
            have hB := Lib.hid (B0.trans (C14.mono B0.size))
            go_wp2_with fail
            go_ret
            refine ⟨_, L.take k ++ x :: L.drop k, rfl, own_el1 (base := w8.heap.size) (e := 9) (n := k + 1 + (L.length - k)) hln (by unfold maxLen; omega) (by omega) (by have := B0.size; omega) ?_, ins_small k HS.out hx, by omega, hB.out⟩
            rw [List.flatMap_append, List.flatMap_cons]
            have := hO.out
            simpa [encS1] using this
    · have hd : decide (k < L.length) = false := decide_eq_false hlt
      go_wp2_with fail
      have HE := HL.out
      have hjl : k ≤ L.length := hk
      have HE0 := Lib.hid (show ElS 1 encS1 w.drew (some ⟨g, 0, none⟩) L from HE.below ((Below.refl _ _).drew))
      have hw0 : ∃ w8, w.drew = w8 := ⟨_, rfl⟩
      have hj0 : (0 : Int) ≤ (k : Int) := by omega
      have hjn : (k : Int) ≤ (L.length : Int) := by omega
      have hjc : (k : Int) ≤ (cb : Int) := by omega
      have hnc : (L.length : Int) ≤ (cb : Int) := by omega
      by_cases hck : k = cb
      · have hdk : L.drop k = [] := List.drop_of_length_le (by omega)
        subst hck
        refine wp_region_held_drew (S := fun _ => True) (by kernel_rfl) (trivial) (fun hHeld => ?_)
        obtain ⟨w8, hw8⟩ := hw0
        clear hHeld; rw [hw8] at HE0 ⊢
        have KS : ∀ W', Below w8.heap.size w8 W' → (fun _ => True) W' := fun W' hb => trivial
        have B8 : Below w8.heap.size w8 w8 := Below.refl _ _
        have hgl8 : g < w8.heap.size := els_block HE0.out h0 encS1_len (by decide)
        have B0 : Below w.heap.size w w8 := by rw [← hw8]; exact (Below.refl _ _).drew
        refine wpAnyH_take (i := 1) (oi := { dst := some 34, op := Op.move (Operand.tmp 0), type := 23, pos := "l13_draw.go:27", after := _, guard := none }) (v := ?_) rfl (by kernel_rfl) (by kernel_rfl) (by kernel_rfl) (fun _ _ _ h => h) (Or.inl ⟨by rfl, ?_⟩) (by first | assumption | trivial) ?_
        rotate_left
        · (intro w hSw; (try dsimp only at hSw); go_simp; (try with_reducible rfl))
        simp only [Act.put, List.setIfInBounds_toArray, List.set_cons_zero, List.set_cons_succ]
        refine wpAnyH_take (i := 2) (oi := { dst := some 35, op := Op.move (Operand.tmp 5), type := 3, pos := "l13_draw.go:27", after := _, guard := none }) (v := ?_) rfl (by kernel_rfl) (by kernel_rfl) (by kernel_rfl) (fun _ _ _ h => h) (Or.inl ⟨by rfl, ?_⟩) (by first | assumption | trivial) ?_
        rotate_left
        · (intro w hSw; (try dsimp only at hSw); go_simp; (try with_reducible rfl))
        simp only [Act.put, List.setIfInBounds_toArray, List.set_cons_zero, List.set_cons_succ]
        refine wpAnyH_take (i := 3) (oi := { dst := some 36, op := Op.slice 23 (Operand.tmp 34) none (some (Operand.tmp 35)) none, type := 23, pos := "l13_draw.go:27", after := _, guard := none }) (v := ?_) rfl (by kernel_rfl) (by kernel_rfl) (by kernel_rfl) (fun _ _ _ h => h) (Or.inl ⟨by rfl, ?_⟩) (by first | assumption | trivial) ?_
        rotate_left
        · (intro w hSw; (try dsimp only at hSw); go_simp; (try with_reducible rfl))
        simp only [Act.put, List.setIfInBounds_toArray, List.set_cons_zero, List.set_cons_succ]
        refine wpAnyH_take (i := 5) (oi := { dst := some 38, op := Op.move (Operand.tmp 1), type := 9, pos := "l13_draw.go:27", after := _, guard := none }) (v := ?_) rfl (by kernel_rfl) (by kernel_rfl) (by kernel_rfl) (fun _ _ _ h => h) (Or.inl ⟨by rfl, ?_⟩) (by first | assumption | trivial) ?_
        rotate_left
        · (intro w hSw; (try dsimp only at hSw); go_simp; (try with_reducible rfl))
        simp only [Act.put, List.setIfInBounds_toArray, List.set_cons_zero, List.set_cons_succ]
        refine wpAnyH_take (i := 8) (oi := { dst := some 41, op := Op.move (Operand.tmp 0), type := 23, pos := "l13_draw.go:27", after := _, guard := none }) (v := ?_) rfl (by kernel_rfl) (by kernel_rfl) (by kernel_rfl) (fun _ _ _ h => h) (Or.inl ⟨by rfl, ?_⟩) (by first | assumption | trivial) ?_
        rotate_left
        · (intro w hSw; (try dsimp only at hSw); go_simp; (try with_reducible rfl))
        simp only [Act.put, List.setIfInBounds_toArray, List.set_cons_zero, List.set_cons_succ]
        refine wpAnyH_take (i := 9) (oi := { dst := some 42, op := Op.move (Operand.tmp 5), type := 3, pos := "l13_draw.go:27", after := _, guard := none }) (v := ?_) rfl (by kernel_rfl) (by kernel_rfl) (by kernel_rfl) (fun _ _ _ h => h) (Or.inl ⟨by rfl, ?_⟩) (by first | assumption | trivial) ?_
        rotate_left
        · (intro w hSw; (try dsimp only at hSw); go_simp; (try with_reducible rfl))
        simp only [Act.put, List.setIfInBounds_toArray, List.set_cons_zero, List.set_cons_succ]
        refine wpAnyH_take (i := 10) (oi := { dst := some 43, op := Op.slice 23 (Operand.tmp 41) (some (Operand.tmp 42)) none none, type := 23, pos := "l13_draw.go:27", after := _, guard := none }) (v := ?_) rfl (by kernel_rfl) (by kernel_rfl) (by kernel_rfl) (fun _ _ _ h => h) (Or.inl ⟨by rfl, ?_⟩) (by first | assumption | trivial) ?_
        rotate_left
        · (intro w hSw; (try dsimp only at hSw); go_simp; (try with_reducible rfl))
        simp only [Act.put, List.setIfInBounds_toArray, List.set_cons_zero, List.set_cons_succ]
        refine wpAnyH_ready (rs := [0, 6]) (by kernel_rfl) (by simp) ?_
        refine AllReadyH.cons (o := { dst := some 33, op := Op.buildSlice 23 0 #[], type := 23, pos := "l13_draw.go:27", after := _, guard := none }) rfl (fun K hK => ?_) ?_
        · skip
          go_simp
          refine hK.out _ _ trivial (fun hHeld => ?_)
          clear hK K
          (try simp only [Act.put, List.setIfInBounds_toArray, List.set_cons_zero, List.set_cons_succ])
          have C1 := B8.alloc B8.size (.cells #[] 9)
          have o1 := own_lit00 (base := w8.heap.size) w8 9 1 w8.heap.size rfl B8.size
          have y1 : w8.heap.size < (w8.alloc (.cells #[] 9)).heap.size := by rw [World.size_alloc]; omega
          generalize w8.alloc (.cells #[] 9) = v1 at C1 o1 y1  ⊢
          refine wpAnyH_ready (rs := [4, 6]) (by kernel_rfl) (by simp) ?_
          refine AllReadyH.cons (o := { dst := some 37, op := Op.call { callee := Callee.builtin Builtin.append, args := #[Operand.tmp 33, Operand.tmp 36], argTypes := #[23, 23] }, type := 23, pos := "l13_draw.go:27", after := _, guard := none }) rfl (fun K hK => ?_) ?_
          · skip
            refine step_append_src _ rfl (.tmp 33) (.tmp 36) 23 rfl w8.heap.size 9 i0 (.string ⟨#[]⟩) 1 16 Try.underlying23 hi hz0 hz1 hz2 rfl (by decide) (.slice (some ⟨w8.heap.size, 0, none⟩) 0 0) (0) [] rfl o1 (some ⟨g, 0, none⟩) k k ((L.take k).flatMap encS1) rfl ((src_take encS1_len (by decide) hjl HE0.out).below C1) (fun u hu => one_s1 hu) (by unfold maxLen; omega) (by omega) C1.size ?_
            intro r2 v2 o2 g2 _
            have C2 := C1.grown g2 C1.size (fun q hq => (o1.lt q hq).1)
            refine hK.out _ _ trivial (fun hHeld => ?_)
            clear hK K
            (try simp only [Act.put, List.setIfInBounds_toArray, List.set_cons_zero, List.set_cons_succ])
            rw [Nat.zero_add, List.nil_append] at o2
            obtain ⟨a2, c2, rfl⟩ := own_shape o2
            have y2 := g2.size
            refine wpAnyH_ready (rs := [6]) (by kernel_rfl) (by simp) ?_
            refine AllReadyH.cons (o := { dst := some 39, op := Op.buildSlice 23 1 #[(0, Operand.tmp 38)], type := 23, pos := "l13_draw.go:27", after := _, guard := none }) rfl (fun K hK => ?_) AllReadyH.nil
            go_simp
            refine hK.out _ _ trivial (fun hHeld => ?_)
            clear hK K
            (try simp only [Act.put, List.setIfInBounds_toArray, List.set_cons_zero, List.set_cons_succ])
            have C3 := C2.alloc C2.size (.cells #[.string x] 9)
            have s3 := src_new v2 [.string x] 9 1 1 v2.heap.size rfl rfl
            have y3 : v2.heap.size < (v2.alloc (.cells #[.string x] 9)).heap.size := by rw [World.size_alloc]; omega
            have o3 := own_below o2 (below_alloc v2 (.cells #[.string x] 9))
            generalize v2.alloc (.cells #[.string x] 9) = v3 at C3 s3 y3 o3 ⊢
            refine wpAnyH_ready (rs := [7]) (by kernel_rfl) (by simp) ?_
            refine AllReadyH.cons (o := { dst := some 40, op := Op.call { callee := Callee.builtin Builtin.append, args := #[Operand.tmp 37, Operand.tmp 39], argTypes := #[23, 23] }, type := 23, pos := "l13_draw.go:27", after := _, guard := none }) rfl (fun K hK => ?_) AllReadyH.nil
            refine step_append_src _ rfl (.tmp 37) (.tmp 39) 23 rfl w8.heap.size 9 i0 (.string ⟨#[]⟩) 1 16 Try.underlying23 hi hz0 hz1 hz2 rfl (by decide) (.slice a2 (k) c2) (k) ((L.take k).flatMap encS1) rfl o3 (some ⟨v2.heap.size, 0, none⟩) 1 1 [.string x] rfl s3 (by simp [Value.oneCell']) (by unfold maxLen; omega) (by omega) C3.size ?_
            intro r4 v4 o4 g4 _
            have C4 := C3.grown g4 C3.size (fun q hq => (o3.lt q hq).1)
            refine hK.out _ _ trivial (fun hHeld => ?_)
            clear hK K
            (try simp only [Act.put, List.setIfInBounds_toArray, List.set_cons_zero, List.set_cons_succ])
            obtain ⟨a4, c4, rfl⟩ := own_shape o4
            have y4 := g4.size
            refine wpAnyH_ready (rs := [11]) (by kernel_rfl) (by simp) ?_
            refine AllReadyH.cons (o := { dst := some 44, op := Op.call { callee := Callee.builtin Builtin.append, args := #[Operand.tmp 40, Operand.tmp 43], argTypes := #[23, 23] }, type := 23, pos := "l13_draw.go:27", after := _, guard := none }) rfl (fun K hK => ?_) AllReadyH.nil
            refine step_append_src _ rfl (.tmp 40) (.tmp 43) 23 rfl w8.heap.size 9 i0 (.string ⟨#[]⟩) 1 16 Try.underlying23 hi hz0 hz1 hz2 rfl (by decide) (.slice a4 (k + 1) c4) (k + 1) ((L.take k).flatMap encS1 ++ [.string x]) rfl o4 (some ⟨g, 0, none⟩) 0 0 [] rfl (src_nil _ _ _) (by simp) (by unfold maxLen; omega) (by omega) C4.size ?_
            intro r5 v5 o5 g5 _
            have C5 := C4.grown g5 C4.size (fun q hq => (o4.lt q hq).1)
            refine hK.out _ _ trivial (fun hHeld => ?_)
            clear hK K
            (try simp only [Act.put, List.setIfInBounds_toArray, List.set_cons_zero, List.set_cons_succ])
            obtain ⟨a5, c5, rfl⟩ := own_shape o5
            have y5 := g5.size
            refine wpAnyH_take (i := 12) (oi := { dst := some 4, op := Op.assign (Operand.tmp 44), type := 23, pos := "l13_draw.go:27", after := _, guard := none }) (v := ?_) rfl (by kernel_rfl) (by kernel_rfl) (by kernel_rfl) (fun _ _ _ h => h) (Or.inl ⟨by rfl, ?_⟩) (by first | assumption | trivial) ?_
            rotate_left
            · (intro w hSw; (try dsimp only at hSw); go_simp; (try with_reducible rfl))
            simp only [Act.put, List.setIfInBounds_toArray, List.set_cons_zero, List.set_cons_succ]
            refine wpAnyH_done (by kernel_rfl) ?_ _
            have hln : (L.take k ++ x :: L.drop k).length = k + 1 + 0 := by rw [List.length_append, List.length_take, List.length_cons, List.length_drop]; omega
            have hO := Lib.hid o5
            have hB := Lib.hid (B0.trans (C5.mono B0.size))
            go_wp2_with fail
            go_ret
            refine ⟨_, L.take k ++ x :: L.drop k, rfl, own_el1 (base := w8.heap.size) (e := 9) (n := k + 1 + 0) hln (by unfold maxLen; omega) (by omega) (by have := B0.size; omega) ?_, ins_small k HS.out hx, by omega, hB.out⟩
            rw [List.flatMap_append, List.flatMap_cons]
            have := hO.out
            rw [hdk]
            simpa [encS1] using this
          refine AllReadyH.cons (o := { dst := some 39, op := Op.buildSlice 23 1 #[(0, Operand.tmp 38)], type := 23, pos := "l13_draw.go:27", after := _, guard := none }) rfl (fun K hK => ?_) AllReadyH.nil
          go_simp
          refine hK.out _ _ trivial (fun hHeld => ?_)
          clear hK K
          (try simp only [Act.put, List.setIfInBounds_toArray, List.set_cons_zero, List.set_cons_succ])
          have C6 := C1.alloc C1.size (.cells #[.string x] 9)
          have s6 := src_new v1 [.string x] 9 1 1 v1.heap.size rfl rfl
          have y6 : v1.heap.size < (v1.alloc (.cells #[.string x] 9)).heap.size := by rw [World.size_alloc]; omega
          have o6 := own_below o1 (below_alloc v1 (.cells #[.string x] 9))
          generalize v1.alloc (.cells #[.string x] 9) = v6 at C6 s6 y6 o6 ⊢
          refine wpAnyH_ready (rs := [4]) (by kernel_rfl) (by simp) ?_
          refine AllReadyH.cons (o := { dst := some 37, op := Op.call { callee := Callee.builtin Builtin.append, args := #[Operand.tmp 33, Operand.tmp 36], argTypes := #[23, 23] }, type := 23, pos := "l13_draw.go:27", after := _, guard := none }) rfl (fun K hK => ?_) AllReadyH.nil
          refine step_append_src _ rfl (.tmp 33) (.tmp 36) 23 rfl w8.heap.size 9 i0 (.string ⟨#[]⟩) 1 16 Try.underlying23 hi hz0 hz1 hz2 rfl (by decide) (.slice (some ⟨w8.heap.size, 0, none⟩) 0 0) (0) [] rfl o6 (some ⟨g, 0, none⟩) k k ((L.take k).flatMap encS1) rfl ((src_take encS1_len (by decide) hjl HE0.out).below C6) (fun u hu => one_s1 hu) (by unfold maxLen; omega) (by omega) C6.size ?_
          intro r7 v7 o7 g7 _
          have C7 := C6.grown g7 C6.size (fun q hq => (o6.lt q hq).1)
          refine hK.out _ _ trivial (fun hHeld => ?_)
          clear hK K
          (try simp only [Act.put, List.setIfInBounds_toArray, List.set_cons_zero, List.set_cons_succ])
          rw [Nat.zero_add, List.nil_append] at o7
          obtain ⟨a7, c7, rfl⟩ := own_shape o7
          have y7 := g7.size
          have s7 := s6.kept (kept_of_grown g7) (fun q hq e => by have e1 := own_blk e; simp at hq; omega)
          refine wpAnyH_ready (rs := [7]) (by kernel_rfl) (by simp) ?_
          refine AllReadyH.cons (o := { dst := some 40, op := Op.call { callee := Callee.builtin Builtin.append, args := #[Operand.tmp 37, Operand.tmp 39], argTypes := #[23, 23] }, type := 23, pos := "l13_draw.go:27", after := _, guard := none }) rfl (fun K hK => ?_) AllReadyH.nil
          refine step_append_src _ rfl (.tmp 37) (.tmp 39) 23 rfl w8.heap.size 9 i0 (.string ⟨#[]⟩) 1 16 Try.underlying23 hi hz0 hz1 hz2 rfl (by decide) (.slice a7 (k) c7) (k) ((L.take k).flatMap encS1) rfl o7 (some ⟨v1.heap.size, 0, none⟩) 1 1 [.string x] rfl s7 (by simp [Value.oneCell']) (by unfold maxLen; omega) (by omega) C7.size ?_
          intro r8 v8 o8 g8 _
          have C8 := C7.grown g8 C7.size (fun q hq => (o7.lt q hq).1)
          refine hK.out _ _ trivial (fun hHeld => ?_)
          clear hK K
          (try simp only [Act.put, List.setIfInBounds_toArray, List.set_cons_zero, List.set_cons_succ])
          obtain ⟨a8, c8, rfl⟩ := own_shape o8
          have y8 := g8.size
          refine wpAnyH_ready (rs := [11]) (by kernel_rfl) (by simp) ?_
          refine AllReadyH.cons (o := { dst := some 44, op := Op.call { callee := Callee.builtin Builtin.append, args := #[Operand.tmp 40, Operand.tmp 43], argTypes := #[23, 23] }, type := 23, pos := "l13_draw.go:27", after := _, guard := none }) rfl (fun K hK => ?_) AllReadyH.nil
          refine step_append_src _ rfl (.tmp 40) (.tmp 43) 23 rfl w8.heap.size 9 i0 (.string ⟨#[]⟩) 1 16 Try.underlying23 hi hz0 hz1 hz2 rfl (by decide) (.slice a8 (k + 1) c8) (k + 1) ((L.take k).flatMap encS1 ++ [.string x]) rfl o8 (some ⟨g, 0, none⟩) 0 0 [] rfl (src_nil _ _ _) (by simp) (by unfold maxLen; omega) (by omega) C8.size ?_
          intro r9 v9 o9 g9 _
          have C9 := C8.grown g9 C8.size (fun q hq => (o8.lt q hq).1)
          refine hK.out _ _ trivial (fun hHeld => ?_)
          clear hK K
          (try simp only [Act.put, List.setIfInBounds_toArray, List.set_cons_zero, List.set_cons_succ])
          obtain ⟨a9, c9, rfl⟩ := own_shape o9
          have y9 := g9.size
          refine wpAnyH_take (i := 12) (oi := { dst := some 4, op := Op.assign (Operand.tmp 44), type := 23, pos := "l13_draw.go:27", after := _, guard := none }) (v := ?_) rfl (by kernel_rfl) (by kernel_rfl) (by kernel_rfl) (fun _ _ _ h => h) (Or.inl ⟨by rfl, ?_⟩) (by first | assumption | trivial) ?_
          rotate_left
          · (intro w hSw; (try dsimp only at hSw); go_simp; (try with_reducible rfl))
          simp only [Act.put, List.setIfInBounds_toArray, List.set_cons_zero, List.set_cons_succ]
          refine wpAnyH_done (by kernel_rfl) ?_ _
          have hln : (L.take k ++ x :: L.drop k).length = k + 1 + 0 := by rw [List.length_append, List.length_take, List.length_cons, List.length_drop]; omega
          have hO := Lib.hid o9
          have hB := Lib.hid (B0.trans (C9.mono B0.size))
          go_wp2_with fail
          go_ret
          refine ⟨_, L.take k ++ x :: L.drop k, rfl, own_el1 (base := w8.heap.size) (e := 9) (n := k + 1 + 0) hln (by unfold maxLen; omega) (by omega) (by have := B0.size; omega) ?_, ins_small k HS.out hx, by omega, hB.out⟩
          rw [List.flatMap_append, List.flatMap_cons]
          have := hO.out
          rw [hdk]
          simpa [encS1] using this
        refine AllReadyH.cons (o := { dst := some 39, op := Op.buildSlice 23 1 #[(0, Operand.tmp 38)], type := 23, pos := "l13_draw.go:27", after := _, guard := none }) rfl (fun K hK => ?_) AllReadyH.nil
        go_simp
        refine hK.out _ _ trivial (fun hHeld => ?_)
        clear hK K
        (try simp only [Act.put, List.setIfInBounds_toArray, List.set_cons_zero, List.set_cons_succ])
        have C10 := B8.alloc B8.size (.cells #[.string x] 9)
        have s10 := src_new w8 [.string x] 9 1 1 w8.heap.size rfl rfl
        have y10 : w8.heap.size < (w8.alloc (.cells #[.string x] 9)).heap.size := by rw [World.size_alloc]; omega
        generalize w8.alloc (.cells #[.string x] 9) = v10 at C10 s10 y10  ⊢
        refine wpAnyH_ready (rs := [0]) (by kernel_rfl) (by simp) ?_
        refine AllReadyH.cons (o := { dst := some 33, op := Op.buildSlice 23 0 #[], type := 23, pos := "l13_draw.go:27", after := _, guard := none }) rfl (fun K hK => ?_) AllReadyH.nil
        go_simp
        refine hK.out _ _ trivial (fun hHeld => ?_)
        clear hK K
        (try simp only [Act.put, List.setIfInBounds_toArray, List.set_cons_zero, List.set_cons_succ])
        have C11 := C10.alloc C10.size (.cells #[] 9)
        have o11 := own_lit00 (base := w8.heap.size) v10 9 1 v10.heap.size rfl C10.size
        have s11 := s10.below (below_alloc v10 (.cells #[] 9))
        have y11 : v10.heap.size < (v10.alloc (.cells #[] 9)).heap.size := by rw [World.size_alloc]; omega
        generalize v10.alloc (.cells #[] 9) = v11 at C11 o11 y11 s11 ⊢
        refine wpAnyH_ready (rs := [4]) (by kernel_rfl) (by simp) ?_
        refine AllReadyH.cons (o := { dst := some 37, op := Op.call { callee := Callee.builtin Builtin.append, args := #[Operand.tmp 33, Operand.tmp 36], argTypes := #[23, 23] }, type := 23, pos := "l13_draw.go:27", after := _, guard := none }) rfl (fun K hK => ?_) AllReadyH.nil
        refine step_append_src _ rfl (.tmp 33) (.tmp 36) 23 rfl w8.heap.size 9 i0 (.string ⟨#[]⟩) 1 16 Try.underlying23 hi hz0 hz1 hz2 rfl (by decide) (.slice (some ⟨v10.heap.size, 0, none⟩) 0 0) (0) [] rfl o11 (some ⟨g, 0, none⟩) k k ((L.take k).flatMap encS1) rfl ((src_take encS1_len (by decide) hjl HE0.out).below C11) (fun u hu => one_s1 hu) (by unfold maxLen; omega) (by omega) C11.size ?_
        intro r12 v12 o12 g12 _
        have C12 := C11.grown g12 C11.size (fun q hq => (o11.lt q hq).1)
        refine hK.out _ _ trivial (fun hHeld => ?_)
        clear hK K
        (try simp only [Act.put, List.setIfInBounds_toArray, List.set_cons_zero, List.set_cons_succ])
        rw [Nat.zero_add, List.nil_append] at o12
        obtain ⟨a12, c12, rfl⟩ := own_shape o12
        have y12 := g12.size
        have s12 := s11.kept (kept_of_grown g12) (fun q hq e => by have e1 := own_blk e; simp at hq; omega)
        refine wpAnyH_ready (rs := [7]) (by kernel_rfl) (by simp) ?_
        refine AllReadyH.cons (o := { dst := some 40, op := Op.call { callee := Callee.builtin Builtin.append, args := #[Operand.tmp 37, Operand.tmp 39], argTypes := #[23, 23] }, type := 23, pos := "l13_draw.go:27", after := _, guard := none }) rfl (fun K hK => ?_) AllReadyH.nil
        refine step_append_src _ rfl (.tmp 37) (.tmp 39) 23 rfl w8.heap.size 9 i0 (.string ⟨#[]⟩) 1 16 Try.underlying23 hi hz0 hz1 hz2 rfl (by decide) (.slice a12 (k) c12) (k) ((L.take k).flatMap encS1) rfl o12 (some ⟨w8.heap.size, 0, none⟩) 1 1 [.string x] rfl s12 (by simp [Value.oneCell']) (by unfold maxLen; omega) (by omega) C12.size ?_
        intro r13 v13 o13 g13 _
        have C13 := C12.grown g13 C12.size (fun q hq => (o12.lt q hq).1)
        refine hK.out _ _ trivial (fun hHeld => ?_)
        clear hK K
        (try simp only [Act.put, List.setIfInBounds_toArray, List.set_cons_zero, List.set_cons_succ])
        obtain ⟨a13, c13, rfl⟩ := own_shape o13
        have y13 := g13.size
        refine wpAnyH_ready (rs := [11]) (by kernel_rfl) (by simp) ?_
        refine AllReadyH.cons (o := { dst := some 44, op := Op.call { callee := Callee.builtin Builtin.append, args := #[Operand.tmp 40, Operand.tmp 43], argTypes := #[23, 23] }, type := 23, pos := "l13_draw.go:27", after := _, guard := none }) rfl (fun K hK => ?_) AllReadyH.nil
        refine step_append_src _ rfl (.tmp 40) (.tmp 43) 23 rfl w8.heap.size 9 i0 (.string ⟨#[]⟩) 1 16 Try.underlying23 hi hz0 hz1 hz2 rfl (by decide) (.slice a13 (k + 1) c13) (k + 1) ((L.take k).flatMap encS1 ++ [.string x]) rfl o13 (some ⟨g, 0, none⟩) 0 0 [] rfl (src_nil _ _ _) (by simp) (by unfold maxLen; omega) (by omega) C13.size ?_
        intro r14 v14 o14 g14 _
        have C14 := C13.grown g14 C13.size (fun q hq => (o13.lt q hq).1)
        refine hK.out _ _ trivial (fun hHeld => ?_)
        clear hK K
        (try simp only [Act.put, List.setIfInBounds_toArray, List.set_cons_zero, List.set_cons_succ])
        obtain ⟨a14, c14, rfl⟩ := own_shape o14
        have y14 := g14.size
        refine wpAnyH_take (i := 12) (oi := { dst := some 4, op := Op.assign (Operand.tmp 44), type := 23, pos := "l13_draw.go:27", after := _, guard := none }) (v := ?_) rfl (by kernel_rfl) (by kernel_rfl) (by kernel_rfl) (fun _ _ _ h => h) (Or.inl ⟨by rfl, ?_⟩) (by first | assumption | trivial) ?_
        rotate_left
        · (intro w hSw; (try dsimp only at hSw); go_simp; (try with_reducible rfl))
        simp only [Act.put, List.setIfInBounds_toArray, List.set_cons_zero, List.set_cons_succ]
        refine wpAnyH_done (by kernel_rfl) ?_ _
        have hln : (L.take k ++ x :: L.drop k).length = k + 1 + 0 := by rw [List.length_append, List.length_take, List.length_cons, List.length_drop]; omega
        have hO := Lib.hid o14
        have hB := Lib.hid (B0.trans (C14.mono B0.size))
        go_wp2_with fail
        go_ret
        refine ⟨_, L.take k ++ x :: L.drop k, rfl, own_el1 (base := w8.heap.size) (e := 9) (n := k + 1 + 0) hln (by unfold maxLen; omega) (by omega) (by have := B0.size; omega) ?_, ins_small k HS.out hx, by omega, hB.out⟩
        rw [List.flatMap_append, List.flatMap_cons]
        have := hO.out
        rw [hdk]
        simpa [encS1] using this
      · have hck2 : ¬ cb = k := fun h => hck h.symm
        have hck3 : k < cb := by omega
        clear hck
        refine wp_region_held_drew (S := fun _ => True) (by kernel_rfl) (trivial) (fun hHeld => ?_)
        obtain ⟨w8, hw8⟩ := hw0
        clear hHeld; rw [hw8] at HE0 ⊢
        have KS : ∀ W', Below w8.heap.size w8 W' → (fun _ => True) W' := fun W' hb => trivial
        have B8 : Below w8.heap.size w8 w8 := Below.refl _ _
        have hgl8 : g < w8.heap.size := els_block HE0.out h0 encS1_len (by decide)
        have B0 : Below w.heap.size w w8 := by rw [← hw8]; exact (Below.refl _ _).drew
        refine wpAnyH_take (i := 1) (oi := { dst := some 34, op := Op.move (Operand.tmp 0), type := 23, pos := "l13_draw.go:27", after := _, guard := none }) (v := ?_) rfl (by kernel_rfl) (by kernel_rfl) (by kernel_rfl) (fun _ _ _ h => h) (Or.inl ⟨by rfl, ?_⟩) (by first | assumption | trivial) ?_
        rotate_left
        · (intro w hSw; (try dsimp only at hSw); go_simp; (try with_reducible rfl))
        simp only [Act.put, List.setIfInBounds_toArray, List.set_cons_zero, List.set_cons_succ]
        refine wpAnyH_take (i := 2) (oi := { dst := some 35, op := Op.move (Operand.tmp 5), type := 3, pos := "l13_draw.go:27", after := _, guard := none }) (v := ?_) rfl (by kernel_rfl) (by kernel_rfl) (by kernel_rfl) (fun _ _ _ h => h) (Or.inl ⟨by rfl, ?_⟩) (by first | assumption | trivial) ?_
        rotate_left
        · (intro w hSw; (try dsimp only at hSw); go_simp; (try with_reducible rfl))
        simp only [Act.put, List.setIfInBounds_toArray, List.set_cons_zero, List.set_cons_succ]
        refine wpAnyH_take (i := 3) (oi := { dst := some 36, op := Op.slice 23 (Operand.tmp 34) none (some (Operand.tmp 35)) none, type := 23, pos := "l13_draw.go:27", after := _, guard := none }) (v := ?_) rfl (by kernel_rfl) (by kernel_rfl) (by kernel_rfl) (fun _ _ _ h => h) (Or.inl ⟨by rfl, ?_⟩) (by first | assumption | trivial) ?_
        rotate_left
        · (intro w hSw; (try dsimp only at hSw); go_simp; (try with_reducible rfl))
        simp only [Act.put, List.setIfInBounds_toArray, List.set_cons_zero, List.set_cons_succ]
        refine wpAnyH_take (i := 5) (oi := { dst := some 38, op := Op.move (Operand.tmp 1), type := 9, pos := "l13_draw.go:27", after := _, guard := none }) (v := ?_) rfl (by kernel_rfl) (by kernel_rfl) (by kernel_rfl) (fun _ _ _ h => h) (Or.inl ⟨by rfl, ?_⟩) (by first | assumption | trivial) ?_
        rotate_left
        · (intro w hSw; (try dsimp only at hSw); go_simp; (try with_reducible rfl))
        simp only [Act.put, List.setIfInBounds_toArray, List.set_cons_zero, List.set_cons_succ]
        refine wpAnyH_take (i := 8) (oi := { dst := some 41, op := Op.move (Operand.tmp 0), type := 23, pos := "l13_draw.go:27", after := _, guard := none }) (v := ?_) rfl (by kernel_rfl) (by kernel_rfl) (by kernel_rfl) (fun _ _ _ h => h) (Or.inl ⟨by rfl, ?_⟩) (by first | assumption | trivial) ?_
        rotate_left
        · (intro w hSw; (try dsimp only at hSw); go_simp; (try with_reducible rfl))
        simp only [Act.put, List.setIfInBounds_toArray, List.set_cons_zero, List.set_cons_succ]
        refine wpAnyH_take (i := 9) (oi := { dst := some 42, op := Op.move (Operand.tmp 5), type := 3, pos := "l13_draw.go:27", after := _, guard := none }) (v := ?_) rfl (by kernel_rfl) (by kernel_rfl) (by kernel_rfl) (fun _ _ _ h => h) (Or.inl ⟨by rfl, ?_⟩) (by first | assumption | trivial) ?_
        rotate_left
        · (intro w hSw; (try dsimp only at hSw); go_simp; (try with_reducible rfl))
        simp only [Act.put, List.setIfInBounds_toArray, List.set_cons_zero, List.set_cons_succ]
        refine wpAnyH_take (i := 10) (oi := { dst := some 43, op := Op.slice 23 (Operand.tmp 41) (some (Operand.tmp 42)) none none, type := 23, pos := "l13_draw.go:27", after := _, guard := none }) (v := ?_) rfl (by kernel_rfl) (by kernel_rfl) (by kernel_rfl) (fun _ _ _ h => h) (Or.inl ⟨by rfl, ?_⟩) (by first | assumption | trivial) ?_
        rotate_left
        · (intro w hSw; (try dsimp only at hSw); go_simp; (try with_reducible rfl))
        simp only [Act.put, List.setIfInBounds_toArray, List.set_cons_zero, List.set_cons_succ]
        refine wpAnyH_ready (rs := [0, 6]) (by kernel_rfl) (by simp) ?_
        refine AllReadyH.cons (o := { dst := some 33, op := Op.buildSlice 23 0 #[], type := 23, pos := "l13_draw.go:27", after := _, guard := none }) rfl (fun K hK => ?_) ?_
        · skip
          go_simp
          refine hK.out _ _ trivial (fun hHeld => ?_)
          clear hK K
          (try simp only [Act.put, List.setIfInBounds_toArray, List.set_cons_zero, List.set_cons_succ])
          have C1 := B8.alloc B8.size (.cells #[] 9)
          have o1 := own_lit00 (base := w8.heap.size) w8 9 1 w8.heap.size rfl B8.size
          have y1 : w8.heap.size < (w8.alloc (.cells #[] 9)).heap.size := by rw [World.size_alloc]; omega
          generalize w8.alloc (.cells #[] 9) = v1 at C1 o1 y1  ⊢
          refine wpAnyH_ready (rs := [4, 6]) (by kernel_rfl) (by simp) ?_
          refine AllReadyH.cons (o := { dst := some 37, op := Op.call { callee := Callee.builtin Builtin.append, args := #[Operand.tmp 33, Operand.tmp 36], argTypes := #[23, 23] }, type := 23, pos := "l13_draw.go:27", after := _, guard := none }) rfl (fun K hK => ?_) ?_
          · skip
            refine step_append_src _ rfl (.tmp 33) (.tmp 36) 23 rfl w8.heap.size 9 i0 (.string ⟨#[]⟩) 1 16 Try.underlying23 hi hz0 hz1 hz2 rfl (by decide) (.slice (some ⟨w8.heap.size, 0, none⟩) 0 0) (0) [] rfl o1 (some ⟨g, 0, none⟩) k cb ((L.take k).flatMap encS1) rfl ((src_take encS1_len (by decide) hjl HE0.out).below C1) (fun u hu => one_s1 hu) (by unfold maxLen; omega) (by omega) C1.size ?_
            intro r2 v2 o2 g2 _
            have C2 := C1.grown g2 C1.size (fun q hq => (o1.lt q hq).1)
            refine hK.out _ _ trivial (fun hHeld => ?_)
            clear hK K
            (try simp only [Act.put, List.setIfInBounds_toArray, List.set_cons_zero, List.set_cons_succ])
            rw [Nat.zero_add, List.nil_append] at o2
            obtain ⟨a2, c2, rfl⟩ := own_shape o2
            have y2 := g2.size
            refine wpAnyH_ready (rs := [6]) (by kernel_rfl) (by simp) ?_
            refine AllReadyH.cons (o := { dst := some 39, op := Op.buildSlice 23 1 #[(0, Operand.tmp 38)], type := 23, pos := "l13_draw.go:27", after := _, guard := none }) rfl (fun K hK => ?_) AllReadyH.nil
            go_simp
            refine hK.out _ _ trivial (fun hHeld => ?_)
            clear hK K
            (try simp only [Act.put, List.setIfInBounds_toArray, List.set_cons_zero, List.set_cons_succ])
            have C3 := C2.alloc C2.size (.cells #[.string x] 9)
            have s3 := src_new v2 [.string x] 9 1 1 v2.heap.size rfl rfl
            have y3 : v2.heap.size < (v2.alloc (.cells #[.string x] 9)).heap.size := by rw [World.size_alloc]; omega
            have o3 := own_below o2 (below_alloc v2 (.cells #[.string x] 9))
            generalize v2.alloc (.cells #[.string x] 9) = v3 at C3 s3 y3 o3 ⊢
            refine wpAnyH_ready (rs := [7]) (by kernel_rfl) (by simp) ?_
            refine AllReadyH.cons (o := { dst := some 40, op := Op.call { callee := Callee.builtin Builtin.append, args := #[Operand.tmp 37, Operand.tmp 39], argTypes := #[23, 23] }, type := 23, pos := "l13_draw.go:27", after := _, guard := none }) rfl (fun K hK => ?_) AllReadyH.nil
            refine step_append_src _ rfl (.tmp 37) (.tmp 39) 23 rfl w8.heap.size 9 i0 (.string ⟨#[]⟩) 1 16 Try.underlying23 hi hz0 hz1 hz2 rfl (by decide) (.slice a2 (k) c2) (k) ((L.take k).flatMap encS1) rfl o3 (some ⟨v2.heap.size, 0, none⟩) 1 1 [.string x] rfl s3 (by simp [Value.oneCell']) (by unfold maxLen; omega) (by omega) C3.size ?_
            intro r4 v4 o4 g4 _
            have C4 := C3.grown g4 C3.size (fun q hq => (o3.lt q hq).1)
            refine hK.out _ _ trivial (fun hHeld => ?_)
            clear hK K
            (try simp only [Act.put, List.setIfInBounds_toArray, List.set_cons_zero, List.set_cons_succ])
            obtain ⟨a4, c4, rfl⟩ := own_shape o4
            have y4 := g4.size
            refine wpAnyH_ready (rs := [11]) (by kernel_rfl) (by simp) ?_
            refine AllReadyH.cons (o := { dst := some 44, op := Op.call { callee := Callee.builtin Builtin.append, args := #[Operand.tmp 40, Operand.tmp 43], argTypes := #[23, 23] }, type := 23, pos := "l13_draw.go:27", after := _, guard := none }) rfl (fun K hK => ?_) AllReadyH.nil
            refine step_append_src _ rfl (.tmp 40) (.tmp 43) 23 rfl w8.heap.size 9 i0 (.string ⟨#[]⟩) 1 16 Try.underlying23 hi hz0 hz1 hz2 rfl (by decide) (.slice a4 (k + 1) c4) (k + 1) ((L.take k).flatMap encS1 ++ [.string x]) rfl o4 (some ⟨g, k, none⟩) (L.length - k) (cb - k) ((L.drop k).flatMap encS1) rfl ((src_drop1 HE0.out).below C4) (fun u hu => one_s1 hu) (by unfold maxLen; omega) (by omega) C4.size ?_
            intro r5 v5 o5 g5 _
            have C5 := C4.grown g5 C4.size (fun q hq => (o4.lt q hq).1)
            refine hK.out _ _ trivial (fun hHeld => ?_)
            clear hK K
            (try simp only [Act.put, List.setIfInBounds_toArray, List.set_cons_zero, List.set_cons_succ])
            obtain ⟨a5, c5, rfl⟩ := own_shape o5
            have y5 := g5.size
            refine wpAnyH_take (i := 12) (oi := { dst := some 4, op := Op.assign (Operand.tmp 44), type := 23, pos := "l13_draw.go:27", after := _, guard := none }) (v := ?_) rfl (by kernel_rfl) (by kernel_rfl) (by kernel_rfl) (fun _ _ _ h => h) (Or.inl ⟨by rfl, ?_⟩) (by first | assumption | trivial) ?_
            rotate_left
            · (intro w hSw; (try dsimp only at hSw); go_simp; (try with_reducible rfl))
            simp only [Act.put, List.setIfInBounds_toArray, List.set_cons_zero, List.set_cons_succ]
            refine wpAnyH_done (by kernel_rfl) ?_ _
            have hln : (L.take k ++ x :: L.drop k).length = k + 1 + (L.length - k) := by rw [List.length_append, List.length_take, List.length_cons, List.length_drop]; omega
            have hO := Lib.hid o5
            have hB := Lib.hid (B0.trans (C5.mono B0.size))
            go_wp2_with fail
            go_ret
            refine ⟨_, L.take k ++ x :: L.drop k, rfl, own_el1 (base := w8.heap.size) (e := 9) (n := k + 1 + (L.length - k)) hln (by unfold maxLen; omega) (by omega) (by have := B0.size; omega) ?_, ins_small k HS.out hx, by omega, hB.out⟩
            rw [List.flatMap_append, List.flatMap_cons]
            have := hO.out
            simpa [encS1] using this
          refine AllReadyH.cons (o := { dst := some 39, op := Op.buildSlice 23 1 #[(0, Operand.tmp 38)], type := 23, pos := "l13_draw.go:27", after := _, guard := none }) rfl (fun K hK => ?_) AllReadyH.nil
          go_simp
          refine hK.out _ _ trivial (fun hHeld => ?_)
          clear hK K
          (try simp only [Act.put, List.setIfInBounds_toArray, List.set_cons_zero, List.set_cons_succ])
          have C6 := C1.alloc C1.size (.cells #[.string x] 9)
          have s6 := src_new v1 [.string x] 9 1 1 v1.heap.size rfl rfl
          have y6 : v1.heap.size < (v1.alloc (.cells #[.string x] 9)).heap.size := by rw [World.size_alloc]; omega
          have o6 := own_below o1 (below_alloc v1 (.cells #[.string x] 9))
          generalize v1.alloc (.cells #[.string x] 9) = v6 at C6 s6 y6 o6 ⊢
          refine wpAnyH_ready (rs := [4]) (by kernel_rfl) (by simp) ?_
          refine AllReadyH.cons (o := { dst := some 37, op := Op.call { callee := Callee.builtin Builtin.append, args := #[Operand.tmp 33, Operand.tmp 36], argTypes := #[23, 23] }, type := 23, pos := "l13_draw.go:27", after := _, guard := none }) rfl (fun K hK => ?_) AllReadyH.nil
          refine step_append_src _ rfl (.tmp 33) (.tmp 36) 23 rfl w8.heap.size 9 i0 (.string ⟨#[]⟩) 1 16 Try.underlying23 hi hz0 hz1 hz2 rfl (by decide) (.slice (some ⟨w8.heap.size, 0, none⟩) 0 0) (0) [] rfl o6 (some ⟨g, 0, none⟩) k cb ((L.take k).flatMap encS1) rfl ((src_take encS1_len (by decide) hjl HE0.out).below C6) (fun u hu => one_s1 hu) (by unfold maxLen; omega) (by omega) C6.size ?_
          intro r7 v7 o7 g7 _
          have C7 := C6.grown g7 C6.size (fun q hq => (o6.lt q hq).1)
          refine hK.out _ _ trivial (fun hHeld => ?_)
          clear hK K
          (try simp only [Act.put, List.setIfInBounds_toArray, List.set_cons_zero, List.set_cons_succ])
          rw [Nat.zero_add, List.nil_append] at o7
          obtain ⟨a7, c7, rfl⟩ := own_shape o7
          have y7 := g7.size
          have s7 := s6.kept (kept_of_grown g7) (fun q hq e => by have e1 := own_blk e; simp at hq; omega)
          refine wpAnyH_ready (rs := [7]) (by kernel_rfl) (by simp) ?_
          refine AllReadyH.cons (o := { dst := some 40, op := Op.call { callee := Callee.builtin Builtin.append, args := #[Operand.tmp 37, Operand.tmp 39], argTypes := #[23, 23] }, type := 23, pos := "l13_draw.go:27", after := _, guard := none }) rfl (fun K hK => ?_) AllReadyH.nil
          refine step_append_src _ rfl (.tmp 37) (.tmp 39) 23 rfl w8.heap.size 9 i0 (.string ⟨#[]⟩) 1 16 Try.underlying23 hi hz0 hz1 hz2 rfl (by decide) (.slice a7 (k) c7) (k) ((L.take k).flatMap encS1) rfl o7 (some ⟨v1.heap.size, 0, none⟩) 1 1 [.string x] rfl s7 (by simp [Value.oneCell']) (by unfold maxLen; omega) (by omega) C7.size ?_
          intro r8 v8 o8 g8 _
          have C8 := C7.grown g8 C7.size (fun q hq => (o7.lt q hq).1)
          refine hK.out _ _ trivial (fun hHeld => ?_)
          clear hK K
          (try simp only [Act.put, List.setIfInBounds_toArray, List.set_cons_zero, List.set_cons_succ])
          obtain ⟨a8, c8, rfl⟩ := own_shape o8
          have y8 := g8.size
          refine wpAnyH_ready (rs := [11]) (by kernel_rfl) (by simp) ?_
          refine AllReadyH.cons (o := { dst := some 44, op := Op.call { callee := Callee.builtin Builtin.append, args := #[Operand.tmp 40, Operand.tmp 43], argTypes := #[23, 23] }, type := 23, pos := "l13_draw.go:27", after := _, guard := none }) rfl (fun K hK => ?_) AllReadyH.nil
          refine step_append_src _ rfl (.tmp 40) (.tmp 43) 23 rfl w8.heap.size 9 i0 (.string ⟨#[]⟩) 1 16 Try.underlying23 hi hz0 hz1 hz2 rfl (by decide) (.slice a8 (k + 1) c8) (k + 1) ((L.take k).flatMap encS1 ++ [.string x]) rfl o8 (some ⟨g, k, none⟩) (L.length - k) (cb - k) ((L.drop k).flatMap encS1) rfl ((src_drop1 HE0.out).below C8) (fun u hu => one_s1 hu) (by unfold maxLen; omega) (by omega) C8.size ?_
          intro r9 v9 o9 g9 _
          have C9 := C8.grown g9 C8.size (fun q hq => (o8.lt q hq).1)
          refine hK.out _ _ trivial (fun hHeld => ?_)
          clear hK K
          (try simp only [Act.put, List.setIfInBounds_toArray, List.set_cons_zero, List.set_cons_succ])
          obtain ⟨a9, c9, rfl⟩ := own_shape o9
          have y9 := g9.size
          refine wpAnyH_take (i := 12) (oi := { dst := some 4, op := Op.assign (Operand.tmp 44), type := 23, pos := "l13_draw.go:27", after := _, guard := none }) (v := ?_) rfl (by kernel_rfl) (by kernel_rfl) (by kernel_rfl) (fun _ _ _ h => h) (Or.inl ⟨by rfl, ?_⟩) (by first | assumption | trivial) ?_
          rotate_left
          · (intro w hSw; (try dsimp only at hSw); go_simp; (try with_reducible rfl))
          simp only [Act.put, List.setIfInBounds_toArray, List.set_cons_zero, List.set_cons_succ]
          refine wpAnyH_done (by kernel_rfl) ?_ _
          have hln : (L.take k ++ x :: L.drop k).length = k + 1 + (L.length - k) := by rw [List.length_append, List.length_take, List.length_cons, List.length_drop]; omega
          have hO := Lib.hid o9
          have hB := Lib.hid (B0.trans (C9.mono B0.size))
          go_wp2_with fail
          go_ret
          refine ⟨_, L.take k ++ x :: L.drop k, rfl, own_el1 (base := w8.heap.size) (e := 9) (n := k + 1 + (L.length - k)) hln (by unfold maxLen; omega) (by omega) (by have := B0.size; omega) ?_, ins_small k HS.out hx, by omega, hB.out⟩
          rw [List.flatMap_append, List.flatMap_cons]
          have := hO.out
          simpa [encS1] using this
        refine AllReadyH.cons (o := { dst := some 39, op := Op.buildSlice 23 1 #[(0, Operand.tmp 38)], type := 23, pos := "l13_draw.go:27", after := _, guard := none }) rfl (fun K hK => ?_) AllReadyH.nil
        go_simp
        refine hK.out _ _ trivial (fun hHeld => ?_)
        clear hK K
        (try simp only [Act.put, List.setIfInBounds_toArray, List.set_cons_zero, List.set_cons_succ])
        have C10 := B8.alloc B8.size (.cells #[.string x] 9)
        have s10 := src_new w8 [.string x] 9 1 1 w8.heap.size rfl rfl
        have y10 : w8.heap.size < (w8.alloc (.cells #[.string x] 9)).heap.size := by rw [World.size_alloc]; omega
        generalize w8.alloc (.cells #[.string x] 9) = v10 at C10 s10 y10  ⊢
        refine wpAnyH_ready (rs := [0]) (by kernel_rfl) (by simp) ?_
        refine AllReadyH.cons (o := { dst := some 33, op := Op.buildSlice 23 0 #[], type := 23, pos := "l13_draw.go:27", after := _, guard := none }) rfl (fun K hK => ?_) AllReadyH.nil
        go_simp
        refine hK.out _ _ trivial (fun hHeld => ?_)
        clear hK K
        (try simp only [Act.put, List.setIfInBounds_toArray, List.set_cons_zero, List.set_cons_succ])
        have C11 := C10.alloc C10.size (.cells #[] 9)
        have o11 := own_lit00 (base := w8.heap.size) v10 9 1 v10.heap.size rfl C10.size
        have s11 := s10.below (below_alloc v10 (.cells #[] 9))
        have y11 : v10.heap.size < (v10.alloc (.cells #[] 9)).heap.size := by rw [World.size_alloc]; omega
        generalize v10.alloc (.cells #[] 9) = v11 at C11 o11 y11 s11 ⊢
        refine wpAnyH_ready (rs := [4]) (by kernel_rfl) (by simp) ?_
        refine AllReadyH.cons (o := { dst := some 37, op := Op.call { callee := Callee.builtin Builtin.append, args := #[Operand.tmp 33, Operand.tmp 36], argTypes := #[23, 23] }, type := 23, pos := "l13_draw.go:27", after := _, guard := none }) rfl (fun K hK => ?_) AllReadyH.nil
        refine step_append_src _ rfl (.tmp 33) (.tmp 36) 23 rfl w8.heap.size 9 i0 (.string ⟨#[]⟩) 1 16 Try.underlying23 hi hz0 hz1 hz2 rfl (by decide) (.slice (some ⟨v10.heap.size, 0, none⟩) 0 0) (0) [] rfl o11 (some ⟨g, 0, none⟩) k cb ((L.take k).flatMap encS1) rfl ((src_take encS1_len (by decide) hjl HE0.out).below C11) (fun u hu => one_s1 hu) (by unfold maxLen; omega) (by omega) C11.size ?_
        intro r12 v12 o12 g12 _
        have C12 := C11.grown g12 C11.size (fun q hq => (o11.lt q hq).1)
        refine hK.out _ _ trivial (fun hHeld => ?_)
        clear hK K
        (try simp only [Act.put, List.setIfInBounds_toArray, List.set_cons_zero, List.set_cons_succ])
        rw [Nat.zero_add, List.nil_append] at o12
        obtain ⟨a12, c12, rfl⟩ := own_shape o12
        have y12 := g12.size
        have s12 := s11.kept (kept_of_grown g12) (fun q hq e => by have e1 := own_blk e; simp at hq; omega)
        refine wpAnyH_ready (rs := [7]) (by kernel_rfl) (by simp) ?_
        refine AllReadyH.cons (o := { dst := some 40, op := Op.call { callee := Callee.builtin Builtin.append, args := #[Operand.tmp 37, Operand.tmp 39], argTypes := #[23, 23] }, type := 23, pos := "l13_draw.go:27", after := _, guard := none }) rfl (fun K hK => ?_) AllReadyH.nil
        refine step_append_src _ rfl (.tmp 37) (.tmp 39) 23 rfl w8.heap.size 9 i0 (.string ⟨#[]⟩) 1 16 Try.underlying23 hi hz0 hz1 hz2 rfl (by decide) (.slice a12 (k) c12) (k) ((L.take k).flatMap encS1) rfl o12 (some ⟨w8.heap.size, 0, none⟩) 1 1 [.string x] rfl s12 (by simp [Value.oneCell']) (by unfold maxLen; omega) (by omega) C12.size ?_
        intro r13 v13 o13 g13 _
        have C13 := C12.grown g13 C12.size (fun q hq => (o12.lt q hq).1)
        refine hK.out _ _ trivial (fun hHeld => ?_)
        clear hK K
        (try simp only [Act.put, List.setIfInBounds_toArray, List.set_cons_zero, List.set_cons_succ])
        obtain ⟨a13, c13, rfl⟩ := own_shape o13
        have y13 := g13.size
        refine wpAnyH_ready (rs := [11]) (by kernel_rfl) (by simp) ?_
        refine AllReadyH.cons (o := { dst := some 44, op := Op.call { callee := Callee.builtin Builtin.append, args := #[Operand.tmp 40, Operand.tmp 43], argTypes := #[23, 23] }, type := 23, pos := "l13_draw.go:27", after := _, guard := none }) rfl (fun K hK => ?_) AllReadyH.nil
        refine step_append_src _ rfl (.tmp 40) (.tmp 43) 23 rfl w8.heap.size 9 i0 (.string ⟨#[]⟩) 1 16 Try.underlying23 hi hz0 hz1 hz2 rfl (by decide) (.slice a13 (k + 1) c13) (k + 1) ((L.take k).flatMap encS1 ++ [.string x]) rfl o13 (some ⟨g, k, none⟩) (L.length - k) (cb - k) ((L.drop k).flatMap encS1) rfl ((src_drop1 HE0.out).below C13) (fun u hu => one_s1 hu) (by unfold maxLen; omega) (by omega) C13.size ?_
        intro r14 v14 o14 g14 _
        have C14 := C13.grown g14 C13.size (fun q hq => (o13.lt q hq).1)
        refine hK.out _ _ trivial (fun hHeld => ?_)
        clear hK K
        (try simp only [Act.put, List.setIfInBounds_toArray, List.set_cons_zero, List.set_cons_succ])
        obtain ⟨a14, c14, rfl⟩ := own_shape o14
        have y14 := g14.size
        refine wpAnyH_take (i := 12) (oi := { dst := some 4, op := Op.assign (Operand.tmp 44), type := 23, pos := "l13_draw.go:27", after := _, guard := none }) (v := ?_) rfl (by kernel_rfl) (by kernel_rfl) (by kernel_rfl) (fun _ _ _ h => h) (Or.inl ⟨by rfl, ?_⟩) (by first | assumption | trivial) ?_
        rotate_left
        · (intro w hSw; (try dsimp only at hSw); go_simp; (try with_reducible rfl))
        simp only [Act.put, List.setIfInBounds_toArray, List.set_cons_zero, List.set_cons_succ]
        refine wpAnyH_done (by kernel_rfl) ?_ _
        have hln : (L.take k ++ x :: L.drop k).length = k + 1 + (L.length - k) := by rw [List.length_append, List.length_take, List.length_cons, List.length_drop]; omega
        have hO := Lib.hid o14
        have hB := Lib.hid (B0.trans (C14.mono B0.size))
        go_wp2_with fail
        go_ret
        refine ⟨_, L.take k ++ x :: L.drop k, rfl, own_el1 (base := w8.heap.size) (e := 9) (n := k + 1 + (L.length - k)) hln (by unfold maxLen; omega) (by omega) (by have := B0.size; omega) ?_, ins_small k HS.out hx, by omega, hB.out⟩
        rw [List.flatMap_append, List.flatMap_cons]
        have := hO.out
        simpa [encS1] using this
end Go.Proofs.Ytbdicaanniffpab
