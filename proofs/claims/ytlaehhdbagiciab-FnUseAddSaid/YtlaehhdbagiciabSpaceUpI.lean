import Derived.Test.YtlaehhdbagiciabSpaceG
import Derived.Maps.OwnIn
/- SpaceUp of the program. -/
namespace Go.Proofs.Ytlaehhdbagiciab
open Go Go.RowKit Go.Shelf

attribute [local go_sem] Oper.semAt_some

theorem upo_names {l : List SpaceD} {m : Nat} (h : m = (treeOf l).length) (name : ByteArray) : (trail (nxF (treeOf l) m) (finO m (idxS (treeOf l) name)) 7).map (nmF (treeOf l) m) = upO l name := by
  unfold upO
  by_cases hk : spsOk l = true
  · have e1 : treeOf l = l := by unfold treeOf; rw [hk]; rfl
    rw [e1] at h ⊢
    rw [if_pos hk, (trail_end (end_fin h hk name) (sps_len hk).2.1).1]
    exact ups_names h hk name
  · have e1 : treeOf l = [] := by unfold treeOf; rw [if_neg hk]
    rw [e1, if_neg hk]
    rw [show idxS [] name = none from rfl, show finO m none = none from rfl, trail_none]
    rfl
theorem operIn_append_own_at {F : Fence} {n : Nat} {P : Program} (w : World) {o : Oper} {a : Act} {K : Act → World → Prop} {Q : Exit → Act → World → Prop} (s x : Operand) (t : TypeId)
    (ho : o.op = .call { callee := .builtin .append, args := #[s, x], argTypes := #[t, t] })
    (base : Nat) (e : TypeId) (i : TypeInfo) (z : Value) (size bytes : Nat) (ht : P.underlying t = some (.slice e)) (hi : P.info? e = some i) (hz : i.zero = some z)
    (hsize : i.size = size) (hby : i.bytes = bytes) (hzs : z.cells.size = size) (hsz : 0 < size)
    (v : Value) (k : Nat) (xs : List Value) (hs : a.eval s = v) (hown : w.ownsRow base e size v k xs)
    (ad : Addr) (m c : Nat) (news : List Value) (hx : a.eval x = .slice (some ad) m c) (hl : news.length = m * size) (hnews : ∀ j u, news[j]? = some u → w.cell? (ad.add j) = some u) (h1 : ∀ u ∈ news, u.oneCell' = true)
    (h63 : k + m ≤ maxLen) (hbytes : (k + m) * bytes ≤ 140737488355328) (hbase : base ≤ w.heap.size)
    (h : ∀ v' w', w'.ownsRow base e size v' (k + m) (xs ++ news) → w.grownBy w' v.ownBlock → (v'.ownBlock = v.ownBlock ∨ v'.ownBlock = some w.heap.size) → K (a.put o.dst v') w') :
    Oper.wpIn F n P o a w K Q := by
  obtain ⟨v', w', hr, h2, h3, h4, h5⟩ := run_append_own_at (P := P) w base t o.type e i z size bytes ht hi hz hsize hby hzs hsz v k xs hown ad m c news hl hnews h1 h63 hbytes hbase
  unfold Oper.wpIn
  refine ⟨by simp [Oper.about, ho, resolve, Target.leads, Sem.run_pure], ?_⟩
  rw [Oper.semAt_plain F _ _ (by rw [ho]; intro c hc'; cases hc')]
  simp [execOp, ho, resolve, invoke, builtin, hs, hx, hr, Result.andThen]
  exact h v' w' h2 h3 h5

/-- between two rounds -/
def UpE (r : Nat) (W0 : World) (T : Nat → Prop) {m : Nat} (nm : Fin m → ByteArray) (s : List (Fin m)) (W : World) : Prop :=
  (∃ v, Boxed W r 47 v ∧ W.ownsRow W0.heap.size 9 1 v s.length (s.map fun i => .string (nm i)) ∧ True) ∧ KeptOut T W0 W
theorem upE_own (r : Nat) (W0 : World) (T : Nat → Prop) {m : Nat} (nm : Fin m → ByteArray) (B : Nat) (hT : ∀ b, B ≤ b → T b) : OwnFrom B (UpE r W0 T nm) :=
  OwnFrom.and (Own.from (holdsRow_own (β := List (Fin m)) W0.heap.size r 47 9 1 (fun s => s.length) (fun s => s.map fun i => .string (nm i)) (fun _ _ => True)) _) (ownFrom_kept W0 hT)

set_option maxRecDepth 100000 in
set_option maxHeartbeats 2000000 in
theorem implSpaceUp_any (a : Option Addr) (ca : Nat) (l : List SpaceD) (name : ByteArray) (w : World) (hl : ElS 5 encSpace w a l) (hok : ∀ x ∈ l, OkSpace x) :
    Calls Try.prog 31 #[.slice a l.length ca, .string name] w (UpPost w (upO l name)) := by
  refine (callsIn_wide (n := 3)).1 ?_
  refine callsIn_of_wp_marks Try.func31 rfl trivial ?_ rfl
  simp only [Try.ntmps31, List.size_toArray, List.length_cons, List.length_nil, Nat.reduceAdd, Nat.reduceSub, Array.replicate_succ, Array.replicate_zero, List.push_toArray, List.append_toArray, List.nil_append, List.cons_append]
  obtain ⟨i0, hi, hz0, hz1, hz2⟩ := info_parts infoStrO
  gi_wp2_with fail
  refine ⟨trivial, ?_⟩
  refine (callsIn_wide.2 (spaceLink_any a ca l _ hl hok)).mono ?_
  rintro e w1 hlp
  obtain ⟨a1, c1, nbl, hln, rfl, ht, B1⟩ := link_uni hlp
  clear hlp
  have HT := Lib.hid ht
  obtain ⟨o, ho⟩ : ∃ o, finO nbl.length (idxS (treeOf l) name) = o := ⟨_, rfl⟩
  have HA := Lib.hid (show adrO nbl (idxS (treeOf l) name) = adrN nbl o by rw [← ho]; exact (adrN_fin (fun j hj => by rw [hln]; exact idxS_lt hj)).symm)
  have HE := Lib.hid (treeOf_end hln name)
  have HR := Lib.hid (upo_names hln name)
  rw [ho] at HE HR
  generalize spsOk l = ok0
  have HLN := Lib.hid hln
  have hB1z := B1.size
  have H8 := Lib.hid (treeOf_len l)
  clear ht hl hok ho hln
  have A2 : Below w1.heap.size w1 ((w1.alloc (.cells #[.slice a1 nbl.length c1] 78)).alloc (.cells #[.slice none 0 0] 47)) := ((Below.refl _ w1).alloc (Nat.le_refl _) _).alloc (by simp) _
  gi_wp2_with fail
  refine ⟨trivial, ?_⟩
  refine (callsIn_wide.2 (find_any a1 c1 nbl (treeOf l) HLN.out name _ (HT.out.pts.below A2) (HT.out.nms.below A2))).mono ?_
  rintro e w2 ⟨rfl, b2⟩
  rw [HA.out]
  gi_wp2_with fail
  have HLB := Lib.hid (show ∀ b ∈ nbl, b < w1.heap.size from fun b hb => by
    obtain ⟨i, hi, rfl⟩ := List.mem_iff_getElem.1 hb
    exact Box.lt (HT.out.nod i hi))
  have hsz2 : w1.heap.size + 2 ≤ w2.heap.size := by have := b2.size; simp at this; omega
  have B2 : Below w.heap.size w w2 := (B1.trans (A2.mono hB1z)).trans (b2.mono (by simp; omega))
  have bn2 : Boxed w2 (w1.heap.size + 1) 47 (.slice none 0 0) := by
    refine (b2.block _ (by simp)).trans ?_
    have := Boxed.new (w1.alloc (.cells #[.slice a1 nbl.length c1] 78)) 47 (.slice none 0 0)
    rw [World.size_alloc] at this
    exact this
  have HT2 := Lib.hid ((HT.out.below A2).below b2)
  clear HT B1 b2 A2
  refine ⟨trivial, ?_⟩
  refine (callsIn_wide.2 (around_any _ _)).mono ?_
  rintro e w3 ⟨rfl, rfl⟩
  obtain ⟨W0, hW0⟩ : ∃ W0, w2.alloc (.cells #[.pointer (adrN nbl o)] 81) = W0 := ⟨_, rfl⟩
  have S0 : W0.heap.size = w2.heap.size + 1 := by rw [← hW0]; simp
  have B0 : Below w.heap.size w W0 := by rw [← hW0]; exact B2.alloc B2.size _
  have bn : Boxed W0 (w1.heap.size + 1) 47 (.slice none 0 0) := by rw [← hW0]; exact bn2.alloc _
  have bp : Boxed W0 w2.heap.size 81 (.pointer (adrN nbl o)) := by rw [← hW0]; exact Boxed.new w2 _ _
  have HT0 := Lib.hid (show TreeS W0 w.heap.size a1 nbl (treeOf l) by rw [← hW0]; exact HT2.out.below (below_alloc _ _))
  have cp := bp.cell
  rw [hW0]
  clear hW0 B2 bn2 bp HT2
  gi_wp2_with fail
  obtain ⟨T, hT⟩ : ∃ T : Nat → Prop, T = fun b => b = w1.heap.size + 1 ∨ w2.heap.size + 1 ≤ b := ⟨_, rfl⟩
  have hTB : ∀ b, W0.heap.size ≤ b → T b := fun b hb => by rw [hT]; exact .inr (by omega)
  have HIV := upE_own (w1.heap.size + 1) W0 T (nmF (treeOf l) nbl.length) W0.heap.size hTB
  have HN0 := Lib.hid (nodesS_of HLN.out HT0.out.nod)
  have HTb := Lib.hid (show ∀ i : Fin nbl.length, ¬ T nbl[i] from fun i => by
    have h1 := HLB.out nbl[i] (List.getElem_mem _)
    rw [hT]
    omega)
  have HTr := Lib.hid (show T (w1.heap.size + 1) by rw [hT]; exact .inl rfl)
  have HTw := Lib.hid (show ∀ b, T b → w.heap.size ≤ b from fun b hb => by rw [hT] at hb; omega)
  clear hT
  refine wpIn_rangeFunc_ownH (F := Fence.wide) (n := 3) rfl (by omega) (gf := 97) (lb := #[.pointer (some ⟨w2.heap.size, 0, none⟩)]) rfl trivial (enters_of Try.func97 (by kernel_rfl) rfl)
    (around_stops 2 (by omega) nbl (nxF (treeOf l) nbl.length) o w2.heap.size T HTb.out 7 HE.out W0 cp HN0.out.over)
    KeptOut.trans (fun W k o o' hk h _ _ => (kept_of_grown (grownBy_putObj' W k o')).mono (fun j _ e => hTB j (by cases e; omega))) (Below.refl _ _) (fun _ => rfl)
    (UpE (w1.heap.size + 1) W0 T (nmF (treeOf l) nbl.length)) (fun c s W => False)
    HIV (fun cd s A B row hs hg hr => hs) ⟨⟨_, bn, own_nil _ _ _, trivial⟩, KeptOut.refl _ _⟩
    (fun y a' W => a' = { tmps := #[.slice a l.length ca, .string name, undef, undef, .slice none 0 0, .pointer (some ⟨w1.heap.size, 0, none⟩), .bool ok0, .pointer (some ⟨w1.heap.size + 1, 0, none⟩), .pointer (some ⟨nbl[y], 0, none⟩), .tuple #[.agg #[.slice a1 nbl.length c1], .bool ok0], .slice a l.length ca, .tuple #[.agg #[.slice a1 nbl.length c1], .bool ok0], .agg #[.slice a1 nbl.length c1], .bool ok0, .agg #[.slice a1 nbl.length c1], .string name, .pointer (adrN nbl o), .func (.func 97) #[] #[.pointer (some ⟨w2.heap.size, 0, none⟩)], .pointer (some ⟨nbl[y], 0, none⟩), undef, undef, undef, undef, undef, undef, undef, undef, undef], defers := [] })
    (fun x a' s A B row hs hg hr => hs) ?assign ?body ?done ?stop
  case assign =>
    rintro lp s y W K hi hK
    simp only [encN]
    gi_wp2
    exact hK _ _ (KeepsFrom.refl _ _) (KeptOut.refl _ _) hi rfl
  case body =>
    rintro lp s y a' W hlp ⟨r, hr⟩ ⟨⟨v, hbn, hrow, -⟩, hkp⟩ rfl hlt
    obtain ⟨va, vc, rfl⟩ := own_shpU hrow
    have HBN := Lib.hid hbn
    have hc3 := hbn.cell
    have hf3 := hbn.frozen
    have HKP := Lib.hid hkp
    have HRW := Lib.hid hrow
    have hc6 := (hkp.cell (p := ⟨nbl[y], 0, none⟩) (HN0.out.lt y) (HTb.out y)).trans (HN0.out.name y)
    have zk := hkp.size
    clear hbn hkp hrow
    generalize nbl[y] = by_ at hc6 ⊢
    obtain ⟨ny, hny⟩ : ∃ ny, nmF (treeOf l) nbl.length y = ny := ⟨_, rfl⟩
    rw [hny] at hc6
    have HNY := Lib.hid hny
    clear hny
    have hc3b := (HBN.out.alloc (.cells #[.string ny] 9)).cell
    gi_wp2_with fail
    refine wpIn_region_any (by kernel_rfl) ?_
    (try (change wpAnyIn _ _ _ _ _ _ _ _ _ (World.drew _)))
    refine wpAnyIn_ready (rs := [0, 1]) (by kernel_rfl) (by simp) ?_
    refine AllReadyIn.cons (o := { dst := some 19, op := Op.load 47 (Operand.tmp 7), type := 47, pos := "l8_space.go:61", after := _, guard := none }) rfl (fun K hK => ?_) ?_
    · go_simp
      refine hK _ _ ?_
      clear hK K
      (try simp only [Act.put, List.setIfInBounds_toArray, List.set_cons_zero, List.set_cons_succ])
      refine wpAnyIn_ready (rs := [1]) (by kernel_rfl) (by simp) ?_
      refine AllReadyIn.cons (o := { dst := some 20, op := Op.move (Operand.tmp 8), type := 81, pos := "l8_space.go:61", after := _, guard := none }) rfl (fun K hK => ?_) AllReadyIn.nil
      go_simp
      refine hK _ _ ?_
      clear hK K
      (try simp only [Act.put, List.setIfInBounds_toArray, List.set_cons_zero, List.set_cons_succ])
      refine wpAnyIn_ready (rs := [2]) (by kernel_rfl) (by simp) ?_
      refine AllReadyIn.cons (o := { dst := some 21, op := Op.nilCheck (Operand.tmp 20), type := 0, pos := "l8_space.go:61", after := _, guard := none }) rfl (fun K hK => ?_) AllReadyIn.nil
      go_simp
      refine hK _ _ ?_
      clear hK K
      (try simp only [Act.put, List.setIfInBounds_toArray, List.set_cons_zero, List.set_cons_succ])
      refine wpAnyIn_ready (rs := [3]) (by kernel_rfl) (by simp) ?_
      refine AllReadyIn.cons (o := { dst := some 22, op := Op.fieldAddr 98 (Operand.tmp 21) 0, type := 0, pos := "l8_space.go:61", after := _, guard := none }) rfl (fun K hK => ?_) AllReadyIn.nil
      go_simp
      refine hK _ _ ?_
      clear hK K
      (try simp only [Act.put, List.setIfInBounds_toArray, List.set_cons_zero, List.set_cons_succ])
      refine wpAnyIn_ready (rs := [4]) (by kernel_rfl) (by simp) ?_
      refine AllReadyIn.cons (o := { dst := some 23, op := Op.fieldAddr 52 (Operand.tmp 22) 0, type := 0, pos := "l8_space.go:61", after := _, guard := none }) rfl (fun K hK => ?_) AllReadyIn.nil
      go_simp
      refine hK _ _ ?_
      clear hK K
      (try simp only [Act.put, List.setIfInBounds_toArray, List.set_cons_zero, List.set_cons_succ])
      refine wpAnyIn_ready (rs := [5]) (by kernel_rfl) (by simp) ?_
      refine AllReadyIn.cons (o := { dst := some 24, op := Op.load 9 (Operand.tmp 23), type := 9, pos := "l8_space.go:61", after := _, guard := none }) rfl (fun K hK => ?_) AllReadyIn.nil
      go_simp
      refine hK _ _ ?_
      clear hK K
      (try simp only [Act.put, List.setIfInBounds_toArray, List.set_cons_zero, List.set_cons_succ])
      refine wpAnyIn_ready (rs := [6]) (by kernel_rfl) (by simp) ?_
      refine AllReadyIn.cons (o := { dst := some 25, op := Op.buildSlice 47 1 #[(0, Operand.tmp 24)], type := 47, pos := "l8_space.go:61", after := _, guard := none }) rfl (fun K hK => ?_) AllReadyIn.nil
      go_simp
      refine hK _ _ ?_
      clear hK K
      (try simp only [Act.put, List.setIfInBounds_toArray, List.set_cons_zero, List.set_cons_succ])
      refine wpAnyIn_ready (rs := [7]) (by kernel_rfl) (by simp) ?_
      refine AllReadyIn.cons (o := { dst := some 26, op := Op.call { callee := Callee.builtin Builtin.append, args := #[Operand.tmp 19, Operand.tmp 25], argTypes := #[47, 47] }, type := 47, pos := "l8_space.go:61", after := _, guard := none }) rfl (fun K hK => ?_) AllReadyIn.nil
      rw [if_pos (by rfl)]
      refine operIn_append_own_at _ (.tmp 19) (.tmp 25) 47 rfl W0.heap.size 9 i0 (.string ⟨#[]⟩) 1 16 Try.underlying47 hi hz0 hz1 hz2 rfl (by decide) (.slice va s.length vc) s.length _ rfl (HRW.out.alloc _) ⟨W.heap.size, 0, none⟩ 1 1 [.string ny] rfl rfl (cells_oneU _ _ _) (fun u hu => by simp at hu; subst hu; rfl) (by unfold maxLen; omega) (by omega) (by show W0.heap.size ≤ (W.alloc _).heap.size; simp; omega) ?_
      intro v3 w3 o3 g3 hob
      refine hK _ _ ?_
      clear hK K
      obtain ⟨va3, vc3, rfl⟩ := own_shpU o3
      have g4 : (W.alloc (.cells #[.string ny] 9)).grownBy w3 (Value.slice va s.length vc).ownBlock := ⟨g3.os, g3.tape, g3.output, g3.size, g3.block⟩
      obtain ⟨hv1, hv2, -, hk2, hb2⟩ := HBN.out.appended (by decide) (own_mono (base' := w.heap.size) (by omega) HRW.out) (by omega) (by omega) (own_mono (base' := w.heap.size) (by omega) o3) g4
      have KK : KeptOut T W (w3.setCell ⟨w1.heap.size + 1, 0, none⟩ (.slice va3 (s.length + 1) vc3)) := (((KeptOut.refl T W).alloc _).trans ((kept_of_grown g4).mono (fun j _ e => hTB j (HRW.out.lt j e).1))).setCell (p := ⟨w1.heap.size + 1, 0, none⟩) HTr.out _
      have o4 := own_kept (S := fun b => b = w1.heap.size + 1) o3 ((KeptOut.refl (fun b => b = w1.heap.size + 1) w3).setCell (p := ⟨w1.heap.size + 1, 0, none⟩) rfl (.slice va3 (s.length + 1) vc3)) (fun b e h => by have := (o3.lt b e).1; omega)
      have hcx := hv1.cell
      have hfx := hv1.frozen
      refine wpAnyIn_ready (rs := [8]) (by kernel_rfl) (by simp) ?_
      refine AllReadyIn.cons (o := { dst := none, op := Op.store 47 (Operand.tmp 7) (Operand.tmp 26), type := 0, pos := "l8_space.go:61", after := _, guard := none }) rfl (fun K hK => ?_) AllReadyIn.nil
      go_simp
      refine hK _ _ ?_
      clear hK K
      refine wpAnyIn_done (by kernel_rfl) ?_ _
      gi_wp2_with fail
      exact ⟨hk2.from _, KK, ⟨_, hv2, by rw [List.length_append, List.map_append]; rw [← HNY.out] at o4; exact o4, trivial⟩, HKP.out.trans KK⟩
    refine AllReadyIn.cons (o := { dst := some 20, op := Op.move (Operand.tmp 8), type := 81, pos := "l8_space.go:61", after := _, guard := none }) rfl (fun K hK => ?_) AllReadyIn.nil
    go_simp
    refine hK _ _ ?_
    clear hK K
    (try simp only [Act.put, List.setIfInBounds_toArray, List.set_cons_zero, List.set_cons_succ])
    refine wpAnyIn_ready (rs := [0, 2]) (by kernel_rfl) (by simp) ?_
    refine AllReadyIn.cons (o := { dst := some 19, op := Op.load 47 (Operand.tmp 7), type := 47, pos := "l8_space.go:61", after := _, guard := none }) rfl (fun K hK => ?_) ?_
    · go_simp
      refine hK _ _ ?_
      clear hK K
      (try simp only [Act.put, List.setIfInBounds_toArray, List.set_cons_zero, List.set_cons_succ])
      refine wpAnyIn_ready (rs := [2]) (by kernel_rfl) (by simp) ?_
      refine AllReadyIn.cons (o := { dst := some 21, op := Op.nilCheck (Operand.tmp 20), type := 0, pos := "l8_space.go:61", after := _, guard := none }) rfl (fun K hK => ?_) AllReadyIn.nil
      go_simp
      refine hK _ _ ?_
      clear hK K
      (try simp only [Act.put, List.setIfInBounds_toArray, List.set_cons_zero, List.set_cons_succ])
      refine wpAnyIn_ready (rs := [3]) (by kernel_rfl) (by simp) ?_
      refine AllReadyIn.cons (o := { dst := some 22, op := Op.fieldAddr 98 (Operand.tmp 21) 0, type := 0, pos := "l8_space.go:61", after := _, guard := none }) rfl (fun K hK => ?_) AllReadyIn.nil
      go_simp
      refine hK _ _ ?_
      clear hK K
      (try simp only [Act.put, List.setIfInBounds_toArray, List.set_cons_zero, List.set_cons_succ])
      refine wpAnyIn_ready (rs := [4]) (by kernel_rfl) (by simp) ?_
      refine AllReadyIn.cons (o := { dst := some 23, op := Op.fieldAddr 52 (Operand.tmp 22) 0, type := 0, pos := "l8_space.go:61", after := _, guard := none }) rfl (fun K hK => ?_) AllReadyIn.nil
      go_simp
      refine hK _ _ ?_
      clear hK K
      (try simp only [Act.put, List.setIfInBounds_toArray, List.set_cons_zero, List.set_cons_succ])
      refine wpAnyIn_ready (rs := [5]) (by kernel_rfl) (by simp) ?_
      refine AllReadyIn.cons (o := { dst := some 24, op := Op.load 9 (Operand.tmp 23), type := 9, pos := "l8_space.go:61", after := _, guard := none }) rfl (fun K hK => ?_) AllReadyIn.nil
      go_simp
      refine hK _ _ ?_
      clear hK K
      (try simp only [Act.put, List.setIfInBounds_toArray, List.set_cons_zero, List.set_cons_succ])
      refine wpAnyIn_ready (rs := [6]) (by kernel_rfl) (by simp) ?_
      refine AllReadyIn.cons (o := { dst := some 25, op := Op.buildSlice 47 1 #[(0, Operand.tmp 24)], type := 47, pos := "l8_space.go:61", after := _, guard := none }) rfl (fun K hK => ?_) AllReadyIn.nil
      go_simp
      refine hK _ _ ?_
      clear hK K
      (try simp only [Act.put, List.setIfInBounds_toArray, List.set_cons_zero, List.set_cons_succ])
      refine wpAnyIn_ready (rs := [7]) (by kernel_rfl) (by simp) ?_
      refine AllReadyIn.cons (o := { dst := some 26, op := Op.call { callee := Callee.builtin Builtin.append, args := #[Operand.tmp 19, Operand.tmp 25], argTypes := #[47, 47] }, type := 47, pos := "l8_space.go:61", after := _, guard := none }) rfl (fun K hK => ?_) AllReadyIn.nil
      rw [if_pos (by rfl)]
      refine operIn_append_own_at _ (.tmp 19) (.tmp 25) 47 rfl W0.heap.size 9 i0 (.string ⟨#[]⟩) 1 16 Try.underlying47 hi hz0 hz1 hz2 rfl (by decide) (.slice va s.length vc) s.length _ rfl (HRW.out.alloc _) ⟨W.heap.size, 0, none⟩ 1 1 [.string ny] rfl rfl (cells_oneU _ _ _) (fun u hu => by simp at hu; subst hu; rfl) (by unfold maxLen; omega) (by omega) (by show W0.heap.size ≤ (W.alloc _).heap.size; simp; omega) ?_
      intro v3 w3 o3 g3 hob
      refine hK _ _ ?_
      clear hK K
      obtain ⟨va3, vc3, rfl⟩ := own_shpU o3
      have g4 : (W.alloc (.cells #[.string ny] 9)).grownBy w3 (Value.slice va s.length vc).ownBlock := ⟨g3.os, g3.tape, g3.output, g3.size, g3.block⟩
      obtain ⟨hv1, hv2, -, hk2, hb2⟩ := HBN.out.appended (by decide) (own_mono (base' := w.heap.size) (by omega) HRW.out) (by omega) (by omega) (own_mono (base' := w.heap.size) (by omega) o3) g4
      have KK : KeptOut T W (w3.setCell ⟨w1.heap.size + 1, 0, none⟩ (.slice va3 (s.length + 1) vc3)) := (((KeptOut.refl T W).alloc _).trans ((kept_of_grown g4).mono (fun j _ e => hTB j (HRW.out.lt j e).1))).setCell (p := ⟨w1.heap.size + 1, 0, none⟩) HTr.out _
      have o4 := own_kept (S := fun b => b = w1.heap.size + 1) o3 ((KeptOut.refl (fun b => b = w1.heap.size + 1) w3).setCell (p := ⟨w1.heap.size + 1, 0, none⟩) rfl (.slice va3 (s.length + 1) vc3)) (fun b e h => by have := (o3.lt b e).1; omega)
      have hcx := hv1.cell
      have hfx := hv1.frozen
      refine wpAnyIn_ready (rs := [8]) (by kernel_rfl) (by simp) ?_
      refine AllReadyIn.cons (o := { dst := none, op := Op.store 47 (Operand.tmp 7) (Operand.tmp 26), type := 0, pos := "l8_space.go:61", after := _, guard := none }) rfl (fun K hK => ?_) AllReadyIn.nil
      go_simp
      refine hK _ _ ?_
      clear hK K
      refine wpAnyIn_done (by kernel_rfl) ?_ _
      gi_wp2_with fail
      exact ⟨hk2.from _, KK, ⟨_, hv2, by rw [List.length_append, List.map_append]; rw [← HNY.out] at o4; exact o4, trivial⟩, HKP.out.trans KK⟩
    refine AllReadyIn.cons (o := { dst := some 21, op := Op.nilCheck (Operand.tmp 20), type := 0, pos := "l8_space.go:61", after := _, guard := none }) rfl (fun K hK => ?_) AllReadyIn.nil
    go_simp
    refine hK _ _ ?_
    clear hK K
    (try simp only [Act.put, List.setIfInBounds_toArray, List.set_cons_zero, List.set_cons_succ])
    refine wpAnyIn_ready (rs := [0, 3]) (by kernel_rfl) (by simp) ?_
    refine AllReadyIn.cons (o := { dst := some 19, op := Op.load 47 (Operand.tmp 7), type := 47, pos := "l8_space.go:61", after := _, guard := none }) rfl (fun K hK => ?_) ?_
    · go_simp
      refine hK _ _ ?_
      clear hK K
      (try simp only [Act.put, List.setIfInBounds_toArray, List.set_cons_zero, List.set_cons_succ])
      refine wpAnyIn_ready (rs := [3]) (by kernel_rfl) (by simp) ?_
      refine AllReadyIn.cons (o := { dst := some 22, op := Op.fieldAddr 98 (Operand.tmp 21) 0, type := 0, pos := "l8_space.go:61", after := _, guard := none }) rfl (fun K hK => ?_) AllReadyIn.nil
      go_simp
      refine hK _ _ ?_
      clear hK K
      (try simp only [Act.put, List.setIfInBounds_toArray, List.set_cons_zero, List.set_cons_succ])
      refine wpAnyIn_ready (rs := [4]) (by kernel_rfl) (by simp) ?_
      refine AllReadyIn.cons (o := { dst := some 23, op := Op.fieldAddr 52 (Operand.tmp 22) 0, type := 0, pos := "l8_space.go:61", after := _, guard := none }) rfl (fun K hK => ?_) AllReadyIn.nil
      go_simp
      refine hK _ _ ?_
      clear hK K
      (try simp only [Act.put, List.setIfInBounds_toArray, List.set_cons_zero, List.set_cons_succ])
      refine wpAnyIn_ready (rs := [5]) (by kernel_rfl) (by simp) ?_
      refine AllReadyIn.cons (o := { dst := some 24, op := Op.load 9 (Operand.tmp 23), type := 9, pos := "l8_space.go:61", after := _, guard := none }) rfl (fun K hK => ?_) AllReadyIn.nil
      go_simp
      refine hK _ _ ?_
      clear hK K
      (try simp only [Act.put, List.setIfInBounds_toArray, List.set_cons_zero, List.set_cons_succ])
      refine wpAnyIn_ready (rs := [6]) (by kernel_rfl) (by simp) ?_
      refine AllReadyIn.cons (o := { dst := some 25, op := Op.buildSlice 47 1 #[(0, Operand.tmp 24)], type := 47, pos := "l8_space.go:61", after := _, guard := none }) rfl (fun K hK => ?_) AllReadyIn.nil
      go_simp
      refine hK _ _ ?_
      clear hK K
      (try simp only [Act.put, List.setIfInBounds_toArray, List.set_cons_zero, List.set_cons_succ])
      refine wpAnyIn_ready (rs := [7]) (by kernel_rfl) (by simp) ?_
      refine AllReadyIn.cons (o := { dst := some 26, op := Op.call { callee := Callee.builtin Builtin.append, args := #[Operand.tmp 19, Operand.tmp 25], argTypes := #[47, 47] }, type := 47, pos := "l8_space.go:61", after := _, guard := none }) rfl (fun K hK => ?_) AllReadyIn.nil
      rw [if_pos (by rfl)]
      refine operIn_append_own_at _ (.tmp 19) (.tmp 25) 47 rfl W0.heap.size 9 i0 (.string ⟨#[]⟩) 1 16 Try.underlying47 hi hz0 hz1 hz2 rfl (by decide) (.slice va s.length vc) s.length _ rfl (HRW.out.alloc _) ⟨W.heap.size, 0, none⟩ 1 1 [.string ny] rfl rfl (cells_oneU _ _ _) (fun u hu => by simp at hu; subst hu; rfl) (by unfold maxLen; omega) (by omega) (by show W0.heap.size ≤ (W.alloc _).heap.size; simp; omega) ?_
      intro v3 w3 o3 g3 hob
      refine hK _ _ ?_
      clear hK K
      obtain ⟨va3, vc3, rfl⟩ := own_shpU o3
      have g4 : (W.alloc (.cells #[.string ny] 9)).grownBy w3 (Value.slice va s.length vc).ownBlock := ⟨g3.os, g3.tape, g3.output, g3.size, g3.block⟩
      obtain ⟨hv1, hv2, -, hk2, hb2⟩ := HBN.out.appended (by decide) (own_mono (base' := w.heap.size) (by omega) HRW.out) (by omega) (by omega) (own_mono (base' := w.heap.size) (by omega) o3) g4
      have KK : KeptOut T W (w3.setCell ⟨w1.heap.size + 1, 0, none⟩ (.slice va3 (s.length + 1) vc3)) := (((KeptOut.refl T W).alloc _).trans ((kept_of_grown g4).mono (fun j _ e => hTB j (HRW.out.lt j e).1))).setCell (p := ⟨w1.heap.size + 1, 0, none⟩) HTr.out _
      have o4 := own_kept (S := fun b => b = w1.heap.size + 1) o3 ((KeptOut.refl (fun b => b = w1.heap.size + 1) w3).setCell (p := ⟨w1.heap.size + 1, 0, none⟩) rfl (.slice va3 (s.length + 1) vc3)) (fun b e h => by have := (o3.lt b e).1; omega)
      have hcx := hv1.cell
      have hfx := hv1.frozen
      refine wpAnyIn_ready (rs := [8]) (by kernel_rfl) (by simp) ?_
      refine AllReadyIn.cons (o := { dst := none, op := Op.store 47 (Operand.tmp 7) (Operand.tmp 26), type := 0, pos := "l8_space.go:61", after := _, guard := none }) rfl (fun K hK => ?_) AllReadyIn.nil
      go_simp
      refine hK _ _ ?_
      clear hK K
      refine wpAnyIn_done (by kernel_rfl) ?_ _
      gi_wp2_with fail
      exact ⟨hk2.from _, KK, ⟨_, hv2, by rw [List.length_append, List.map_append]; rw [← HNY.out] at o4; exact o4, trivial⟩, HKP.out.trans KK⟩
    refine AllReadyIn.cons (o := { dst := some 22, op := Op.fieldAddr 98 (Operand.tmp 21) 0, type := 0, pos := "l8_space.go:61", after := _, guard := none }) rfl (fun K hK => ?_) AllReadyIn.nil
    go_simp
    refine hK _ _ ?_
    clear hK K
    (try simp only [Act.put, List.setIfInBounds_toArray, List.set_cons_zero, List.set_cons_succ])
    refine wpAnyIn_ready (rs := [0, 4]) (by kernel_rfl) (by simp) ?_
    refine AllReadyIn.cons (o := { dst := some 19, op := Op.load 47 (Operand.tmp 7), type := 47, pos := "l8_space.go:61", after := _, guard := none }) rfl (fun K hK => ?_) ?_
    · go_simp
      refine hK _ _ ?_
      clear hK K
      (try simp only [Act.put, List.setIfInBounds_toArray, List.set_cons_zero, List.set_cons_succ])
      refine wpAnyIn_ready (rs := [4]) (by kernel_rfl) (by simp) ?_
      refine AllReadyIn.cons (o := { dst := some 23, op := Op.fieldAddr 52 (Operand.tmp 22) 0, type := 0, pos := "l8_space.go:61", after := _, guard := none }) rfl (fun K hK => ?_) AllReadyIn.nil
      go_simp
      refine hK _ _ ?_
      clear hK K
      (try simp only [Act.put, List.setIfInBounds_toArray, List.set_cons_zero, List.set_cons_succ])
      refine wpAnyIn_ready (rs := [5]) (by kernel_rfl) (by simp) ?_
      refine AllReadyIn.cons (o := { dst := some 24, op := Op.load 9 (Operand.tmp 23), type := 9, pos := "l8_space.go:61", after := _, guard := none }) rfl (fun K hK => ?_) AllReadyIn.nil
      go_simp
      refine hK _ _ ?_
      clear hK K
      (try simp only [Act.put, List.setIfInBounds_toArray, List.set_cons_zero, List.set_cons_succ])
      refine wpAnyIn_ready (rs := [6]) (by kernel_rfl) (by simp) ?_
      refine AllReadyIn.cons (o := { dst := some 25, op := Op.buildSlice 47 1 #[(0, Operand.tmp 24)], type := 47, pos := "l8_space.go:61", after := _, guard := none }) rfl (fun K hK => ?_) AllReadyIn.nil
      go_simp
      refine hK _ _ ?_
      clear hK K
      (try simp only [Act.put, List.setIfInBounds_toArray, List.set_cons_zero, List.set_cons_succ])
      refine wpAnyIn_ready (rs := [7]) (by kernel_rfl) (by simp) ?_
      refine AllReadyIn.cons (o := { dst := some 26, op := Op.call { callee := Callee.builtin Builtin.append, args := #[Operand.tmp 19, Operand.tmp 25], argTypes := #[47, 47] }, type := 47, pos := "l8_space.go:61", after := _, guard := none }) rfl (fun K hK => ?_) AllReadyIn.nil
      rw [if_pos (by rfl)]
      refine operIn_append_own_at _ (.tmp 19) (.tmp 25) 47 rfl W0.heap.size 9 i0 (.string ⟨#[]⟩) 1 16 Try.underlying47 hi hz0 hz1 hz2 rfl (by decide) (.slice va s.length vc) s.length _ rfl (HRW.out.alloc _) ⟨W.heap.size, 0, none⟩ 1 1 [.string ny] rfl rfl (cells_oneU _ _ _) (fun u hu => by simp at hu; subst hu; rfl) (by unfold maxLen; omega) (by omega) (by show W0.heap.size ≤ (W.alloc _).heap.size; simp; omega) ?_
      intro v3 w3 o3 g3 hob
      refine hK _ _ ?_
      clear hK K
      obtain ⟨va3, vc3, rfl⟩ := own_shpU o3
      have g4 : (W.alloc (.cells #[.string ny] 9)).grownBy w3 (Value.slice va s.length vc).ownBlock := ⟨g3.os, g3.tape, g3.output, g3.size, g3.block⟩
      obtain ⟨hv1, hv2, -, hk2, hb2⟩ := HBN.out.appended (by decide) (own_mono (base' := w.heap.size) (by omega) HRW.out) (by omega) (by omega) (own_mono (base' := w.heap.size) (by omega) o3) g4
      have KK : KeptOut T W (w3.setCell ⟨w1.heap.size + 1, 0, none⟩ (.slice va3 (s.length + 1) vc3)) := (((KeptOut.refl T W).alloc _).trans ((kept_of_grown g4).mono (fun j _ e => hTB j (HRW.out.lt j e).1))).setCell (p := ⟨w1.heap.size + 1, 0, none⟩) HTr.out _
      have o4 := own_kept (S := fun b => b = w1.heap.size + 1) o3 ((KeptOut.refl (fun b => b = w1.heap.size + 1) w3).setCell (p := ⟨w1.heap.size + 1, 0, none⟩) rfl (.slice va3 (s.length + 1) vc3)) (fun b e h => by have := (o3.lt b e).1; omega)
      have hcx := hv1.cell
      have hfx := hv1.frozen
      refine wpAnyIn_ready (rs := [8]) (by kernel_rfl) (by simp) ?_
      refine AllReadyIn.cons (o := { dst := none, op := Op.store 47 (Operand.tmp 7) (Operand.tmp 26), type := 0, pos := "l8_space.go:61", after := _, guard := none }) rfl (fun K hK => ?_) AllReadyIn.nil
      go_simp
      refine hK _ _ ?_
      clear hK K
      refine wpAnyIn_done (by kernel_rfl) ?_ _
      gi_wp2_with fail
      exact ⟨hk2.from _, KK, ⟨_, hv2, by rw [List.length_append, List.map_append]; rw [← HNY.out] at o4; exact o4, trivial⟩, HKP.out.trans KK⟩
    refine AllReadyIn.cons (o := { dst := some 23, op := Op.fieldAddr 52 (Operand.tmp 22) 0, type := 0, pos := "l8_space.go:61", after := _, guard := none }) rfl (fun K hK => ?_) AllReadyIn.nil
    go_simp
    refine hK _ _ ?_
    clear hK K
    (try simp only [Act.put, List.setIfInBounds_toArray, List.set_cons_zero, List.set_cons_succ])
    refine wpAnyIn_ready (rs := [0, 5]) (by kernel_rfl) (by simp) ?_
    refine AllReadyIn.cons (o := { dst := some 19, op := Op.load 47 (Operand.tmp 7), type := 47, pos := "l8_space.go:61", after := _, guard := none }) rfl (fun K hK => ?_) ?_
    · go_simp
      refine hK _ _ ?_
      clear hK K
      (try simp only [Act.put, List.setIfInBounds_toArray, List.set_cons_zero, List.set_cons_succ])
      refine wpAnyIn_ready (rs := [5]) (by kernel_rfl) (by simp) ?_
      refine AllReadyIn.cons (o := { dst := some 24, op := Op.load 9 (Operand.tmp 23), type := 9, pos := "l8_space.go:61", after := _, guard := none }) rfl (fun K hK => ?_) AllReadyIn.nil
      go_simp
      refine hK _ _ ?_
      clear hK K
      (try simp only [Act.put, List.setIfInBounds_toArray, List.set_cons_zero, List.set_cons_succ])
      refine wpAnyIn_ready (rs := [6]) (by kernel_rfl) (by simp) ?_
      refine AllReadyIn.cons (o := { dst := some 25, op := Op.buildSlice 47 1 #[(0, Operand.tmp 24)], type := 47, pos := "l8_space.go:61", after := _, guard := none }) rfl (fun K hK => ?_) AllReadyIn.nil
      go_simp
      refine hK _ _ ?_
      clear hK K
      (try simp only [Act.put, List.setIfInBounds_toArray, List.set_cons_zero, List.set_cons_succ])
      refine wpAnyIn_ready (rs := [7]) (by kernel_rfl) (by simp) ?_
      refine AllReadyIn.cons (o := { dst := some 26, op := Op.call { callee := Callee.builtin Builtin.append, args := #[Operand.tmp 19, Operand.tmp 25], argTypes := #[47, 47] }, type := 47, pos := "l8_space.go:61", after := _, guard := none }) rfl (fun K hK => ?_) AllReadyIn.nil
      rw [if_pos (by rfl)]
      refine operIn_append_own_at _ (.tmp 19) (.tmp 25) 47 rfl W0.heap.size 9 i0 (.string ⟨#[]⟩) 1 16 Try.underlying47 hi hz0 hz1 hz2 rfl (by decide) (.slice va s.length vc) s.length _ rfl (HRW.out.alloc _) ⟨W.heap.size, 0, none⟩ 1 1 [.string ny] rfl rfl (cells_oneU _ _ _) (fun u hu => by simp at hu; subst hu; rfl) (by unfold maxLen; omega) (by omega) (by show W0.heap.size ≤ (W.alloc _).heap.size; simp; omega) ?_
      intro v3 w3 o3 g3 hob
      refine hK _ _ ?_
      clear hK K
      obtain ⟨va3, vc3, rfl⟩ := own_shpU o3
      have g4 : (W.alloc (.cells #[.string ny] 9)).grownBy w3 (Value.slice va s.length vc).ownBlock := ⟨g3.os, g3.tape, g3.output, g3.size, g3.block⟩
      obtain ⟨hv1, hv2, -, hk2, hb2⟩ := HBN.out.appended (by decide) (own_mono (base' := w.heap.size) (by omega) HRW.out) (by omega) (by omega) (own_mono (base' := w.heap.size) (by omega) o3) g4
      have KK : KeptOut T W (w3.setCell ⟨w1.heap.size + 1, 0, none⟩ (.slice va3 (s.length + 1) vc3)) := (((KeptOut.refl T W).alloc _).trans ((kept_of_grown g4).mono (fun j _ e => hTB j (HRW.out.lt j e).1))).setCell (p := ⟨w1.heap.size + 1, 0, none⟩) HTr.out _
      have o4 := own_kept (S := fun b => b = w1.heap.size + 1) o3 ((KeptOut.refl (fun b => b = w1.heap.size + 1) w3).setCell (p := ⟨w1.heap.size + 1, 0, none⟩) rfl (.slice va3 (s.length + 1) vc3)) (fun b e h => by have := (o3.lt b e).1; omega)
      have hcx := hv1.cell
      have hfx := hv1.frozen
      refine wpAnyIn_ready (rs := [8]) (by kernel_rfl) (by simp) ?_
      refine AllReadyIn.cons (o := { dst := none, op := Op.store 47 (Operand.tmp 7) (Operand.tmp 26), type := 0, pos := "l8_space.go:61", after := _, guard := none }) rfl (fun K hK => ?_) AllReadyIn.nil
      go_simp
      refine hK _ _ ?_
      clear hK K
      refine wpAnyIn_done (by kernel_rfl) ?_ _
      gi_wp2_with fail
      exact ⟨hk2.from _, KK, ⟨_, hv2, by rw [List.length_append, List.map_append]; rw [← HNY.out] at o4; exact o4, trivial⟩, HKP.out.trans KK⟩
    refine AllReadyIn.cons (o := { dst := some 24, op := Op.load 9 (Operand.tmp 23), type := 9, pos := "l8_space.go:61", after := _, guard := none }) rfl (fun K hK => ?_) AllReadyIn.nil
    go_simp
    refine hK _ _ ?_
    clear hK K
    (try simp only [Act.put, List.setIfInBounds_toArray, List.set_cons_zero, List.set_cons_succ])
    refine wpAnyIn_ready (rs := [0, 6]) (by kernel_rfl) (by simp) ?_
    refine AllReadyIn.cons (o := { dst := some 19, op := Op.load 47 (Operand.tmp 7), type := 47, pos := "l8_space.go:61", after := _, guard := none }) rfl (fun K hK => ?_) ?_
    · go_simp
      refine hK _ _ ?_
      clear hK K
      (try simp only [Act.put, List.setIfInBounds_toArray, List.set_cons_zero, List.set_cons_succ])
      refine wpAnyIn_ready (rs := [6]) (by kernel_rfl) (by simp) ?_
      refine AllReadyIn.cons (o := { dst := some 25, op := Op.buildSlice 47 1 #[(0, Operand.tmp 24)], type := 47, pos := "l8_space.go:61", after := _, guard := none }) rfl (fun K hK => ?_) AllReadyIn.nil
      go_simp
      refine hK _ _ ?_
      clear hK K
      (try simp only [Act.put, List.setIfInBounds_toArray, List.set_cons_zero, List.set_cons_succ])
      refine wpAnyIn_ready (rs := [7]) (by kernel_rfl) (by simp) ?_
      refine AllReadyIn.cons (o := { dst := some 26, op := Op.call { callee := Callee.builtin Builtin.append, args := #[Operand.tmp 19, Operand.tmp 25], argTypes := #[47, 47] }, type := 47, pos := "l8_space.go:61", after := _, guard := none }) rfl (fun K hK => ?_) AllReadyIn.nil
      rw [if_pos (by rfl)]
      refine operIn_append_own_at _ (.tmp 19) (.tmp 25) 47 rfl W0.heap.size 9 i0 (.string ⟨#[]⟩) 1 16 Try.underlying47 hi hz0 hz1 hz2 rfl (by decide) (.slice va s.length vc) s.length _ rfl (HRW.out.alloc _) ⟨W.heap.size, 0, none⟩ 1 1 [.string ny] rfl rfl (cells_oneU _ _ _) (fun u hu => by simp at hu; subst hu; rfl) (by unfold maxLen; omega) (by omega) (by show W0.heap.size ≤ (W.alloc _).heap.size; simp; omega) ?_
      intro v3 w3 o3 g3 hob
      refine hK _ _ ?_
      clear hK K
      obtain ⟨va3, vc3, rfl⟩ := own_shpU o3
      have g4 : (W.alloc (.cells #[.string ny] 9)).grownBy w3 (Value.slice va s.length vc).ownBlock := ⟨g3.os, g3.tape, g3.output, g3.size, g3.block⟩
      obtain ⟨hv1, hv2, -, hk2, hb2⟩ := HBN.out.appended (by decide) (own_mono (base' := w.heap.size) (by omega) HRW.out) (by omega) (by omega) (own_mono (base' := w.heap.size) (by omega) o3) g4
      have KK : KeptOut T W (w3.setCell ⟨w1.heap.size + 1, 0, none⟩ (.slice va3 (s.length + 1) vc3)) := (((KeptOut.refl T W).alloc _).trans ((kept_of_grown g4).mono (fun j _ e => hTB j (HRW.out.lt j e).1))).setCell (p := ⟨w1.heap.size + 1, 0, none⟩) HTr.out _
      have o4 := own_kept (S := fun b => b = w1.heap.size + 1) o3 ((KeptOut.refl (fun b => b = w1.heap.size + 1) w3).setCell (p := ⟨w1.heap.size + 1, 0, none⟩) rfl (.slice va3 (s.length + 1) vc3)) (fun b e h => by have := (o3.lt b e).1; omega)
      have hcx := hv1.cell
      have hfx := hv1.frozen
      refine wpAnyIn_ready (rs := [8]) (by kernel_rfl) (by simp) ?_
      refine AllReadyIn.cons (o := { dst := none, op := Op.store 47 (Operand.tmp 7) (Operand.tmp 26), type := 0, pos := "l8_space.go:61", after := _, guard := none }) rfl (fun K hK => ?_) AllReadyIn.nil
      go_simp
      refine hK _ _ ?_
      clear hK K
      refine wpAnyIn_done (by kernel_rfl) ?_ _
      gi_wp2_with fail
      exact ⟨hk2.from _, KK, ⟨_, hv2, by rw [List.length_append, List.map_append]; rw [← HNY.out] at o4; exact o4, trivial⟩, HKP.out.trans KK⟩
    refine AllReadyIn.cons (o := { dst := some 25, op := Op.buildSlice 47 1 #[(0, Operand.tmp 24)], type := 47, pos := "l8_space.go:61", after := _, guard := none }) rfl (fun K hK => ?_) AllReadyIn.nil
    go_simp
    refine hK _ _ ?_
    clear hK K
    (try simp only [Act.put, List.setIfInBounds_toArray, List.set_cons_zero, List.set_cons_succ])
    refine wpAnyIn_ready (rs := [0]) (by kernel_rfl) (by simp) ?_
    refine AllReadyIn.cons (o := { dst := some 19, op := Op.load 47 (Operand.tmp 7), type := 47, pos := "l8_space.go:61", after := _, guard := none }) rfl (fun K hK => ?_) AllReadyIn.nil
    go_simp
    refine hK _ _ ?_
    clear hK K
    (try simp only [Act.put, List.setIfInBounds_toArray, List.set_cons_zero, List.set_cons_succ])
    refine wpAnyIn_ready (rs := [7]) (by kernel_rfl) (by simp) ?_
    refine AllReadyIn.cons (o := { dst := some 26, op := Op.call { callee := Callee.builtin Builtin.append, args := #[Operand.tmp 19, Operand.tmp 25], argTypes := #[47, 47] }, type := 47, pos := "l8_space.go:61", after := _, guard := none }) rfl (fun K hK => ?_) AllReadyIn.nil
    rw [if_pos (by rfl)]
    refine operIn_append_own_at _ (.tmp 19) (.tmp 25) 47 rfl W0.heap.size 9 i0 (.string ⟨#[]⟩) 1 16 Try.underlying47 hi hz0 hz1 hz2 rfl (by decide) (.slice va s.length vc) s.length _ rfl (HRW.out.alloc _) ⟨W.heap.size, 0, none⟩ 1 1 [.string ny] rfl rfl (cells_oneU _ _ _) (fun u hu => by simp at hu; subst hu; rfl) (by unfold maxLen; omega) (by omega) (by show W0.heap.size ≤ (W.alloc _).heap.size; simp; omega) ?_
    intro v3 w3 o3 g3 hob
    refine hK _ _ ?_
    clear hK K
    obtain ⟨va3, vc3, rfl⟩ := own_shpU o3
    have g4 : (W.alloc (.cells #[.string ny] 9)).grownBy w3 (Value.slice va s.length vc).ownBlock := ⟨g3.os, g3.tape, g3.output, g3.size, g3.block⟩
    obtain ⟨hv1, hv2, -, hk2, hb2⟩ := HBN.out.appended (by decide) (own_mono (base' := w.heap.size) (by omega) HRW.out) (by omega) (by omega) (own_mono (base' := w.heap.size) (by omega) o3) g4
    have KK : KeptOut T W (w3.setCell ⟨w1.heap.size + 1, 0, none⟩ (.slice va3 (s.length + 1) vc3)) := (((KeptOut.refl T W).alloc _).trans ((kept_of_grown g4).mono (fun j _ e => hTB j (HRW.out.lt j e).1))).setCell (p := ⟨w1.heap.size + 1, 0, none⟩) HTr.out _
    have o4 := own_kept (S := fun b => b = w1.heap.size + 1) o3 ((KeptOut.refl (fun b => b = w1.heap.size + 1) w3).setCell (p := ⟨w1.heap.size + 1, 0, none⟩) rfl (.slice va3 (s.length + 1) vc3)) (fun b e h => by have := (o3.lt b e).1; omega)
    have hcx := hv1.cell
    have hfx := hv1.frozen
    refine wpAnyIn_ready (rs := [8]) (by kernel_rfl) (by simp) ?_
    refine AllReadyIn.cons (o := { dst := none, op := Op.store 47 (Operand.tmp 7) (Operand.tmp 26), type := 0, pos := "l8_space.go:61", after := _, guard := none }) rfl (fun K hK => ?_) AllReadyIn.nil
    go_simp
    refine hK _ _ ?_
    clear hK K
    refine wpAnyIn_done (by kernel_rfl) ?_ _
    gi_wp2_with fail
    exact ⟨hk2.from _, KK, ⟨_, hv2, by rw [List.length_append, List.map_append]; rw [← HNY.out] at o4; exact o4, trivial⟩, HKP.out.trans KK⟩
  case done =>
    rintro D ys W hD ⟨k, hk, hend⟩ ⟨⟨v, hbn, hrow, -⟩, hkp⟩ hK
    have hc := hbn.cell
    have HRW := Lib.hid hrow
    have HRR := Lib.hid (show ys.map (nmF (treeOf l) nbl.length) = upO l name by
      rw [← HR.out]
      have e1 := trail_end hend (Nat.le_max_left k 7)
      have e2 := trail_end HE.out (Nat.le_max_right k 7)
      rw [← e2.1, e1.1, ← hk])
    have HBB := Lib.hid (hkp.below B0 B0.size HTw.out)
    clear hbn hkp hrow
    gi_wp2
    refine ⟨by simp, .inl ⟨_, _, rfl, run_takeDeferred hK, ?_⟩⟩
    refine ⟨_, results_tmp rfl _ _ _, _, rfl, ?_, HBB.out.trans (belowK_b (w := w) (Nat.le_refl _) W D _ _ (by omega) hK rfl rfl)⟩
    have := own_mono (base' := w.heap.size) (by omega) (ownsRow_putObj HRW.out (.deferred none) hK rfl)
    rw [← HRR.out, List.map_map, List.length_map]
    exact this
  case stop =>
    rintro D c s W hD hSp hf hK
    exact hf.elim
end Go.Proofs.Ytlaehhdbagiciab
