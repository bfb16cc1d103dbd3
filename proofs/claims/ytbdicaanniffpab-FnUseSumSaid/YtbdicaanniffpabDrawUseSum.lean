import Derived.Test.YtbdicaanniffpabDrawAnyTh
import Derived.Test.YtbdicaanniffpabDrawSps
import Derived.Test.YtbdicaanniffpabThs
/- Drawn spaces, things, and a name. -/
namespace Go.Proofs.Ytbdicaanniffpab
open Go Go.RowKit

section
variable {P : Program} (w : World)
/-- where the block of a list lies that was appended to: where it lay, or behind all -/
theorem append_blk (t ty e : TypeId) (i : TypeInfo) (z : Value) (size bytes : Nat) (ht : P.underlying t = some (.slice e)) (hi : P.info? e = some i) (hz : i.zero = some z)
    (hsize : i.size = size) (hby : i.bytes = bytes) (hzs : z.cells.size = size) (hsz : 0 < size) (base : Nat)
    (v : Value) (n : Nat) (xs : List Value) (hown : w.ownsRow base e size v n xs)
    (a : Addr) (m c : Nat) (news : List Value) (hl : news.length = m * size) (hnews : ∀ j u, news[j]? = some u → w.cell? (a.add j) = some u) (h1 : ∀ u ∈ news, u.oneCell' = true)
    (h63 : n + m ≤ maxLen) (hbytes : (n + m) * bytes ≤ 140737488355328) {v' : Value} {w' : World}
    (hr : (Builtin.append_ #[t, t] ty #[v, .slice (some a) m c]).run P w = .ok v' w') : v'.ownBlock = v.ownBlock ∨ ∀ k, v'.ownBlock = some k → w.heap.size ≤ k := by
  rcases hown.2 with ⟨rfl, rfl⟩ | ⟨g, cap, cur, rfl, hbg, hg, hnc, hcm, hcs, htake⟩
  · obtain ⟨v2, w2, hr2, h2, -, -⟩ := run_append_own (P := P) w w.heap.size t ty e i z size bytes ht hi hz hsize hby hzs hsz (.slice none 0 0) 0 xs ⟨hown.1, .inl ⟨rfl, rfl⟩⟩ a m c news hl hnews h1 h63 hbytes (Nat.le_refl _)
    rw [hr] at hr2
    cases hr2
    exact .inr fun k hk => (h2.lt k hk).1
  · subst hsize
    subst hby
    have hsmall : n + m ≤ 9223372036854775807 := by simp only [maxLen] at h63; omega
    by_cases hroom : n + m ≤ cap
    · have hr2 := run_append_room (P := P) w t ty e i ht hi g n cap cur hg a m c news hl hnews h1 hroom (by rw [hl, hcs, ← Nat.add_mul]; exact Nat.mul_le_mul_right _ hroom)
      rw [hr] at hr2
      cases hr2
      exact .inl rfl
    · have hr2 := run_append_grow (P := P) w t ty e i z ht hi hz ⟨g, 0, none⟩ n cap xs hown.1 (hown.cells (g := g) rfl) a m c news hl hnews (by omega) (by omega) (growslice_fits (by omega) hbytes)
      rw [hr] at hr2
      cases hr2
      exact .inr fun k hk => by simp [Value.ownBlock] at hk; omega
theorem wpList_append_blk {ops : Array Oper} {rest : List Oper} {o : Oper} {a : Act} {Q : Exit → Act → World → Prop} {w : World} (hgd : o.guard = none) (s x : Operand) (t : TypeId)
    (ho : o.op = .call { callee := .builtin .append, args := #[s, x], argTypes := #[t, t] })
    (base : Nat) (e : TypeId) (i : TypeInfo) (z : Value) (size bytes : Nat) (ht : P.underlying t = some (.slice e)) (hi : P.info? e = some i) (hz : i.zero = some z)
    (hsize : i.size = size) (hby : i.bytes = bytes) (hzs : z.cells.size = size) (hsz : 0 < size)
    (v : Value) (n : Nat) (xs : List Value) (hs : a.eval s = v) (hown : w.ownsRow base e size v n xs)
    (ad : Addr) (m c : Nat) (news : List Value) (hx : a.eval x = .slice (some ad) m c) (hl : news.length = m * size) (hnews : ∀ j u, news[j]? = some u → w.cell? (ad.add j) = some u) (h1 : ∀ u ∈ news, u.oneCell' = true)
    (h63 : n + m ≤ maxLen) (hbytes : (n + m) * bytes ≤ 140737488355328) (hbase : base ≤ w.heap.size)
    (h : ∀ v' w', w'.ownsRow base e size v' (n + m) (xs ++ news) → w.grownBy w' v.ownBlock → (v'.ownBlock = v.ownBlock ∨ ∀ k, v'.ownBlock = some k → w.heap.size ≤ k) → wpList P ops Q rest (a.put o.dst v') w') : wpList P ops Q (o :: rest) a w := by
  refine wpList_plain hgd fun K hK => ?_
  obtain ⟨v', w', hr, h2, h3, -⟩ := run_append_own (P := P) w base t o.type e i z size bytes ht hi hz hsize hby hzs hsz v n xs hown ad m c news hl hnews h1 h63 hbytes hbase
  have h4 := append_blk (P := P) w t o.type e i z size bytes ht hi hz hsize hby hzs hsz base v n xs hown ad m c news hl hnews h1 h63 hbytes hr
  unfold Oper.wp execOp
  simp only [ho, resolve, invoke, builtin, Sem.run_bind, Sem.run_pure, Result.andThen_ok, List.map_toArray, List.map_cons, List.map_nil, hs, hx, hr]
  exact hK _ _ (h v' w' h2 h3 h4)
end
/-- a drawn thing of a list, its marks in a block of its own -/
def GoodX (B : Nat) (w : World) (x : ThX) : Prop := MkS w B (.slice x.1 x.2.2.marks.length x.2.1) x.2.2.marks ∧ AnyTh x.2.2
theorem GoodX.kept {S : Nat → Prop} {B : Nat} {w w' : World} {x : ThX} (h : GoodX B w x) (hS : ∀ g, x.1 = some ⟨g, 0, none⟩ → ¬ S g) (hk : KeptOut S w w') : GoodX B w' x := ⟨h.1.keptX hS hk, h.2⟩
theorem GoodX.out {r B : Nat} {w w' : World} {x : ThX} (h : GoodX B w x) (hr : r < B) (hk : KeptOut (fun b => b = r) w w') : GoodX B w' x := h.kept (fun g e q => by have := h.1.bnd g e; omega) hk
theorem GoodX.below {B : Nat} {w w' : World} {x : ThX} (h : GoodX B w x) (hb : Below w.heap.size w w') : GoodX B w' x := h.kept (S := fun _ => False) (fun _ _ q => q) (.of_below hb)
def litU5 : List ByteArray := [⟨#[97, 108, 108]⟩, ⟨#[97]⟩, ⟨#[98]⟩, ⟨#[99]⟩, ⟨#[100]⟩]
def litV5 : List ByteArray := [⟨#[97, 108, 108]⟩, ⟨#[97]⟩, ⟨#[98]⟩, ⟨#[99]⟩, ⟨#[120]⟩]
theorem litU5_size : ∀ s ∈ litU5, s.size ≤ 24 := by
  intro s hs
  simp only [litU5, List.mem_cons, List.not_mem_nil, or_false] at hs
  rcases hs with rfl | rfl | rfl | rfl | rfl <;> simp [ByteArray.size]
theorem litV5_size : ∀ s ∈ litV5, s.size ≤ 24 ∧ s ≠ ⟨#[]⟩ := by
  intro s hs
  simp only [litV5, List.mem_cons, List.not_mem_nil, or_false] at hs
  rcases hs with rfl | rfl | rfl | rfl | rfl <;> exact ⟨by decide, by decide⟩
def SumDraw (w : World) (e : Ending) (w' : World) : Prop := ∃ b cb L bt ct xs nm, e = .returned (.tuple #[.slice b (List.length L) cb, .slice bt (List.length xs) ct, .string nm]) ∧ ElS 5 encSpace w' b L ∧ AnySp L ∧ L.length ≤ 7 ∧ ElS 7 encT w' bt xs ∧ (∀ x ∈ xs, GoodX w.heap.size w' x) ∧ xs.length ≤ 6 ∧ nm.size ≤ 24 ∧ nm ≠ ⟨#[]⟩ ∧ Below w.heap.size w w'
def ApartX (v : Value) (xs : List ThX) : Prop := ∀ x ∈ xs, ∀ g, x.1 = some ⟨g, 0, none⟩ → v.ownBlock ≠ some g
theorem cellsNewT (w : World) (cs : List Value) (e : TypeId) : ∀ j u, cs[j]? = some u → (w.alloc (.cells cs.toArray e)).cell? ((⟨w.heap.size, 0, none⟩ : Addr).add j) = some u := by
  intro j u h
  rw [addr_add, Nat.zero_add]
  exact (Box.alloc w cs.toArray e j u (by simpa using h)).1
theorem rel_next {B r : Nat} {wr W w2 : World} {v v2 : Value} {xs : List ThX} {z : ThX} {o : Obj} (hr : r < B) (hob : ∀ b, v.ownBlock = some b → b < wr.heap.size) (G : ∀ x ∈ xs, GoodX B wr x) (AP : ApartX v xs) (KW : KeptOut (fun b => b = r ∨ wr.heap.size ≤ b) wr W)
    (N : GoodX B W z) (NB : ∀ g, z.1 = some ⟨g, 0, none⟩ → wr.heap.size ≤ g) (g2 : (W.alloc o).grownBy w2 v.ownBlock) (hblk : v2.ownBlock = v.ownBlock ∨ ∀ k, v2.ownBlock = some k → (W.alloc o).heap.size ≤ k) :
    (∀ x ∈ xs ++ [z], GoodX B w2 x) ∧ ApartX v2 (xs ++ [z]) := by
  have hW := KW.size
  have K2 := kept_of_grown g2
  constructor
  · intro x hx
    rcases List.mem_append.1 hx with hx | hx
    · have h1 := G x hx
      have h2 := h1.kept (S := fun b => b = r ∨ wr.heap.size ≤ b) (fun g e q => by have := h1.1.bnd g e; omega) KW
      exact (h2.below (below_alloc W o)).kept (fun g e q => AP x hx g e q) K2
    · rw [List.mem_singleton.1 hx]
      exact (N.below (below_alloc W o)).kept (fun g e q => by have h3 := hob g q; have := NB g e; omega) K2
  · intro x hx g e q
    rcases hblk with h | h
    · rw [h] at q
      rcases List.mem_append.1 hx with hx | hx
      · exact AP x hx g e q
      · rw [List.mem_singleton.1 hx] at e
        have h3 := hob g q
        have := NB g e
        omega
    · have h4 := h g q
      rw [World.size_alloc] at h4
      rcases List.mem_append.1 hx with hx | hx
      · have := (G x hx).1.bnd g e
        omega
      · rw [List.mem_singleton.1 hx] at e
        have := N.1.bnd g e
        omega
theorem flat_snocT (xs : List ThX) (z : ThX) : (xs ++ [z]).flatMap encT = xs.flatMap encT ++ encT z := by simp
def sumInv (w w1 : World) (a : Option Addr) (c1 : Nat) (l1 : List UInt8) (v6 v7 : Value) (wr : World) : Prop :=
  ∃ (k : Nat) (av : Option Addr) (cv : Nat) (xs : List ThX) (p : Nat), v7 = .int .i64 k ∧ v6 = .slice av xs.length cv ∧ xs.length + k ≤ 5 ∧ wr.ownsRow w1.heap.size 25 7 (.slice av xs.length cv) xs.length (xs.flatMap encT) ∧ (∀ x ∈ xs, GoodX (w.heap.size + 1) wr x) ∧ ApartX (.slice av xs.length cv) xs ∧ Rd wr w.heap.size a c1 l1 p ∧ p + 80 * k ≤ 500 ∧ KeptOut (fun b => b = w.heap.size) w1 wr
set_option maxRecDepth 100000 in
set_option maxHeartbeats 4000000 in
theorem drawUseSum_any (a : Option Addr) (c : Nat) (l : List UInt8) (w : World) (hl : l.length ≤ c) (hc : c ≤ maxLen) (h : BytesS w a l) :
    Calls Try.prog 13 #[.slice a l.length c] w (SumDraw w) := by
  obtain ⟨i0, hi, hz0, hz1, hz2⟩ := info_parts infoThing
  go_enter Try.func13, Try.ntmps13
  go_wp2_with fail
  refine (open_any a c l _ hl hc h).mono ?_
  rintro e w1 ⟨c1, l1, rfl, h1, b1⟩
  have z1 : w.heap.size < w1.heap.size := h1.lt
  have HAR := Lib.hid (rd_har h1)
  have H1 := Lib.hid h1
  have B1 := Lib.hid b1
  clear h1 b1
  go_wp2_with fail
  have O1 := World.ownsRow_lit (base := w1.heap.size) (e := 25) (size := 7) w1 #[] 0 (Nat.le_refl _) (Nat.zero_le _) rfl
  refine (pick_any 6 _ w.heap.size a c1 l1 0 (by omega) (by omega) (by omega) (H1.out.below (below_alloc w1 _))).mono ?_
  rintro e w2 ⟨q, rfl, q0, q1, h2, k2⟩
  have q2 := q1 (by omega)
  obtain ⟨k0, rfl⟩ := Int.eq_ofNat_of_zero_le q0
  have z2 := k2.size
  rw [World.size_alloc] at z2
  have HI := Lib.hid (show sumInv w w1 a c1 l1 (.slice (some ⟨w1.heap.size, 0, none⟩) 0 0) (.int .i64 (k0 : Int)) w2 from
    ⟨k0, some ⟨w1.heap.size, 0, none⟩, 0, [], 0 + 1, rfl, rfl, by simp; omega, own_kept O1 k2 (fun b hb e => by have h9 := (O1.lt b hb).1; omega), fun x hx => by simp at hx, fun x hx => by simp at hx, h2, by omega, (KeptOut.of_below (S := fun b => b = w.heap.size) (below_alloc w1 _)).trans k2⟩)
  clear O1 h2 k2 q1 q0 H1
  go_wp2_with fail
  go_loopw [6, 7] (fun v6 v7 wr => sumInv w w1 a c1 l1 v6 v7 wr) (fun _ v7 _ => (intOf v7).toNat)
  case atStart => exact HI.out
  case round =>
    obtain ⟨k, av, cv, xs, p, rfl, rfl, hn, hO, hG, hA, hrd, hp, hK⟩ := hrel
    have zr := hK.size
    have HO := Lib.hid hO
    have HG := Lib.hid hG
    have HA := Lib.hid hA
    have HRD := Lib.hid hrd
    have HK := Lib.hid hK
    have HOB := Lib.hid (fun b hb => (hO.lt b hb).2 : ∀ b, (Value.slice av xs.length cv).ownBlock = some b → b < wr.heap.size)
    clear hO hG hA hrd hK HI
    by_cases hk0 : 0 < k
    · have hk0i : (0 : Int) < (k : Int) := by omega
      go_wp2_with fail
      refine (l13Thing_any wr w.heap.size a c1 l1 p (by omega) HRD.out).mono ?_
      rintro e w3 ⟨am, cm, t, p3, rfl, m3, ht, h3, hp3, k3⟩
      obtain ⟨sp0, nm, uid, rev, gone, ms, bo⟩ := t
      obtain ⟨t1, t2, t3, t4, t5⟩ := ht
      simp only at t1 t2 t3 t4 t5 m3
      have z3 := k3.size
      have M3 := Lib.hid m3
      have T4 := Lib.hid t4
      have H3 := Lib.hid h3
      have K3 := Lib.hid k3
      clear m3 t4 h3 k3
      unfold thingV
      dsimp only
      go_wp2_with fail
      obtain ⟨wB, hB⟩ : ∃ wB, w3.alloc (Obj.cells #[.string sp0, .string nm, .int .i64 uid, .int .i64 rev, .bool gone, .slice am ms.length cm, .string bo] 25) = wB := ⟨_, rfl⟩
      have zB : wB.heap.size = w3.heap.size + 1 := by rw [← hB, World.size_alloc]
      have BY := Lib.hid (show Box wB w3.heap.size [.string sp0, .string nm, .int .i64 uid, .int .i64 rev, .bool gone, .slice am ms.length cm, .string bo] by rw [← hB]; exact Box.alloc w3 _ _)
      have BB := Lib.hid (show Below w3.heap.size w3 wB by rw [← hB]; exact below_alloc _ _)
      rw [hB]
      clear hB
      refine (of_any _ w.heap.size a c1 l1 p3 (by omega) ((H3.out.below BB.out).below (below_alloc wB _)) (w3.heap.size + 1) 0 5 litU5 (by decide) (by decide) (by omega) (by rw [← zB]; exact lit_cells wB litU5 _)).mono ?_
      rintro e w4 ⟨sp, hsp, rfl, h4, k4⟩
      have hsp := litU5_size sp hsp
      have z4 := k4.size
      rw [World.size_alloc] at z4
      have K34 := Lib.hid (((KeptOut.of_below (S := fun b => b = w.heap.size) BB.out).trans (KeptOut.of_below (S := fun b => b = w.heap.size) (below_alloc wB _))).trans k4)
      have BY4 := (BY.out.below (below_alloc wB _)).kept k4 (by omega)
      have H4 := Lib.hid h4
      clear h4 k4 BY BB H3
      obtain ⟨⟨y0, v0⟩, ⟨y1, v1⟩, ⟨y2, v2⟩, ⟨y3, v3⟩, ⟨y4, v4⟩, ⟨y5, v5⟩, y6, v6⟩ := show _ ∧ _ ∧ _ ∧ _ ∧ _ ∧ _ ∧ _ from ⟨BY4 0 _ rfl, BY4 1 _ rfl, BY4 2 _ rfl, BY4 3 _ rfl, BY4 4 _ rfl, BY4 5 _ rfl, BY4 6 _ rfl⟩
      go_wp2_with fail
      have BY5 : Box (w4.setCell ⟨w3.heap.size, 0, none⟩ (.string sp)) w3.heap.size [.string sp, .string nm, .int .i64 uid, .int .i64 rev, .bool gone, .slice am ms.length cm, .string bo] := by
        intro i v hv
        match i, hv with
        | 0, hv => cases hv; simp [go_sem, y0, v0]
        | 1, hv => cases hv; simp [go_sem, y1, v1]
        | 2, hv => cases hv; simp [go_sem, y2, v2]
        | 3, hv => cases hv; simp [go_sem, y3, v3]
        | 4, hv => cases hv; simp [go_sem, y4, v4]
        | 5, hv => cases hv; simp [go_sem, y5, v5]
        | 6, hv => cases hv; simp [go_sem, y6, v6]
        | n + 7, hv => simp at hv
      have KS5 : KeptOut (fun b => b = w3.heap.size) w4 (w4.setCell ⟨w3.heap.size, 0, none⟩ (.string sp)) := (KeptOut.refl (fun b => b = w3.heap.size) w4).setCell (p := ⟨w3.heap.size, 0, none⟩) rfl _
      obtain ⟨w5, h5⟩ : ∃ w5, w4.setCell ⟨w3.heap.size, 0, none⟩ (.string sp) = w5 := ⟨_, rfl⟩
      rw [h5] at BY5 KS5 ⊢
      clear h5 BY4 y0 y1 y2 y3 y4 y5 y6 v0 v1 v2 v3 v4 v5 v6
      have z5 := KS5.size
      have H5 := Lib.hid (H4.out.kept2 KS5 (by omega) (fun hn x hx => by have := HAR.out hn x hx; omega))
      have K35 := Lib.hid (show KeptOut (fun b => b = w.heap.size) w3 w5 from K34.out.step KS5 (fun b hb => .inl (by omega)))
      have HBY5 := Lib.hid BY5
      clear BY5 KS5 H4 K34
      refine (pick_any 30 _ w.heap.size a c1 l1 (p3 + 1) (by omega) (by omega) (by omega) H5.out).mono ?_
      rintro e w6 ⟨q6, rfl, q60, q61, h6, k6⟩
      have z6 := k6.size
      obtain ⟨n6, rfl⟩ := Int.eq_ofNat_of_zero_le q60
      have K36 := Lib.hid (K35.out.trans k6)
      have BY6 := Lib.hid (HBY5.out.kept k6 (by omega))
      have H6 := Lib.hid h6
      clear h6 k6 q61 q60 H5 K35 HBY5
      by_cases hq : n6 = 0
      · subst hq
        go_wp2_with fail
        refine (l13AnyThing_any w6 w.heap.size a c1 l1 (p3 + 1 + 1) (by omega) H6.out).mono ?_
        rintro e w7 ⟨am7, cm7, t7, p7, rfl, m7, ht7, h7, hp7, k7⟩
        obtain ⟨sp7, nm7, uid7, rev7, gone7, ms7, bo7⟩ := t7
        have HT7 := Lib.hid ht7
        simp only at m7
        have z7 := k7.size
        have M7 := Lib.hid m7
        have H7 := Lib.hid h7
        have K37 := Lib.hid (K36.out.trans k7)
        have BY7 := BY6.out.kept k7 (by omega)
        clear m7 ht7 h7 k7
        unfold thingV
        dsimp only
        obtain ⟨⟨y0, v0⟩, ⟨y1, v1⟩, ⟨y2, v2⟩, ⟨y3, v3⟩, ⟨y4, v4⟩, ⟨y5, v5⟩, y6, v6⟩ := show _ ∧ _ ∧ _ ∧ _ ∧ _ ∧ _ ∧ _ from ⟨BY7 0 _ rfl, BY7 1 _ rfl, BY7 2 _ rfl, BY7 3 _ rfl, BY7 4 _ rfl, BY7 5 _ rfl, BY7 6 _ rfl⟩
        obtain ⟨W, hW⟩ : ∃ W, (((((((w7.setCell ⟨w3.heap.size, 0, none⟩ (.string sp7)).setCell ⟨w3.heap.size, 1, none⟩ (.string nm7)).setCell ⟨w3.heap.size, 2, none⟩ (.int .i64 uid7)).setCell ⟨w3.heap.size, 3, none⟩ (.int .i64 rev7)).setCell ⟨w3.heap.size, 4, none⟩ (.bool gone7)).setCell ⟨w3.heap.size, 5, none⟩ (.slice am7 ms7.length cm7)).setCell ⟨w3.heap.size, 6, none⟩ (.string bo7)) = W := ⟨_, rfl⟩
        have HW := Lib.hid hW
        have HZ := Lib.hid (show W.heap.size = w7.heap.size by rw [← hW]; simp)
        have KSW := Lib.hid (show KeptOut (fun b => b = w3.heap.size) w7 W by
          rw [← hW]
          repeat (first | with_reducible exact KeptOut.refl _ _ | refine KeptOut.setCell ?_ (by exact rfl) _))
        have H9 := Lib.hid (H7.out.kept2 KSW.out (by omega) (fun hn x hx => by have := HAR.out hn x hx; omega))
        have KT : KeptOut (fun b => b = w.heap.size ∨ wr.heap.size ≤ b) wr W := ((K3.out.step K37.out (fun b hb => .inr hb)).mono (S := fun b => b = w.heap.size) (fun b _ h => .inl h)).step KSW.out (fun b hb => .inl (by omega))
        have KW := Lib.hid KT
        have HN := Lib.hid (show GoodX (w.heap.size + 1) W (am7, cm7, (⟨sp7, nm7, uid7, rev7, gone7, ms7, bo7⟩ : ThingD)) from ⟨(M7.out.mono (by omega)).keptX (fun g e q => by have := M7.out.bnd g e; omega) KSW.out, HT7.out⟩)
        have HNB := Lib.hid (show ∀ g, am7 = some ⟨g, 0, none⟩ → wr.heap.size ≤ g from fun g e => by have := (M7.out.bnd g e).1; omega)
        have HO6 := Lib.hid (own_kept HO.out KT (fun b hb e => by have h8 := HOB.out b hb; have h9 := (HO.out.lt b hb).1; omega))
        have HKW := Lib.hid (show KeptOut (fun b => b = w.heap.size) w1 W from (HK.out.trans (K3.out.step K37.out (fun b hb => .inr hb))).step KSW.out (fun b hb => .inl (by omega)))
        have hzW := KSW.out.size
        clear K36 K37 K3 BY6 BY7 KT hW
        go_wp2_with (at_builtin; rw [HW.out]; refine wpList_append_blk rfl _ _ 32 rfl w1.heap.size 25 i0 (.agg #[.string ⟨#[]⟩, .string ⟨#[]⟩, .int .i64 0, .int .i64 0, .bool false, .slice none 0 0, .string ⟨#[]⟩]) 7 96 Try.underlying32 hi hz0 hz1 hz2 rfl (by decide) (.slice av xs.length cv) xs.length (xs.flatMap encT) rfl (HO6.out.alloc _) ⟨w7.heap.size, 0, none⟩ 1 1 [.string sp7, .string nm7, .int .i64 uid7, .int .i64 rev7, .bool gone7, .slice am7 ms7.length cm7, .string bo7] rfl rfl (by have h9 := cellsNewT W [.string sp7, .string nm7, .int .i64 uid7, .int .i64 rev7, .bool gone7, .slice am7 ms7.length cm7, .string bo7] 25; rw [HZ.out] at h9; exact h9) (by simp [Value.oneCell']) (by unfold maxLen; omega) (by omega) (by simp; omega) ?_; intro v8 w8 o8 g8 hb8)
        obtain ⟨a8, c8, rfl⟩ := own_shape o8
        obtain ⟨hG8, hA8⟩ := rel_next (r := w.heap.size) (by omega) HOB.out HG.out HA.out KW.out HN.out HNB.out g8 hb8
        have H8 := (H9.out.below (below_alloc _ _)).kept2 (kept_of_grown g8) (fun e => by have := (HO6.out.lt _ e).1; omega) (fun hn x hx e => by have h8 := (HO6.out.lt _ e).1; have h9 := HAR.out hn x hx; omega)
        have K8 : KeptOut (fun b => b = w.heap.size) w1 w8 := (HKW.out.trans (KeptOut.of_below (below_alloc _ _))).step (kept_of_grown g8) (fun b hb => .inl (HO6.out.lt b hb).1)
        have HO8 := Lib.hid (show w8.ownsRow w1.heap.size 25 7 (.slice a8 (xs ++ [(am7, cm7, (⟨sp7, nm7, uid7, rev7, gone7, ms7, bo7⟩ : ThingD))]).length c8) (xs ++ [(am7, cm7, (⟨sp7, nm7, uid7, rev7, gone7, ms7, bo7⟩ : ThingD))]).length ((xs ++ [(am7, cm7, (⟨sp7, nm7, uid7, rev7, gone7, ms7, bo7⟩ : ThingD))]).flatMap encT) by rw [flat_snocT, List.length_append]; exact o8)
        have HG8 := Lib.hid hG8
        have HA8 := Lib.hid (show ApartX (.slice a8 (xs ++ [(am7, cm7, (⟨sp7, nm7, uid7, rev7, gone7, ms7, bo7⟩ : ThingD))]).length c8) (xs ++ [(am7, cm7, (⟨sp7, nm7, uid7, rev7, gone7, ms7, bo7⟩ : ThingD))]) by rw [List.length_append]; exact hA8)
        have H8' := Lib.hid H8
        have HK8 := Lib.hid K8
        clear o8 g8 hb8 hG8 hA8 H8 K8
        go_wp2
        go_roundw
        case rel => exact ⟨k - 1, a8, c8, xs ++ [(am7, cm7, (⟨sp7, nm7, uid7, rev7, gone7, ms7, bo7⟩ : ThingD))], _, by go_num, by rw [List.length_append]; rfl, by rw [List.length_append]; simp only [List.length_cons, List.length_nil]; omega, HO8.out, HG8.out, HA8.out, H8'.out, by omega, HK8.out⟩
        case measure => simp [intOf]; omega
      · have hqi : ¬ (n6 : Int) = 0 := by omega
        have hqb : ((n6 : Int) == 0) = false := by rw [beq_eq_false_iff_ne]; omega
        have hqc : (n6 == 0) = false := by rw [beq_eq_false_iff_ne]; omega
        obtain ⟨⟨y0, v0⟩, ⟨y1, v1⟩, ⟨y2, v2⟩, ⟨y3, v3⟩, ⟨y4, v4⟩, ⟨y5, v5⟩, y6, v6⟩ := show _ ∧ _ ∧ _ ∧ _ ∧ _ ∧ _ ∧ _ from ⟨BY6.out 0 _ rfl, BY6.out 1 _ rfl, BY6.out 2 _ rfl, BY6.out 3 _ rfl, BY6.out 4 _ rfl, BY6.out 5 _ rfl, BY6.out 6 _ rfl⟩
        have KW := Lib.hid (show KeptOut (fun b => b = w.heap.size ∨ wr.heap.size ≤ b) wr w6 from (K3.out.step K36.out (fun b hb => .inr hb)).mono (fun b _ h => .inl h))
        have HN := Lib.hid (show GoodX (w.heap.size + 1) w6 (am, cm, (⟨sp, nm, uid, rev, gone, ms, bo⟩ : ThingD)) from ⟨(M3.out.mono (by omega)).keptX (fun g e q => by have := M3.out.bnd g e; omega) K36.out, hsp, t2, t3, T4.out, t5⟩)
        have HNB := Lib.hid (show ∀ g, am = some ⟨g, 0, none⟩ → wr.heap.size ≤ g from fun g e => (M3.out.bnd g e).1)
        have HO6 := Lib.hid (own_kept HO.out KW.out (fun b hb e => by have h8 := HOB.out b hb; have h9 := (HO.out.lt b hb).1; omega))
        have HKW := Lib.hid (show KeptOut (fun b => b = w.heap.size) w1 w6 from HK.out.trans (K3.out.step K36.out (fun b hb => .inr hb)))
        clear K36 K3 BY6
        go_wp2_with (at_builtin; refine wpList_append_blk rfl _ _ 32 rfl w1.heap.size 25 i0 (.agg #[.string ⟨#[]⟩, .string ⟨#[]⟩, .int .i64 0, .int .i64 0, .bool false, .slice none 0 0, .string ⟨#[]⟩]) 7 96 Try.underlying32 hi hz0 hz1 hz2 rfl (by decide) (.slice av xs.length cv) xs.length (xs.flatMap encT) rfl (HO6.out.alloc _) ⟨w6.heap.size, 0, none⟩ 1 1 [.string sp, .string nm, .int .i64 uid, .int .i64 rev, .bool gone, .slice am ms.length cm, .string bo] rfl rfl (cellsNewT w6 _ _) (by simp [Value.oneCell']) (by unfold maxLen; omega) (by omega) (by simp; omega) ?_; intro v8 w8 o8 g8 hb8)
        obtain ⟨a8, c8, rfl⟩ := own_shape o8
        obtain ⟨hG8, hA8⟩ := rel_next (r := w.heap.size) (by omega) HOB.out HG.out HA.out KW.out HN.out HNB.out g8 hb8
        have H8 := (H6.out.below (below_alloc _ _)).kept2 (kept_of_grown g8) (fun e => by have := (HO6.out.lt _ e).1; omega) (fun hn x hx e => by have h8 := (HO6.out.lt _ e).1; have h9 := HAR.out hn x hx; omega)
        have K8 : KeptOut (fun b => b = w.heap.size) w1 w8 := (HKW.out.trans (KeptOut.of_below (below_alloc _ _))).step (kept_of_grown g8) (fun b hb => .inl (HO6.out.lt b hb).1)
        have HO8 := Lib.hid (show w8.ownsRow w1.heap.size 25 7 (.slice a8 (xs ++ [(am, cm, (⟨sp, nm, uid, rev, gone, ms, bo⟩ : ThingD))]).length c8) (xs ++ [(am, cm, (⟨sp, nm, uid, rev, gone, ms, bo⟩ : ThingD))]).length ((xs ++ [(am, cm, (⟨sp, nm, uid, rev, gone, ms, bo⟩ : ThingD))]).flatMap encT) by rw [flat_snocT, List.length_append]; exact o8)
        have HG8 := Lib.hid hG8
        have HA8 := Lib.hid (show ApartX (.slice a8 (xs ++ [(am, cm, (⟨sp, nm, uid, rev, gone, ms, bo⟩ : ThingD))]).length c8) (xs ++ [(am, cm, (⟨sp, nm, uid, rev, gone, ms, bo⟩ : ThingD))]) by rw [List.length_append]; exact hA8)
        have H8' := Lib.hid H8
        have HK8 := Lib.hid K8
        clear o8 g8 hb8 hG8 hA8 H8 K8
        go_wp2
        go_roundw
        case rel => exact ⟨k - 1, a8, c8, xs ++ [(am, cm, (⟨sp, nm, uid, rev, gone, ms, bo⟩ : ThingD))], _, by go_num, by rw [List.length_append]; rfl, by rw [List.length_append]; simp only [List.length_cons, List.length_nil]; omega, HO8.out, HG8.out, HA8.out, H8'.out, by omega, HK8.out⟩
        case measure => simp [intOf]; omega
    · have hk : k = 0 := by omega
      subst hk
      go_wp2_with fail
      refine (anySp_any wr w.heap.size a c1 l1 p (by omega) HRD.out).mono ?_
      rintro e w5 ⟨v5, L, p5, rfl, o5, hE, hnL, h5, hp5, k5⟩
      obtain ⟨b5, cb5, rfl⟩ := own_shape o5
      have z5 := k5.size
      have O5 := Lib.hid o5
      have HE := Lib.hid hE
      have H5 := Lib.hid h5
      have HK5 := Lib.hid (HK.out.trans k5)
      have HO5 := Lib.hid (own_kept HO.out k5 (fun b hb e => by have := (HO.out.lt b hb).1; omega))
      have HG5 := Lib.hid (show ∀ x ∈ xs, GoodX (w.heap.size + 1) w5 x from fun x hx => (HG.out x hx).out (Nat.lt_succ_self _) k5)
      clear o5 hE h5 k5 HK HO HG HA HOB HRD
      go_wp2_with fail
      refine (of_any _ w.heap.size a c1 l1 p5 (by omega) (H5.out.below (below_alloc w5 _)) w5.heap.size 0 5 litV5 (by decide) (by decide) (by omega) (lit_cells w5 litV5 _)).mono ?_
      rintro e w6 ⟨nm, hnm, rfl, h6, k6⟩
      have hnm := litV5_size nm hnm
      have HN := Lib.hid hnm
      have z6 := k6.size
      rw [World.size_alloc] at z6
      have K56 := Lib.hid ((KeptOut.of_below (S := fun b => b = w.heap.size) (below_alloc w5 (.cells (litV5.map Value.string).toArray 9))).trans k6)
      have HB := Lib.hid (show Below w.heap.size w w6 from (HK5.out.trans K56.out).below B1.out B1.out.size (fun q hq => by omega))
      have HL := Lib.hid (own_el encSpace_len (by unfold maxLen; omega) (own_kept O5.out K56.out (fun b hb e => by have := (O5.out.lt b hb).1; omega)))
      have HX := Lib.hid (own_el encT_len (by unfold maxLen; omega) (own_kept HO5.out K56.out (fun b hb e => by have := (HO5.out.lt b hb).1; omega)))
      have HG6 := Lib.hid (show ∀ x ∈ xs, GoodX (w.heap.size + 1) w6 x from fun x hx => (HG5.out x hx).out (Nat.lt_succ_self _) K56.out)
      clear hnm h6 k6
      go_wp2
      go_returns
      exact ⟨b5, cb5, L, av, cv, xs, nm, rfl, HL.out, HE.out, hnL, HX.out, fun x hx => ⟨(HG6.out x hx).1.mono (Nat.le_succ _), (HG6.out x hx).2⟩, by omega, HN.out.1, HN.out.2, HB.out⟩
end Go.Proofs.Ytbdicaanniffpab
