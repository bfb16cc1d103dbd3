import Derived.Test.YtjbkhamfingoiaaDriveTurn
import Derived.Test.YtjbkhamfingoiaaShape
/- What a disk at work tells: the list of what waits, and the disk as a whole. -/
namespace Go.Proofs.Ytjbkhamfingoiaa
open Go Go.RowKit

theorem cells_new (w : World) (cs : List Value) (e : TypeId) : ∀ j u, cs[j]? = some u → (w.alloc (.cells cs.toArray e)).cell? ((⟨w.heap.size, 0, none⟩ : Addr).add j) = some u := by
  intro j u h
  rw [addr_add, Nat.zero_add]
  exact (Box.alloc w cs.toArray e j u (by simpa using h)).1
theorem own_full {w : World} {base : Nat} {e : TypeId} {g n : Nat} {xs : List Value} (h : w.ownsRow base e 1 (.slice (some ⟨g, 0, none⟩) n n) n xs) (_ : n ≤ n) : ∃ cur : List Value, cur.length = n ∧ w.heap[g]? = some (.cells cur.toArray e (0, 0)) := by
  rcases h.2 with ⟨hv, _⟩ | ⟨g', cap, cur, hv, _, hg, _, _, hs, _⟩
  · cases hv
  · cases hv
    exact ⟨cur.toList, by simpa using hs, by simpa using hg⟩
theorem drive_src {w w1 : World} {base P : Nat} {nb : List Nat} {d : DiskD} (h : Drive w base P nb d) (hb : Below w.heap.size w w1) (cs : List Value) (hcs : cs = d.1.map Value.string) : ∀ j v, cs[j]? = some v → w1.cell? ((⟨P, 0, none⟩ : Addr).add j) = some v := by
  intro j v hv
  rw [hcs, List.getElem?_map, Option.map_eq_some_iff] at hv
  obtain ⟨x, hx, rfl⟩ := hv
  rw [addr_add, Nat.zero_add]
  exact ((h.below hb).cells.1 j x hx).1
theorem cell_set3 {w : World} {b P i : Nat} (h : P ≠ b) (x y z : Value) : (((w.setCell ⟨b, 0, none⟩ x).setCell ⟨b, 1, none⟩ y).setCell ⟨b, 2, none⟩ z).cell? ⟨P, i, none⟩ = w.cell? ⟨P, i, none⟩ := by
  have h1 : ∀ (w : World) (j : Nat) (v : Value), (w.setCell ⟨b, j, none⟩ v).cell? ⟨P, i, none⟩ = w.cell? ⟨P, i, none⟩ := fun w j v => World.cell?_of_block (w := w) (a := ⟨P, i, none⟩) (Below.heap_setCell _ _ _ _ h)
  rw [h1, h1, h1]
theorem flat_next {α : Type} {enc : α → List Value} (l : List α) (j : Nat) (h : j < l.length) : (l.take (j + 1)).flatMap enc = (l.take j).flatMap enc ++ enc l[j] := by
  rw [List.take_succ_eq_append_getElem h, List.flatMap_append]; simp

set_option maxRecDepth 100000 in
set_option maxHeartbeats 800000 in
theorem list_any (base P : Nat) (nb : List Nat) (d : DiskD) (w : World) (h : Drive w base P nb d) (hlw : d.2.1.length ≤ 1048577) :
    Calls Try.prog 109 #[.pointer (some ⟨P, 140, none⟩)] w fun e w' =>
      ∃ a c, e = .returned (.slice a d.2.1.length c) ∧ w'.ownsRow w.heap.size 43 2 (.slice a d.2.1.length c) d.2.1.length (d.2.1.flatMap encWait) ∧ Below w.heap.size w w' := by
  obtain ⟨ds, dw, dl⟩ := d
  dsimp only at hlw ⊢
  obtain ⟨i0, hi, hz0, hz1, hz2⟩ := info_parts infoWait
  obtain ⟨-, ⟨c0, -⟩, -, -⟩ := h.cells
  have hnl := h.nlen
  dsimp only at hnl
  have HH := Lib.hid h
  clear h
  obtain ⟨p0, hp0⟩ : ∃ p0 : Option Nat, p0 = nb.head? := ⟨_, rfl⟩
  rw [← hp0] at c0
  have HP := Lib.hid hp0
  clear hp0
  unfold ptrTo at c0
  go_enter Try.func109, Try.ntmps109
  go_wp2
  go_loopw [3, 4] (fun v p wr => ∃ j : Nat, j ≤ dw.length ∧ p = ptrTo nb[j]? ∧ wr.ownsRow w.heap.size 43 2 v j ((dw.take j).flatMap encWait) ∧ Below w.heap.size w wr) (fun _ p _ => ptrDown w.heap.size p)
  case atStart => exact ⟨0, Nat.zero_le _, by rw [HP.out, List.head?_eq_getElem?]; rfl, World.ownsRow_nil _ _ _ _, Below.refl _ _⟩
  case round =>
    obtain ⟨j, hj, rfl, hown, hbel⟩ := hrel
    have HO := Lib.hid hown
    clear hown
    by_cases hlt : j < dw.length
    · obtain ⟨b, hb⟩ : ∃ b, nb[j]? = some b := ⟨_, List.getElem?_eq_getElem (by omega)⟩
      have hbox := (HH.out.below hbel).node j b dw[j] hb (List.getElem?_eq_getElem hlt)
      unfold nodeCells at hbox
      have x0 := (hbox 0 _ rfl).1
      have x1 := (hbox 1 _ rfl).1
      have x3 := (hbox 3 _ rfl).1
      obtain ⟨p3, hp3⟩ : ∃ p, p = nb[j + 1]? := ⟨_, rfl⟩
      rw [← hp3] at x3
      have HQ := Lib.hid hp3
      have HB := Lib.hid hb
      rw [hb]
      clear hb hbox hp3
      unfold ptrTo at x3
      unfold ptrTo
      have HF := Lib.hid (flat_next (enc := encWait) dw j hlt)
      go_wp2_with (at_builtin; refine wpList_append_own _ rfl (.tmp 15) (.tmp 20) 24 rfl w.heap.size 43 i0 (.agg #[.int .i64 0, .string ⟨#[]⟩]) 2 24 Try.underlying24 hi hz0 hz1 hz2 rfl (by decide) _ _ _ rfl (HO.out.alloc _) ⟨wr.heap.size, 0, none⟩ 1 1 [.int .i64 dw[j].1, .string dw[j].2] rfl rfl (cells_new _ _ _) (by simp [Value.oneCell']) (by unfold maxLen; omega) (by omega) (by have := hbel.size; simp; omega) ?_; intro v2 w2 hown2 hgrow2 _; have hb2 : Below w.heap.size w w2 := (hbel.alloc hbel.size _).grown hgrow2 (by have := hbel.size; simp; omega) (fun k hk => (HO.out.lt k hk).1); have x4 := ((((HH.out.below hb2).node j b dw[j] HB.out (List.getElem?_eq_getElem hlt)) 3 _ rfl).1); rw [← HQ.out] at x4; unfold ptrTo at x4; have HW2 := Lib.hid hown2; clear hown2 hgrow2)
      go_roundw
      case rel => exact ⟨j + 1, by omega, by rw [← HQ.out], by rw [HF.out]; exact HW2.out, hb2⟩
      case measure =>
        have hblt := HH.out.nodeLt b (List.mem_of_getElem? HB.out)
        show ptrDown _ (ptrTo p3) < ptrDown _ (ptrTo (some b))
        rw [ptrDown_some]
        rcases p3 with _ | c
        · rw [ptrDown_none]; omega
        · rw [ptrDown_some]
          have := HH.out.asc j (j + 1) b c (by omega) HB.out HQ.out.symm
          omega
    · rw [show nb[j]? = none from List.getElem?_eq_none (by omega)]
      unfold ptrTo
      have e : j = dw.length := by omega
      subst e
      have HF := Lib.hid (List.take_length (l := dw))
      go_wp2
      have h := HO.out
      rw [HF.out] at h
      obtain ⟨a, c, rfl⟩ := own_shape h
      go_ret
      exact ⟨a, c, rfl, h, hbel⟩

set_option maxRecDepth 100000 in
set_option maxHeartbeats 800000 in
theorem disk_any (base P : Nat) (nb : List Nat) (d : DiskD) (w : World) (h : Drive w base P nb d) (hlw : d.2.1.length ≤ 1048577) :
    Calls Try.prog 105 #[.pointer (some ⟨P, 0, none⟩)] w fun e w' => ∃ u, e = .returned u ∧ DiskO w' w.heap.size u d ∧ Below w.heap.size w w' := by
  obtain ⟨ds, dw, dl⟩ := d
  dsimp only at hlw ⊢
  obtain ⟨i0, hi, hz0, hz1, hz2⟩ := info_parts infoStr
  have hlen := h.len
  dsimp only at hlen
  have hPl := h.box.lt'
  have HH := Lib.hid h
  clear h
  obtain ⟨cs, hcs⟩ : ∃ cs, cs = ds.map Value.string := ⟨_, rfl⟩
  have hcl : cs.length = 140 := by rw [hcs]; simp [hlen]
  have HC := Lib.hid hcs
  clear hcs
  go_enter Try.func105, Try.ntmps105
  go_wp2_with (first | (refine wpList_make_full _ rfl _ _ 23 rfl w.heap.size 9 i0 (.string ⟨#[]⟩) 1 Try.underlying23 hi hz0 hz1 .i64 .i64 140 140 140 rfl rfl rfl rfl (by rw [hz2]; omega) (by unfold maxLen; omega) (by simp) ?_; intro w1 hown hgrow; simp only [World.size_alloc] at hown; have B1 := Lib.hid ((below_alloc w (Obj.cells #[Value.slice none 0 0, Value.slice none 0 0, Value.int IntKind.i64 0] 26)).trans ((below_of_grown hgrow).mono (by simp))); obtain ⟨cur, hcur, hg1⟩ := own_full hown (Nat.le_refl _); clear hown; have HS := Lib.hid (drive_src HH.out B1.out cs HC.out)) | (refine wpList_copy_splice rfl (.tmp 5) (.tmp 9) 23 23 rfl 9 Try.underlying23 (by kernel_rfl) (some ⟨w.heap.size + 1, 0, none⟩) (some ⟨P, 0, none⟩) 140 140 140 140 rfl rfl (w.heap.size + 1) 0 cur 9 hg1 cs hcl (fun _ => ⟨rfl, _, rfl, HS.out⟩) (by rw [hcl, hcur]; omega) (by rw [HC.out]; simp [Value.oneCell']) (w.heap.size + 1) w1 (Below.refl _ _) (Nat.le_refl _) ?_; intro w2 hg2 hb2))
  have hz1 : w.heap.size + 1 < w1.heap.size := (Array.getElem?_eq_some_iff.1 hg1).1
  have hz2' := hb2.size
  have B2 : Below w.heap.size w w2 := B1.out.trans (hb2.mono (by omega))
  have hgr : Below (w.heap.size + 1) (w.alloc (Obj.cells #[Value.slice none 0 0, Value.slice none 0 0, Value.int IntKind.i64 0] 26)) w2 := by
    have h := below_of_grown hgrow
    rw [World.size_alloc] at h
    exact h.trans hb2
  have BX : Box w2 w.heap.size [Value.slice none 0 0, Value.slice none 0 0, Value.int IntKind.i64 0] := (Box.alloc w #[Value.slice none 0 0, Value.slice none 0 0, Value.int IntKind.i64 0] 26).below (by rw [World.size_alloc]; exact hgr)
  have BY : Box w2 (w.heap.size + 1) cs := by
    have h := Box.of_heap hg2.out
    have e : splice cur 0 cs = cs := by
      simp only [splice, List.take_zero, List.nil_append, Nat.zero_add, hcl]
      rw [List.drop_eq_nil_of_le (by omega)]; simp
    rw [e] at h
    exact h
  have D2 := Lib.hid (HH.out.below B2)
  have hlt2 : P < w2.heap.size := by omega
  have hlw2 : w.heap.size < w2.heap.size := by omega
  have p2 := (D2.out.cells.2.2.2).1
  dsimp only at p2
  clear hgrow hgr hg1 HS
  go_wp2
  go_region_held3 (fun w' => w'.cell? ⟨P, 142, none⟩ = some (.int .i64 dl)) (first | exact p2 | exact p3 | exact (cell_set3 (by omega) _ _ _).trans p3) ((go_at_call 109; refine (list_any base P nb (ds, dw, dl) _ (D2.out.below (below_drewN (Below.refl _ _) 1)) hlw).mono ?_; rintro e w3 ⟨a3, c3, rfl, o3, b3o⟩; have b3 : Below w2.heap.size w2 w3 := (below_drewN (Below.refl _ _) 1).trans b3o; have BZ := BX.below b3; obtain ⟨r0, r0'⟩ := BZ 0 _ rfl; obtain ⟨r1, r1'⟩ := BZ 1 _ rfl; obtain ⟨r2, r2'⟩ := BZ 2 _ rfl; have p3 := (b3.cell (p := ⟨P, 142, none⟩) hlt2).trans p2; have O3 := Lib.hid o3; clear o3))
  go_wp2
  have B3 : Below w.heap.size w w3 := B2.trans (b3.mono B2.size)
  have hg3 : w3.heap[w.heap.size + 1]? = some (.cells cs.toArray 9 (0, 0)) := by
    rw [b3.block _ (by omega), hg2.out]
    have e : splice cur 0 cs = cs := by
      simp only [splice, List.take_zero, List.nil_append, Nat.zero_add, hcl]
      rw [List.drop_eq_nil_of_le (by omega)]; simp
    rw [e]
  have o1 : w3.ownsRow w.heap.size 9 1 (.slice (some ⟨w.heap.size + 1, 0, none⟩) 140 140) 140 cs :=
    ⟨by simp [hcl], .inr ⟨w.heap.size + 1, 140, cs.toArray, rfl, by omega, hg3, Nat.le_refl _, by unfold maxLen; omega, by simp [hcl], List.take_of_length_le (by simp [hcl])⟩⟩
  have o2 := O3.out
  have hz3 : (w2.drewN 1).heap.size = w2.heap.size := rfl
  rw [hz3] at o2
  have K := (((KeptOut.refl (fun k => k = w.heap.size) w3).setCell (p := ⟨w.heap.size, 0, none⟩) rfl (Value.slice (some ⟨w.heap.size + 1, 0, none⟩) 140 140)).setCell (p := ⟨w.heap.size, 1, none⟩) rfl (Value.slice a3 dw.length c3)).setCell (p := ⟨w.heap.size, 2, none⟩) rfl (Value.int .i64 dl)
  have n1 := o1.lt
  have n2 := o2.lt
  refine bodyPost_ret (v := .agg #[.slice (some ⟨w.heap.size + 1, 0, none⟩) 140 140, .slice a3 dw.length c3, .int .i64 dl]) (by simp [results, Try.results105, go_sem, r0, r1, r2]) rfl ⟨_, rfl, ⟨some ⟨w.heap.size + 1, 0, none⟩, 140, a3, c3, by rw [hlen], ?_, ?_, ?_⟩, K.below B3 B3.size (fun k hk => by omega)⟩
  · have h := own_kept o1 K (fun k hk => by obtain ⟨p, hp, rfl⟩ := slice_blk hk; simp at hp; subst hp; simp)
    dsimp only
    rw [hlen, ← HC.out]
    exact h
  · exact own_mono (by omega) (own_kept o2 K (fun k hk => by have := n2 k hk; omega))
  · intro x y hx hy
    have h2 := n2 y hy
    obtain ⟨p, hp, rfl⟩ := slice_blk hx
    simp at hp
    subst hp
    simp
    omega
end Go.Proofs.Ytjbkhamfingoiaa
