import Derived.Test.YtjbkhamfingoiaaSpecRead
import Derived.Test.YtjbkhamfingoiaaSpecCopy
import Derived.Test.YtjbkhamfingoiaaDiskPure
/- l2Write, l2Flush, l2Crash of the model. -/
namespace Go.Proofs.Ytjbkhamfingoiaa
open Go Go.RowKit

theorem enc_one (l : List WaitD) : ∀ u ∈ l.flatMap encWait, u.oneCell' = true := by
  intro u hu
  rw [List.mem_flatMap] at hu
  obtain ⟨x, _, hx⟩ := hu
  simp only [encWait, List.mem_cons, List.not_mem_nil, or_false] at hx
  rcases hx with rfl | rfl <;> rfl

theorem own_snoc {w : World} {base : Nat} {e : TypeId} {a : Option Addr} {c : Nat} {l : List WaitD} {x : WaitD} (h : w.ownsRow base e 2 (.slice a (l.length + 1) c) (l.length + 1) (l.flatMap encWait ++ encWait x)) :
    w.ownsRow base e 2 (.slice a (l ++ [x]).length c) (l ++ [x]).length ((l ++ [x]).flatMap encWait) := by
  rw [List.length_append, List.flatMap_append, List.flatMap_cons, List.flatMap_nil, List.append_nil]
  exact h

/-- what the model's inner steps leave: a disk that reads so -/
def ReadPost (w : World) (v : Value) (x : DiskD) (e : Ending) (w' : World) : Prop := ∃ u, e = .returned u ∧ DiskR w' u x ∧ (∀ k, diskBlk u k → diskBlk v k ∨ w.heap.size ≤ k) ∧ Below w.heap.size w w'

set_option maxRecDepth 100000 in
set_option maxHeartbeats 800000 in
theorem l2Write_any (v : Value) (d : DiskD) (n : Int) (s : ByteArray) (w : World) (hv : DiskR w v d) (hsz : s.size ≤ maxLen) (hlo : -1 ≤ d.2.2) (hhi : d.2.2 ≤ 9223372036854775807) (hl2 : d.2.1.length ≤ 1048576) :
    Calls Try.prog 55 #[v, .int .i64 n, .string s] w (ReadPost w v (dWrite d n s)) := by
  obtain ⟨a, ca, b, cb, rfl, hs, hw, hok⟩ := hv
  obtain ⟨ds, dw, dl⟩ := d
  simp only at hs hw hok hlo hhi hl2
  have hsrc := Lib.hid (src_el encWait_len (by omega) hw)
  have HS := Lib.hid hs
  have HWs := Lib.hid hw
  dsimp only
  obtain ⟨j0, hj, hy0, hy1, hy2⟩ := info_parts infoWait
  have h1c := enc_one dw
  by_cases h0 : dl = 0
  · subst h0
    have HW := Lib.hid (show dWrite (ds, dw, 0) n s = (ds, dw, 0) by simp [dWrite])
    go_enter Try.func55, Try.ntmps55
    go_wp2
    exact bodyPost_ret (v := .agg #[.slice a ds.length ca, .slice b dw.length cb, .int .i64 0]) (by simp [results, Try.results55, go_sem]) rfl ⟨_, rfl, by rw [HW.out]; exact ⟨a, ca, b, cb, rfl, hs.below (by repeat (first | exact Below.refl _ _ | (refine Below.alloc ?_ (by first | (simp; done) | (simp; omega)) _) | (refine Below.setCell ?_ (by first | (simp; done) | (simp; omega)) _) | (refine Below.drew ?_))), hw.below (by repeat (first | exact Below.refl _ _ | (refine Below.alloc ?_ (by first | (simp; done) | (simp; omega)) _) | (refine Below.setCell ?_ (by first | (simp; done) | (simp; omega)) _) | (refine Below.drew ?_))), hok⟩, fun k hk => .inl hk, (by repeat (first | exact Below.refl _ _ | (refine Below.alloc ?_ (by first | (simp; done) | (simp; omega)) _) | (refine Below.setCell ?_ (by first | (simp; done) | (simp; omega)) _) | (refine Below.drew ?_)))⟩
  · have hne : (dl == 0) = false := by simp [h0]
    have HW := Lib.hid (show dWrite (ds, dw, dl) n s = (ds, dw ++ [(n, s)], spendL dl) by simp [dWrite, h0])
    clear h0
    have hok2 : ∀ x ∈ dw ++ [(n, s)], OkWait x := fun x hx => by
      simp only [List.mem_append, List.mem_singleton] at hx
      rcases hx with hx | rfl
      · exact hok x hx
      · exact hsz
    by_cases hpos : 0 < dl
    · have HS2 := Lib.hid (show spendL dl = dl - 1 by simp [spendL, hpos])
      go_enter Try.func55, Try.ntmps55
      go_wp2_with (first
        | (at_builtin; refine wpList_append_src _ rfl (.tmp 18) (.tmp 20) 24 rfl (w.heap.size + 2) 43 j0 (.agg #[.int .i64 0, .string ⟨#[]⟩]) 2 24 Try.underlying24 hj hy0 hy1 hy2 rfl (by decide) (.slice (some ⟨_, 0, none⟩) 0 0) 0 [] rfl (own_lit0 _ _ _ _ (by simp) (by simp)) b dw.length cb (dw.flatMap encWait) rfl (hsrc.out.below (by repeat (first | exact Below.refl _ _ | (refine Below.alloc ?_ (by first | (simp; done) | (simp; omega)) _) | (refine Below.setCell ?_ (by first | (simp; done) | (simp; omega)) _) | (refine Below.drew ?_)))) h1c (by unfold maxLen; omega) (by omega) (by simp) ?_; intro v1 w1 o1 g1 _; rw [Nat.zero_add, List.nil_append] at o1; obtain ⟨a1, c1, rfl⟩ := own_shape o1; have B1 : Below ((w.alloc (Obj.cells #[Value.slice a ds.length ca, Value.slice b dw.length cb, Value.int IntKind.i64 (dl - 1)] 26)).alloc (Obj.cells #[Value.slice none 0 0, Value.slice none 0 0, Value.int IntKind.i64 0] 26)).heap.size ((w.alloc (Obj.cells #[Value.slice a ds.length ca, Value.slice b dw.length cb, Value.int IntKind.i64 (dl - 1)] 26)).alloc (Obj.cells #[Value.slice none 0 0, Value.slice none 0 0, Value.int IntKind.i64 0] 26)) w1 := below_app (below_alloc _ _) (by simp) g1 (by simp); have O1 := Lib.hid o1; have z1 := B1.size; simp only [World.size_alloc] at z1; clear o1 g1)
        | (at_builtin; refine wpList_append_own _ rfl (.tmp 21) (.tmp 25) 24 rfl (w.heap.size + 2) 43 j0 (.agg #[.int .i64 0, .string ⟨#[]⟩]) 2 24 Try.underlying24 hj hy0 hy1 hy2 rfl (by decide) _ _ _ rfl (O1.out.alloc _) ⟨w1.heap.size, 0, none⟩ 1 1 [.int .i64 n, .string s] rfl rfl (cells_new _ _ _) (by simp [Value.oneCell']) (by unfold maxLen; omega) (by omega) (by simp; omega) ?_; intro v2 w2 o2 g2 _; obtain ⟨a2, c2, rfl⟩ := own_shape o2; have B2 : Below ((w.alloc (Obj.cells #[Value.slice a ds.length ca, Value.slice b dw.length cb, Value.int IntKind.i64 (dl - 1)] 26)).alloc (Obj.cells #[Value.slice none 0 0, Value.slice none 0 0, Value.int IntKind.i64 0] 26)).heap.size ((w.alloc (Obj.cells #[Value.slice a ds.length ca, Value.slice b dw.length cb, Value.int IntKind.i64 (dl - 1)] 26)).alloc (Obj.cells #[Value.slice none 0 0, Value.slice none 0 0, Value.int IntKind.i64 0] 26)) w2 := (B1.alloc B1.size _).grown g2 (by simp; omega) (fun k hk => by have := (O1.out.lt k hk).1; simp; omega); have O2 := Lib.hid o2; clear o2 g2; obtain ⟨YX, YZ, Y0, T0⟩ := two_box B2; have x0 := YX 0 _ rfl; have x1 := YX 1 _ rfl; have x2 := YX 2 _ rfl; have y0 := YZ 0 _ rfl; have y1 := YZ 1 _ rfl; have y2 := YZ 2 _ rfl))
      have K := ((((KeptOut.refl (fun k => k = w.heap.size ∨ k = w.heap.size + 1) w2).setCell (p := ⟨w.heap.size, 1, none⟩) (.inl rfl) (.slice a2 (dw.length + 1) c2)).setCell (p := ⟨w.heap.size + 1, 0, none⟩) (.inr rfl) (.slice a ds.length ca)).setCell (p := ⟨w.heap.size + 1, 1, none⟩) (.inr rfl) (.slice a2 (dw.length + 1) c2)).setCell (p := ⟨w.heap.size + 1, 2, none⟩) (.inr rfl) (.int .i64 (dl - 1))
      have B3 := K.below Y0 Y0.size (fun k hk => by omega)
      have O2b := own_snoc (x := (n, s)) O2.out
      have O3 := own_kept O2b K (fun k hk h => by have := (O2b.lt k hk).1; omega)
      exact bodyPost_ret (v := .agg #[.slice a ds.length ca, .slice a2 (dw.length + 1) c2, .int .i64 (dl - 1)]) (by simp [results, Try.results55, go_sem, y0.1, y1.1, y2.1]) rfl ⟨_, rfl, by rw [HW.out, HS2.out]; exact ⟨a, ca, a2, c2, by simp, HS.out.below B3, own_el encWait_len (by simp [maxLen]; omega) O3, hok2⟩, fun k hk => hk.elim (fun h => .inl (.inl h)) (fun h => .inr (by have := (O2.out.lt k h).1; omega)), B3⟩
    · have HS2 := Lib.hid (show spendL dl = dl by simp [spendL, hpos])
      go_enter Try.func55, Try.ntmps55
      go_wp2_with (first
        | (at_builtin; refine wpList_append_src _ rfl (.tmp 18) (.tmp 20) 24 rfl (w.heap.size + 2) 43 j0 (.agg #[.int .i64 0, .string ⟨#[]⟩]) 2 24 Try.underlying24 hj hy0 hy1 hy2 rfl (by decide) (.slice (some ⟨_, 0, none⟩) 0 0) 0 [] rfl (own_lit0 _ _ _ _ (by simp) (by simp)) b dw.length cb (dw.flatMap encWait) rfl (hsrc.out.below (by repeat (first | exact Below.refl _ _ | (refine Below.alloc ?_ (by first | (simp; done) | (simp; omega)) _) | (refine Below.setCell ?_ (by first | (simp; done) | (simp; omega)) _) | (refine Below.drew ?_)))) h1c (by unfold maxLen; omega) (by omega) (by simp) ?_; intro v1 w1 o1 g1 _; rw [Nat.zero_add, List.nil_append] at o1; obtain ⟨a1, c1, rfl⟩ := own_shape o1; have B1 : Below ((w.alloc (Obj.cells #[Value.slice a ds.length ca, Value.slice b dw.length cb, Value.int IntKind.i64 (dl)] 26)).alloc (Obj.cells #[Value.slice none 0 0, Value.slice none 0 0, Value.int IntKind.i64 0] 26)).heap.size ((w.alloc (Obj.cells #[Value.slice a ds.length ca, Value.slice b dw.length cb, Value.int IntKind.i64 (dl)] 26)).alloc (Obj.cells #[Value.slice none 0 0, Value.slice none 0 0, Value.int IntKind.i64 0] 26)) w1 := below_app (below_alloc _ _) (by simp) g1 (by simp); have O1 := Lib.hid o1; have z1 := B1.size; simp only [World.size_alloc] at z1; clear o1 g1)
        | (at_builtin; refine wpList_append_own _ rfl (.tmp 21) (.tmp 25) 24 rfl (w.heap.size + 2) 43 j0 (.agg #[.int .i64 0, .string ⟨#[]⟩]) 2 24 Try.underlying24 hj hy0 hy1 hy2 rfl (by decide) _ _ _ rfl (O1.out.alloc _) ⟨w1.heap.size, 0, none⟩ 1 1 [.int .i64 n, .string s] rfl rfl (cells_new _ _ _) (by simp [Value.oneCell']) (by unfold maxLen; omega) (by omega) (by simp; omega) ?_; intro v2 w2 o2 g2 _; obtain ⟨a2, c2, rfl⟩ := own_shape o2; have B2 : Below ((w.alloc (Obj.cells #[Value.slice a ds.length ca, Value.slice b dw.length cb, Value.int IntKind.i64 (dl)] 26)).alloc (Obj.cells #[Value.slice none 0 0, Value.slice none 0 0, Value.int IntKind.i64 0] 26)).heap.size ((w.alloc (Obj.cells #[Value.slice a ds.length ca, Value.slice b dw.length cb, Value.int IntKind.i64 (dl)] 26)).alloc (Obj.cells #[Value.slice none 0 0, Value.slice none 0 0, Value.int IntKind.i64 0] 26)) w2 := (B1.alloc B1.size _).grown g2 (by simp; omega) (fun k hk => by have := (O1.out.lt k hk).1; simp; omega); have O2 := Lib.hid o2; clear o2 g2; obtain ⟨YX, YZ, Y0, T0⟩ := two_box B2; have x0 := YX 0 _ rfl; have x1 := YX 1 _ rfl; have x2 := YX 2 _ rfl; have y0 := YZ 0 _ rfl; have y1 := YZ 1 _ rfl; have y2 := YZ 2 _ rfl))
      have K := ((((KeptOut.refl (fun k => k = w.heap.size ∨ k = w.heap.size + 1) w2).setCell (p := ⟨w.heap.size, 1, none⟩) (.inl rfl) (.slice a2 (dw.length + 1) c2)).setCell (p := ⟨w.heap.size + 1, 0, none⟩) (.inr rfl) (.slice a ds.length ca)).setCell (p := ⟨w.heap.size + 1, 1, none⟩) (.inr rfl) (.slice a2 (dw.length + 1) c2)).setCell (p := ⟨w.heap.size + 1, 2, none⟩) (.inr rfl) (.int .i64 (dl))
      have B3 := K.below Y0 Y0.size (fun k hk => by omega)
      have O2b := own_snoc (x := (n, s)) O2.out
      have O3 := own_kept O2b K (fun k hk h => by have := (O2b.lt k hk).1; omega)
      exact bodyPost_ret (v := .agg #[.slice a ds.length ca, .slice a2 (dw.length + 1) c2, .int .i64 (dl)]) (by simp [results, Try.results55, go_sem, y0.1, y1.1, y2.1]) rfl ⟨_, rfl, by rw [HW.out, HS2.out]; exact ⟨a, ca, a2, c2, by simp, HS.out.below B3, own_el encWait_len (by simp [maxLen]; omega) O3, hok2⟩, fun k hk => hk.elim (fun h => .inl (.inl h)) (fun h => .inr (by have := (O2.out.lt k h).1; omega)), B3⟩

theorem own_shape_pos {w : World} {base : Nat} {e : TypeId} {size : Nat} {v : Value} {n : Nat} {xs : List Value} (h : w.ownsRow base e size v n xs) (hn : 0 < n) : ∃ g c, v = .slice (some ⟨g, 0, none⟩) n c := by
  rcases h.2 with ⟨_, h0⟩ | ⟨g, cap, cur, hv, _⟩
  · omega
  · exact ⟨g, cap, hv⟩
theorem str_one (l : List ByteArray) : ∀ u ∈ l.map Value.string, u.oneCell' = true := by
  intro u hu
  rw [List.mem_map] at hu
  obtain ⟨x, _, rfl⟩ := hu
  rfl

theorem own_disk0 {w : World} {base : Nat} {e : TypeId} {a : Option Addr} {c n : Nat} {l : List ByteArray} (hn : l.length = n) (h1 : n ≤ maxLen) (h2 : ∀ s ∈ l, s.size ≤ maxLen) (h : w.ownsRow base e 1 (.slice a n c) n (l.map .string)) (z : Int) (b : Option Addr) :
    DiskR w (.agg #[.slice a n c, .slice b 0 0, .int .i64 z]) (l, [], z) := by
  subst hn
  exact ⟨a, c, b, 0, rfl, own_str h1 h2 h, ⟨by simp, .inl rfl⟩, by simp⟩

set_option maxRecDepth 100000 in
set_option maxHeartbeats 800000 in
theorem l2Flush_any (v : Value) (d : DiskD) (w : World) (hv : DiskR w v d) (hlo : -1 ≤ d.2.2) (hhi : d.2.2 ≤ 9223372036854775807) (h140 : d.1.length = 140) (hat : ∀ x ∈ d.2.1, 0 ≤ x.1 ∧ x.1 ≤ 139) :
    Calls Try.prog 58 #[v] w (ReadPost w v (dFlush d)) := by
  obtain ⟨a, ca, b, cb, rfl, hs, hw, hok⟩ := hv
  obtain ⟨ds, dw, dl⟩ := d
  simp only at hs hw hok hlo hhi h140 hat
  have hsrc := Lib.hid (src_str hs)
  have HS := Lib.hid hs
  have HWs := Lib.hid hw
  have H140 := Lib.hid h140
  have hds : 0 < ds.length := by omega
  have hds2 : ds.length ≤ 1048576 := by omega
  have HT := Lib.hid hat
  have hl2 := hw.1
  unfold maxLen at hl2
  clear h140 hat
  dsimp only
  obtain ⟨i0, hi, hz0, hz1, hz2⟩ := info_parts infoStr
  have h1c := str_one ds
  by_cases h0 : dl = 0
  · subst h0
    have HW := Lib.hid (show dFlush (ds, dw, 0) = (ds, dw, 0) by simp [dFlush])
    go_enter Try.func58, Try.ntmps58
    go_wp2
    exact bodyPost_ret (v := .agg #[.slice a ds.length ca, .slice b dw.length cb, .int .i64 0]) (by simp [results, Try.results58, go_sem]) rfl ⟨_, rfl, by rw [HW.out]; exact ⟨a, ca, b, cb, rfl, hs.below (by repeat (first | exact Below.refl _ _ | (refine Below.alloc ?_ (by first | (simp; done) | (simp; omega)) _) | (refine Below.setCell ?_ (by first | (simp; done) | (simp; omega)) _) | (refine Below.drew ?_))), hw.below (by repeat (first | exact Below.refl _ _ | (refine Below.alloc ?_ (by first | (simp; done) | (simp; omega)) _) | (refine Below.setCell ?_ (by first | (simp; done) | (simp; omega)) _) | (refine Below.drew ?_))), hok⟩, fun k hk => .inl hk, (by repeat (first | exact Below.refl _ _ | (refine Below.alloc ?_ (by first | (simp; done) | (simp; omega)) _) | (refine Below.setCell ?_ (by first | (simp; done) | (simp; omega)) _) | (refine Below.drew ?_)))⟩
  · have hne : (dl == 0) = false := by simp [h0]
    have HW := Lib.hid (show dFlush (ds, dw, dl) = (upTo allB dw ds dw.length, [], spendL dl) by simp [dFlush, h0])
    clear h0
    by_cases hpos : 0 < dl
    · have HS2 := Lib.hid (show spendL dl = dl - 1 by simp [spendL, hpos])
      go_enter Try.func58, Try.ntmps58
      go_wp2_with (at_builtin; refine wpList_append_src _ rfl (.tmp 15) (.tmp 17) 23 rfl (w.heap.size + 2) 9 i0 (.string ⟨#[]⟩) 1 16 Try.underlying23 hi hz0 hz1 hz2 rfl (by decide) (.slice (some ⟨_, 0, none⟩) 0 0) 0 [] rfl (own_lit0 _ _ _ _ (by simp) (by simp)) a ds.length ca (ds.map .string) rfl (hsrc.out.below (by repeat (first | exact Below.refl _ _ | (refine Below.alloc ?_ (by first | (simp; done) | (simp; omega)) _) | (refine Below.setCell ?_ (by first | (simp; done) | (simp; omega)) _) | (refine Below.drew ?_)))) h1c (by unfold maxLen; omega) (by omega) (by simp) ?_; intro v1 w1 o1 g1 _; rw [Nat.zero_add, List.nil_append] at o1; obtain ⟨g, c1, rfl⟩ := own_shape_pos o1 hds; have B1 : Below ((w.alloc (Obj.cells #[Value.slice a ds.length ca, Value.slice b dw.length cb, Value.int IntKind.i64 (dl - 1)] 26)).alloc (Obj.cells #[Value.slice none 0 0, Value.slice none 0 0, Value.int IntKind.i64 0] 26)).heap.size ((w.alloc (Obj.cells #[Value.slice a ds.length ca, Value.slice b dw.length cb, Value.int IntKind.i64 (dl - 1)] 26)).alloc (Obj.cells #[Value.slice none 0 0, Value.slice none 0 0, Value.int IntKind.i64 0] 26)) w1 := below_app (below_alloc _ _) (by simp) g1 (by simp); have O1 := Lib.hid o1; have z1 := B1.size; simp only [World.size_alloc] at z1; clear o1 g1; obtain ⟨YX, YZ, Y0, T0⟩ := two_box B1; have x0 := YX 0 _ rfl; have x1 := YX 1 _ rfl; have x2 := YX 2 _ rfl)
      go_loopw [3] (fun v3 wr => ∃ j : Nat, j ≤ dw.length ∧ v3 = .int .i64 j ∧ wr.ownsRow (w.heap.size + 2) 9 1 (.slice (some ⟨g, 0, none⟩) ds.length c1) ds.length ((upTo allB dw ds j).map .string) ∧ Box wr w.heap.size [.slice (some ⟨g, 0, none⟩) ds.length c1, .slice b dw.length cb, .int .i64 (dl - 1)] ∧ Box wr (w.heap.size + 1) [.slice none 0 0, .slice none 0 0, .int .i64 0] ∧ Below w.heap.size w wr) (fun v3 _ => dw.length - (intOf v3).toNat)
      case atStart =>
        have K := (KeptOut.refl (fun k => k = w.heap.size) w1).setCell (p := ⟨w.heap.size, 0, none⟩) rfl (.slice (some ⟨g, 0, none⟩) ds.length c1)
        refine ⟨0, Nat.zero_le _, rfl, ?_, ?_, ?_, ?_⟩
        · exact own_kept O1.out K (fun k hk h => by have := (O1.out.lt k hk).1; omega)
        · exact YX.set (i := 0) _ (by simp)
        · exact YZ.other _ (by simp)
        · exact K.below Y0 Y0.size (fun k hk => by omega)
      case round =>
        clear x0 x1 x2
        obtain ⟨j, hj, rfl, hown, PX, PZ, hbel⟩ := hrel
        have HO := Lib.hid hown
        obtain ⟨hg1, hg2⟩ := hown.lt g rfl
        clear hown
        obtain ⟨x0, f0⟩ := PX 0 _ rfl
        obtain ⟨x1, f1⟩ := PX 1 _ rfl
        obtain ⟨x2, f2⟩ := PX 2 _ rfl
        by_cases hlt : j < dw.length
        · obtain ⟨bb, ob, rfl, hcb⟩ := HWs.out.2.resolve_left (by intro e; subst e; simp at hlt)
          obtain ⟨q0, q1⟩ := cellsWait hbel hcb j hlt
          obtain ⟨n, hn⟩ := Int.eq_ofNat_of_zero_le (HT.out _ (List.getElem_mem hlt)).1
          have hn2 : n < ds.length := by have := (HT.out _ (List.getElem_mem hlt)).2; have := H140.out; omega
          have hbb : bb < w.heap.size := by have := World.block_lt_of_cell? w _ (hcb j hlt 0 _ rfl); simpa using this
          rw [hn] at q0
          obtain ⟨s0, cy⟩ : ∃ v, wr.cell? ⟨g, n, none⟩ = some v := ⟨_, (HO.out.cellAt n (by omega)).trans (List.getElem?_eq_getElem (by have := HO.out.1; omega))⟩
          have fy : wr.frozen? ⟨g, n, none⟩ = false := HO.out.frozenAt n
          have HU := Lib.hid (upTo_yes (f := allB) (bl := ds) hlt rfl)
          have HN := Lib.hid hn
          have hn3 : (n : Int) < (ds.length : Int) := by omega
          have hn4 : (0 : Int) ≤ (n : Int) := by omega
          have hj3 : (j : Int) < (dw.length : Int) := by omega
          clear hn
          have hbw : w.heap.size < wr.heap.size := by omega
          have KS : ∀ w' : World, KeptOut (fun k => k = g) wr w' → w'.cell? ⟨w.heap.size, 0, none⟩ = some (.slice (some ⟨g, 0, none⟩) ds.length c1) ∧ w'.cell? ⟨w.heap.size, 1, none⟩ = some (.slice (some ⟨bb, ob, none⟩) dw.length cb) ∧ w'.cell? ⟨bb, ob + j * 2, none⟩ = some (.int .i64 (n : Int)) ∧ w'.cell? ⟨bb, ob + j * 2 + 1, none⟩ = some (.string dw[j].2) :=
            fun w' h => ⟨(h.cell (p := ⟨w.heap.size, 0, none⟩) hbw (fun e => by simp at e; omega)).trans x0, (h.cell (p := ⟨w.heap.size, 1, none⟩) hbw (fun e => by simp at e; omega)).trans x1, (h.cell (p := ⟨bb, ob + j * 2, none⟩) (by simp; omega) (fun e => by simp at e; omega)).trans q0, (h.cell (p := ⟨bb, ob + j * 2 + 1, none⟩) (by simp; omega) (fun e => by simp at e; omega)).trans q1⟩
          go_wp2
          go_region_held3 (fun w' => w'.cell? ⟨w.heap.size, 0, none⟩ = some (.slice (some ⟨g, 0, none⟩) ds.length c1) ∧ w'.cell? ⟨w.heap.size, 1, none⟩ = some (.slice (some ⟨bb, ob, none⟩) dw.length cb) ∧ w'.cell? ⟨bb, ob + j * 2, none⟩ = some (.int .i64 (n : Int)) ∧ w'.cell? ⟨bb, ob + j * 2 + 1, none⟩ = some (.string dw[j].2))
            ((refine KS _ ?_; (repeat (first | exact KeptOut.refl _ _ | refine KeptOut.drew ?_ | refine KeptOut.setCell ?_ (by exact rfl) _)))) (fail)
          clear hn3 hn4 x0 x1 q0 q1 KS
          go_wp2
          go_roundw
          case rel =>
            have K := (KeptOut.refl (fun k => k = g) wr).setCell (p := ⟨g, n, none⟩) rfl (.string dw[j].2)
            refine ⟨j + 1, by omega, by go_num, ?_, PX.other _ (by simp; omega), PZ.other _ (by simp; omega), K.drew.below hbel hbel.size (fun k hk => by omega)⟩
            have h := (HO.out.stored n (.string dw[j].2)).1
            rw [HU.out]
            unfold setAt
            rw [HN.out, List.map_set]
            exact h
          case measure => simp [intOf]; omega
        · have e : j = dw.length := by omega
          subst e
          obtain ⟨y0, z0⟩ := PZ 0 _ rfl
          obtain ⟨y1, z1⟩ := PZ 1 _ rfl
          obtain ⟨y2, z2⟩ := PZ 2 _ rfl
          have hbw : w.heap.size < wr.heap.size := by omega
          have hbw1 : w.heap.size + 1 < wr.heap.size := by omega
          go_wp2
          have K := ((((KeptOut.refl (fun k => k = w.heap.size ∨ k = w.heap.size + 1) wr).setCell (p := ⟨w.heap.size, 1, none⟩) (.inl rfl) (.slice (some ⟨wr.heap.size, 0, none⟩) 0 0)).setCell (p := ⟨w.heap.size + 1, 0, none⟩) (.inr rfl) (.slice (some ⟨g, 0, none⟩) ds.length c1)).setCell (p := ⟨w.heap.size + 1, 1, none⟩) (.inr rfl) (.slice (some ⟨wr.heap.size, 0, none⟩) 0 0)).setCell (p := ⟨w.heap.size + 1, 2, none⟩) (.inr rfl) (.int .i64 (dl - 1))
          have K2 := K.alloc (.cells #[] 43)
          have B3 := K2.below hbel hbel.size (fun k hk => by omega)
          have O3 := own_kept HO.out K2 (fun k hk h => by have := (HO.out.lt k hk).1; omega)
          have R := own_disk0 (upTo_len allB dw ds dw.length) HS.out.1 (upTo_all _ _ _ _ HS.out.2.1 hok dw.length) O3 (dl - 1) (some ⟨wr.heap.size, 0, none⟩)
          exact bodyPost_ret (v := .agg #[.slice (some ⟨g, 0, none⟩) ds.length c1, .slice (some ⟨wr.heap.size, 0, none⟩) 0 0, .int .i64 (dl - 1)]) (by simp [results, Try.results58, go_sem, y0, y1, y2, hbw1]) rfl ⟨_, rfl, by rw [HW.out, HS2.out]; exact R, fun k hk => hk.elim (fun h => .inr (by have := (HO.out.lt k h).1; omega)) (fun h => .inr (by have := own_blk h; omega)), B3⟩
    · have HS2 := Lib.hid (show spendL dl = dl by simp [spendL, hpos])
      go_enter Try.func58, Try.ntmps58
      go_wp2_with (at_builtin; refine wpList_append_src _ rfl (.tmp 15) (.tmp 17) 23 rfl (w.heap.size + 2) 9 i0 (.string ⟨#[]⟩) 1 16 Try.underlying23 hi hz0 hz1 hz2 rfl (by decide) (.slice (some ⟨_, 0, none⟩) 0 0) 0 [] rfl (own_lit0 _ _ _ _ (by simp) (by simp)) a ds.length ca (ds.map .string) rfl (hsrc.out.below (by repeat (first | exact Below.refl _ _ | (refine Below.alloc ?_ (by first | (simp; done) | (simp; omega)) _) | (refine Below.setCell ?_ (by first | (simp; done) | (simp; omega)) _) | (refine Below.drew ?_)))) h1c (by unfold maxLen; omega) (by omega) (by simp) ?_; intro v1 w1 o1 g1 _; rw [Nat.zero_add, List.nil_append] at o1; obtain ⟨g, c1, rfl⟩ := own_shape_pos o1 hds; have B1 : Below ((w.alloc (Obj.cells #[Value.slice a ds.length ca, Value.slice b dw.length cb, Value.int IntKind.i64 dl] 26)).alloc (Obj.cells #[Value.slice none 0 0, Value.slice none 0 0, Value.int IntKind.i64 0] 26)).heap.size ((w.alloc (Obj.cells #[Value.slice a ds.length ca, Value.slice b dw.length cb, Value.int IntKind.i64 dl] 26)).alloc (Obj.cells #[Value.slice none 0 0, Value.slice none 0 0, Value.int IntKind.i64 0] 26)) w1 := below_app (below_alloc _ _) (by simp) g1 (by simp); have O1 := Lib.hid o1; have z1 := B1.size; simp only [World.size_alloc] at z1; clear o1 g1; obtain ⟨YX, YZ, Y0, T0⟩ := two_box B1; have x0 := YX 0 _ rfl; have x1 := YX 1 _ rfl; have x2 := YX 2 _ rfl)
      go_loopw [3] (fun v3 wr => ∃ j : Nat, j ≤ dw.length ∧ v3 = .int .i64 j ∧ wr.ownsRow (w.heap.size + 2) 9 1 (.slice (some ⟨g, 0, none⟩) ds.length c1) ds.length ((upTo allB dw ds j).map .string) ∧ Box wr w.heap.size [.slice (some ⟨g, 0, none⟩) ds.length c1, .slice b dw.length cb, .int .i64 dl] ∧ Box wr (w.heap.size + 1) [.slice none 0 0, .slice none 0 0, .int .i64 0] ∧ Below w.heap.size w wr) (fun v3 _ => dw.length - (intOf v3).toNat)
      case atStart =>
        have K := (KeptOut.refl (fun k => k = w.heap.size) w1).setCell (p := ⟨w.heap.size, 0, none⟩) rfl (.slice (some ⟨g, 0, none⟩) ds.length c1)
        refine ⟨0, Nat.zero_le _, rfl, ?_, ?_, ?_, ?_⟩
        · exact own_kept O1.out K (fun k hk h => by have := (O1.out.lt k hk).1; omega)
        · exact YX.set (i := 0) _ (by simp)
        · exact YZ.other _ (by simp)
        · exact K.below Y0 Y0.size (fun k hk => by omega)
      case round =>
        clear x0 x1 x2
        obtain ⟨j, hj, rfl, hown, PX, PZ, hbel⟩ := hrel
        have HO := Lib.hid hown
        obtain ⟨hg1, hg2⟩ := hown.lt g rfl
        clear hown
        obtain ⟨x0, f0⟩ := PX 0 _ rfl
        obtain ⟨x1, f1⟩ := PX 1 _ rfl
        obtain ⟨x2, f2⟩ := PX 2 _ rfl
        by_cases hlt : j < dw.length
        · obtain ⟨bb, ob, rfl, hcb⟩ := HWs.out.2.resolve_left (by intro e; subst e; simp at hlt)
          obtain ⟨q0, q1⟩ := cellsWait hbel hcb j hlt
          obtain ⟨n, hn⟩ := Int.eq_ofNat_of_zero_le (HT.out _ (List.getElem_mem hlt)).1
          have hn2 : n < ds.length := by have := (HT.out _ (List.getElem_mem hlt)).2; have := H140.out; omega
          have hbb : bb < w.heap.size := by have := World.block_lt_of_cell? w _ (hcb j hlt 0 _ rfl); simpa using this
          rw [hn] at q0
          obtain ⟨s0, cy⟩ : ∃ v, wr.cell? ⟨g, n, none⟩ = some v := ⟨_, (HO.out.cellAt n (by omega)).trans (List.getElem?_eq_getElem (by have := HO.out.1; omega))⟩
          have fy : wr.frozen? ⟨g, n, none⟩ = false := HO.out.frozenAt n
          have HU := Lib.hid (upTo_yes (f := allB) (bl := ds) hlt rfl)
          have HN := Lib.hid hn
          have hn3 : (n : Int) < (ds.length : Int) := by omega
          have hn4 : (0 : Int) ≤ (n : Int) := by omega
          have hj3 : (j : Int) < (dw.length : Int) := by omega
          clear hn
          have hbw : w.heap.size < wr.heap.size := by omega
          have KS : ∀ w' : World, KeptOut (fun k => k = g) wr w' → w'.cell? ⟨w.heap.size, 0, none⟩ = some (.slice (some ⟨g, 0, none⟩) ds.length c1) ∧ w'.cell? ⟨w.heap.size, 1, none⟩ = some (.slice (some ⟨bb, ob, none⟩) dw.length cb) ∧ w'.cell? ⟨bb, ob + j * 2, none⟩ = some (.int .i64 (n : Int)) ∧ w'.cell? ⟨bb, ob + j * 2 + 1, none⟩ = some (.string dw[j].2) :=
            fun w' h => ⟨(h.cell (p := ⟨w.heap.size, 0, none⟩) hbw (fun e => by simp at e; omega)).trans x0, (h.cell (p := ⟨w.heap.size, 1, none⟩) hbw (fun e => by simp at e; omega)).trans x1, (h.cell (p := ⟨bb, ob + j * 2, none⟩) (by simp; omega) (fun e => by simp at e; omega)).trans q0, (h.cell (p := ⟨bb, ob + j * 2 + 1, none⟩) (by simp; omega) (fun e => by simp at e; omega)).trans q1⟩
          go_wp2
          go_region_held3 (fun w' => w'.cell? ⟨w.heap.size, 0, none⟩ = some (.slice (some ⟨g, 0, none⟩) ds.length c1) ∧ w'.cell? ⟨w.heap.size, 1, none⟩ = some (.slice (some ⟨bb, ob, none⟩) dw.length cb) ∧ w'.cell? ⟨bb, ob + j * 2, none⟩ = some (.int .i64 (n : Int)) ∧ w'.cell? ⟨bb, ob + j * 2 + 1, none⟩ = some (.string dw[j].2))
            ((refine KS _ ?_; (repeat (first | exact KeptOut.refl _ _ | refine KeptOut.drew ?_ | refine KeptOut.setCell ?_ (by exact rfl) _)))) (fail)
          clear hn3 hn4 x0 x1 q0 q1 KS
          go_wp2
          go_roundw
          case rel =>
            have K := (KeptOut.refl (fun k => k = g) wr).setCell (p := ⟨g, n, none⟩) rfl (.string dw[j].2)
            refine ⟨j + 1, by omega, by go_num, ?_, PX.other _ (by simp; omega), PZ.other _ (by simp; omega), K.drew.below hbel hbel.size (fun k hk => by omega)⟩
            have h := (HO.out.stored n (.string dw[j].2)).1
            rw [HU.out]
            unfold setAt
            rw [HN.out, List.map_set]
            exact h
          case measure => simp [intOf]; omega
        · have e : j = dw.length := by omega
          subst e
          obtain ⟨y0, z0⟩ := PZ 0 _ rfl
          obtain ⟨y1, z1⟩ := PZ 1 _ rfl
          obtain ⟨y2, z2⟩ := PZ 2 _ rfl
          have hbw : w.heap.size < wr.heap.size := by omega
          have hbw1 : w.heap.size + 1 < wr.heap.size := by omega
          go_wp2
          have K := ((((KeptOut.refl (fun k => k = w.heap.size ∨ k = w.heap.size + 1) wr).setCell (p := ⟨w.heap.size, 1, none⟩) (.inl rfl) (.slice (some ⟨wr.heap.size, 0, none⟩) 0 0)).setCell (p := ⟨w.heap.size + 1, 0, none⟩) (.inr rfl) (.slice (some ⟨g, 0, none⟩) ds.length c1)).setCell (p := ⟨w.heap.size + 1, 1, none⟩) (.inr rfl) (.slice (some ⟨wr.heap.size, 0, none⟩) 0 0)).setCell (p := ⟨w.heap.size + 1, 2, none⟩) (.inr rfl) (.int .i64 dl)
          have K2 := K.alloc (.cells #[] 43)
          have B3 := K2.below hbel hbel.size (fun k hk => by omega)
          have O3 := own_kept HO.out K2 (fun k hk h => by have := (HO.out.lt k hk).1; omega)
          have R := own_disk0 (upTo_len allB dw ds dw.length) HS.out.1 (upTo_all _ _ _ _ HS.out.2.1 hok dw.length) O3 dl (some ⟨wr.heap.size, 0, none⟩)
          exact bodyPost_ret (v := .agg #[.slice (some ⟨g, 0, none⟩) ds.length c1, .slice (some ⟨wr.heap.size, 0, none⟩) 0 0, .int .i64 dl]) (by simp [results, Try.results58, go_sem, y0, y1, y2, hbw1]) rfl ⟨_, rfl, by rw [HW.out, HS2.out]; exact R, fun k hk => hk.elim (fun h => .inr (by have := (HO.out.lt k h).1; omega)) (fun h => .inr (by have := own_blk h; omega)), B3⟩
end Go.Proofs.Ytjbkhamfingoiaa
