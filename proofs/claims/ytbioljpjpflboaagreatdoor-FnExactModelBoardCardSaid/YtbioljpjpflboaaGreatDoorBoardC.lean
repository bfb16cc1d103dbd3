import Derived.Test.YtbioljpjpflboaaGreatDoorProg
import Derived.Test.YtbioljpjpflboaaGreatDoorBase
import Derived.Lib.Builder
import Derived.Lib.AppendStr
import Derived.Laws.OwnMore
import Derived.OwnWalk
import Derived.Handy
import Derived.Test.YtbioljpjpflboaaGreatDoorBoardP
import Derived.Test.YtbioljpjpflboaaGreatDoorModelAll3
import Derived.Deep.LoopGhost
import Derived.BigQuiet
import Derived.Deep.RegionHeld3
/- strings.Builder: what its writers do (the shelf's own contracts for them are not laid where abi.NoEscape is taken in place). -/
namespace Go.Proofs.YtbioljpjpflboaaGreatDoor
open Go Go.RowKit

abbrev BldT : TypeId := 66
theorem infoBld : (Tryz.prog.info? 66).map (fun i => (i.zero, i.size, i.bytes)) = some (some (.agg #[.pointer none, .slice none 0 0]), 2, 32) := by kernel_rfl

set_option maxRecDepth 100000 in
set_option maxHeartbeats 400000 in
theorem check_any (B b : Nat) (bs : List Value) (w : World) (h : Lib.IsBuilder BldT 5 B b bs w) :
    Calls Tryz.prog 72 #[.pointer (some ⟨b, 0, none⟩)] w fun e w' => e = .returned (.tuple #[]) ∧ Lib.BuilderAt BldT 5 B b (.pointer (some ⟨b, 0, none⟩)) bs w' ∧ Below B w w' := by
  obtain ⟨j, hj, hj0, hj1, hj2⟩ := info_parts infoBld
  rcases h with h | h
  · have x0 := h.cell0
    have f0 := h.frozen0
    have hto := Lib.run_to_unsafe (P := Tryz.prog) w ⟨b, 0, none⟩ Tryz.underlying63 Tryz.underlying130 hj (by rw [hj1]; decide) h.shape (Nat.zero_lt_succ 1)
    have hfrom := Lib.run_from_unsafe (P := Tryz.prog) w ⟨b, 0, none⟩ Tryz.underlying130 Tryz.underlying63 hj h.shape (by kernel_rfl)
    have HH := Lib.hid h
    clear h
    go_enter Tryz.func72, Tryz.ntmps72
    go_wp2
    rw [run_callFunc_extern Tryz.func104 (by kernel_rfl) (by kernel_rfl) (by kernel_rfl) (e := Extern.AbiNoEscape.same) (by kernel_rfl), Lib.run_noEscape]
    simp only [Result.andThen]
    rw [Oper.upon_value]
    go_wp2
    go_returns
    exact ⟨rfl, HH.out.used _, (Below.refl B w).setCell (p := ⟨b, 0, none⟩) HH.out.1 _⟩
  · have x0 := h.cell0
    have hne := Lib.run_neq_ptr_same (P := Tryz.prog) w ⟨b, 0, none⟩ Tryz.underlying63 hj
    have HH := Lib.hid h
    clear h
    go_enter Tryz.func72, Tryz.ntmps72
    go_wp2
    go_returns
    exact ⟨rfl, HH.out, Below.refl _ _⟩

theorem own_shp {w : World} {base : Nat} {e : TypeId} {size : Nat} {v : Value} {n : Nat} {xs : List Value} (h : w.ownsRow base e size v n xs) : ∃ a c, v = .slice a n c := by
  rcases h.2 with ⟨hv, hn⟩ | ⟨g, cap, cur, hv, _⟩
  · exact ⟨none, 0, by rw [hv, hn]⟩
  · exact ⟨_, _, hv⟩
theorem cells_one (w : World) (x : Value) (e : TypeId) : ∀ j u, [x][j]? = some u → (w.alloc (.cells #[x] e)).cell? ((⟨w.heap.size, 0, none⟩ : Addr).add j) = some u := by
  intro j u hj
  match j, hj with
  | 0, hj => simp at hj; subst hj; simp [Addr.add]
theorem infoU8b : (Tryz.prog.info? 5).map (fun i => (i.zero, i.size, i.bytes)) = some (some (.int .u8 0), 1, 1) := by kernel_rfl

set_option maxRecDepth 100000 in
set_option maxHeartbeats 800000 in
theorem writeStr_any (B b : Nat) (bs : List Value) (s : ByteArray) (w : World) (h : Lib.IsBuilder BldT 5 B b bs w) (hl : bs.length + s.size ≤ 1099511627776) (hB : B ≤ w.heap.size) :
    Calls Tryz.prog 29 #[.pointer (some ⟨b, 0, none⟩), .string s] w fun e w' => e = .returned (.tuple #[.int .i64 s.size, .nilIface]) ∧ Lib.BuilderAt BldT 5 B b (.pointer (some ⟨b, 0, none⟩)) (bs ++ Lib.strCells s) w' ∧ Below B w w' := by
  obtain ⟨i0, hi, hz0, hz1, hz2⟩ := info_parts infoU8b
  go_enter Tryz.func29, Tryz.ntmps29
  go_wp2_with fail
  refine (check_any B b bs _ h).mono ?_
  rintro e w1 ⟨rfl, ⟨hBb, v, hbk, hown, hne⟩, b1⟩
  have x0 : w1.cell? ⟨b, 0, none⟩ = some (.pointer (some ⟨b, 0, none⟩)) := by simp [World.cell?, hbk]
  have x1 : w1.cell? ⟨b, 1, none⟩ = some v := by simp [World.cell?, hbk]
  have lb : b < w1.heap.size := (Array.getElem?_eq_some_iff.1 hbk).1
  have HK := Lib.hid hbk
  have HO := Lib.hid hown
  have HN := Lib.hid hne
  have z1 := b1.size
  clear hbk hown hne
  go_wp2_with (at_builtin; refine Lib.wpList_append_own_string _ rfl _ _ 64 9 rfl B 5 i0 Tryz.underlying64 Tryz.underlying9 hi hz0 hz1 hz2 v bs.length bs rfl HO.out s rfl (by unfold maxLen; omega) (by omega) (by omega) ?_; intro v2 w2 o2 g2 _; have HK2 : w2.heap[b]? = some (.cells #[.pointer (some ⟨b, 0, none⟩), v] BldT (0, 0)) := (g2.block b lb (fun e => HN.out e.symm)).trans HK.out; have y0 : w2.cell? ⟨b, 0, none⟩ = some (.pointer (some ⟨b, 0, none⟩)) := (by simp [World.cell?, HK2]); have y1 : w2.cell? ⟨b, 1, none⟩ = some v := (by simp [World.cell?, HK2]); have fy : w2.frozen? ⟨b, 1, none⟩ = false := (by simp [World.frozen?, HK2]); have O2 := Lib.hid o2; have B2 : Below B w w2 := b1.grown g2 (by omega) (fun k hk => (HO.out.lt k hk).1); have HK3 := Lib.hid HK2; obtain ⟨a2, c2, rfl⟩ := own_shp o2; clear o2 g2 HK2)
  go_ret2
  exact ⟨rfl, Lib.BuilderAt.put hBb HK3.out (bs' := bs ++ Lib.strCells s) (by simpa [Lib.strCells_length] using O2.out) (by decide), B2.setCell (p := ⟨b, 1, none⟩) hBb _⟩
end Go.Proofs.YtbioljpjpflboaaGreatDoor

/- strings.Builder's writers leave every block of another type as it is. -/
namespace Go.Proofs.YtbioljpjpflboaaGreatDoor
open Go Go.RowKit

/-- a block of another type than a builder's, and than its bytes' -/
def OtherB (w : World) (q : Nat) : Prop := ∃ cs T z, w.heap[q]? = some (.cells cs T z) ∧ T ≠ BldT ∧ T ≠ 5
theorem OtherB.lt {w : World} {q : Nat} (h : OtherB w q) : q < w.heap.size := by
  obtain ⟨_, _, _, h, _⟩ := h
  exact (Array.getElem?_eq_some_iff.1 h).1
theorem OtherB.of_eq {w w' : World} {q : Nat} (h : OtherB w q) (e : w'.heap[q]? = w.heap[q]?) : OtherB w' q := by
  obtain ⟨a, b, c, h1, h2⟩ := h
  exact ⟨a, b, c, e.trans h1, h2⟩
theorem bld_below2 {B b : Nat} {bs : List Value} {w w' : World} (hb : Below w.heap.size w w') (h : Lib.IsBuilder BldT 5 B b bs w) : Lib.IsBuilder BldT 5 B b bs w' := by
  have k : ∀ p, Lib.BuilderAt BldT 5 B b p bs w → Lib.BuilderAt BldT 5 B b p bs w' := fun p ⟨h1, v, h2, h3, h4⟩ =>
    ⟨h1, v, (hb.block b (Array.getElem?_eq_some_iff.1 h2).1).trans h2, own_below h3 hb, h4⟩
  exact h.imp (k _) (k _)
theorem bld_other {B b : Nat} {bs : List Value} {w : World} (h : Lib.IsBuilder BldT 5 B b bs w) {q : Nat} (hq : OtherB w q) : q ≠ b := by
  obtain ⟨cs, T, z, hq, t1, -⟩ := hq
  rintro rfl
  rcases h with ⟨-, v, h, -⟩ | ⟨-, v, h, -⟩
  · have h2 := Option.some.inj (h.symm.trans hq)
    injection h2 with _ h3 _
    exact t1 h3.symm
  · have h2 := Option.some.inj (h.symm.trans hq)
    injection h2 with _ h3 _
    exact t1 h3.symm
theorem own_other {B : Nat} {v : Value} {n : Nat} {xs : List Value} {w : World} (h : w.ownsRow B 5 1 v n xs) {q : Nat} (hq : OtherB w q) : some q ≠ v.ownBlock := by
  obtain ⟨cs, T, z, hq, -, t2⟩ := hq
  intro e
  rcases h.2 with ⟨hv, -⟩ | ⟨g, cap, cur, hv, -, hg, -⟩
  · rw [hv] at e
    cases e
  · rw [hv] at e
    obtain rfl : q = g := Option.some.inj e
    have h2 := Option.some.inj (hg.symm.trans hq)
    injection h2 with _ h3 _
    exact t2 h3.symm
set_option maxRecDepth 100000 in
set_option maxHeartbeats 400000 in
theorem checkT_any (B b : Nat) (bs : List Value) (w : World) (h : Lib.IsBuilder BldT 5 B b bs w) :
    Calls Tryz.prog 72 #[.pointer (some ⟨b, 0, none⟩)] w fun e w' => e = .returned (.tuple #[]) ∧ Lib.BuilderAt BldT 5 B b (.pointer (some ⟨b, 0, none⟩)) bs w' ∧ Below B w w' ∧ KeptOut (fun q => q = b) w w' := by
  obtain ⟨j, hj, hj0, hj1, hj2⟩ := info_parts infoBld
  rcases h with h | h
  · have x0 := h.cell0
    have f0 := h.frozen0
    have hto := Lib.run_to_unsafe (P := Tryz.prog) w ⟨b, 0, none⟩ Tryz.underlying63 Tryz.underlying130 hj (by rw [hj1]; decide) h.shape (Nat.zero_lt_succ 1)
    have hfrom := Lib.run_from_unsafe (P := Tryz.prog) w ⟨b, 0, none⟩ Tryz.underlying130 Tryz.underlying63 hj h.shape (by kernel_rfl)
    have HH := Lib.hid h
    clear h
    go_enter Tryz.func72, Tryz.ntmps72
    go_wp2
    rw [run_callFunc_extern Tryz.func104 (by kernel_rfl) (by kernel_rfl) (by kernel_rfl) (e := Extern.AbiNoEscape.same) (by kernel_rfl), Lib.run_noEscape]
    simp only [Result.andThen]
    rw [Oper.upon_value]
    go_wp2
    go_returns
    exact ⟨rfl, HH.out.used _, (Below.refl B w).setCell (p := ⟨b, 0, none⟩) HH.out.1 _, (KeptOut.refl (fun q => q = b) w).setCell (p := ⟨b, 0, none⟩) rfl _⟩
  · have x0 := h.cell0
    have hne := Lib.run_neq_ptr_same (P := Tryz.prog) w ⟨b, 0, none⟩ Tryz.underlying63 hj
    have HH := Lib.hid h
    clear h
    go_enter Tryz.func72, Tryz.ntmps72
    go_wp2
    go_returns
    exact ⟨rfl, HH.out, Below.refl _ _, KeptOut.refl _ _⟩
set_option maxRecDepth 100000 in
set_option maxHeartbeats 800000 in
theorem writeT_any (B b : Nat) (bs : List Value) (s : ByteArray) (w : World) (h : Lib.IsBuilder BldT 5 B b bs w) (hl : bs.length + s.size ≤ 1099511627776) (hB : B ≤ w.heap.size) :
    Calls Tryz.prog 29 #[.pointer (some ⟨b, 0, none⟩), .string s] w fun e w' => e = .returned (.tuple #[.int .i64 s.size, .nilIface]) ∧ Lib.BuilderAt BldT 5 B b (.pointer (some ⟨b, 0, none⟩)) (bs ++ Lib.strCells s) w' ∧ Below B w w' ∧ ∀ q, OtherB w q → w'.heap[q]? = w.heap[q]? := by
  obtain ⟨i0, hi, hz0, hz1, hz2⟩ := info_parts infoU8b
  have HB0 := Lib.hid (fun q (hq : OtherB w q) => bld_other h hq)
  go_enter Tryz.func29, Tryz.ntmps29
  go_wp2_with fail
  refine (checkT_any B b bs _ h).mono ?_
  rintro e w1 ⟨rfl, ⟨hBb, v, hbk, hown, hne⟩, b1, k1⟩
  have HQ1 := Lib.hid (show ∀ q, OtherB w q → w1.heap[q]? = w.heap[q]? from fun q hq => k1.block q hq.lt (HB0.out q hq))
  have x0 : w1.cell? ⟨b, 0, none⟩ = some (.pointer (some ⟨b, 0, none⟩)) := by simp [World.cell?, hbk]
  have x1 : w1.cell? ⟨b, 1, none⟩ = some v := by simp [World.cell?, hbk]
  have lb : b < w1.heap.size := (Array.getElem?_eq_some_iff.1 hbk).1
  have HK := Lib.hid hbk
  have HO := Lib.hid hown
  have HN := Lib.hid hne
  have z1 := b1.size
  clear hbk hown hne k1
  go_wp2_with (at_builtin; refine Lib.wpList_append_own_string _ rfl _ _ 64 9 rfl B 5 i0 Tryz.underlying64 Tryz.underlying9 hi hz0 hz1 hz2 v bs.length bs rfl HO.out s rfl (by unfold maxLen; omega) (by omega) (by omega) ?_; intro v2 w2 o2 g2 _; have HK2 : w2.heap[b]? = some (.cells #[.pointer (some ⟨b, 0, none⟩), v] BldT (0, 0)) := (g2.block b lb (fun e => HN.out e.symm)).trans HK.out; have HQ2 := Lib.hid (fun q (hq : OtherB w q) => (g2.block q (Nat.lt_of_lt_of_le hq.lt z1) (own_other HO.out (hq.of_eq (HQ1.out q hq)))).trans (HQ1.out q hq)); have y0 : w2.cell? ⟨b, 0, none⟩ = some (.pointer (some ⟨b, 0, none⟩)) := (by simp [World.cell?, HK2]); have y1 : w2.cell? ⟨b, 1, none⟩ = some v := (by simp [World.cell?, HK2]); have fy : w2.frozen? ⟨b, 1, none⟩ = false := (by simp [World.frozen?, HK2]); have O2 := Lib.hid o2; have B2 : Below B w w2 := b1.grown g2 (by omega) (fun k hk => (HO.out.lt k hk).1); have HK3 := Lib.hid HK2; obtain ⟨a2, c2, rfl⟩ := own_shp o2; clear o2 g2 HK2)
  go_ret2
  exact ⟨rfl, Lib.BuilderAt.put hBb HK3.out (bs' := bs ++ Lib.strCells s) (by simpa [Lib.strCells_length] using O2.out) (by decide), B2.setCell (p := ⟨b, 1, none⟩) hBb _, fun q hq => (((KeptOut.refl (fun q => q = b) w2).setCell (p := ⟨b, 1, none⟩) rfl _).block q (hq.of_eq (HQ2.out q hq)).lt (HB0.out q hq)).trans (HQ2.out q hq)⟩
end Go.Proofs.YtbioljpjpflboaaGreatDoor

/- ModelBoard, of the program. -/
namespace Go.Proofs.YtbioljpjpflboaaGreatDoor
open Go Go.RowKit

theorem own_cap2 {w : World} {base : Nat} {e : TypeId} {size : Nat} {a : Option Addr} {n c : Nat} {xs : List Value} (h : w.ownsRow base e size (.slice a n c) n xs) : n ≤ c := by
  rcases h.2 with ⟨hv, hn⟩ | ⟨g, cap, cur, hv, hB, hgg, hle, hr⟩
  · omega
  · simp only [Value.slice.injEq] at hv
    rw [hv.2.2]
    exact hle
theorem str_bytes (t s : ByteArray) : Lib.byteCells (t ++ s).data.toList = Lib.byteCells t.data.toList ++ Lib.strCells s := by simp [Lib.byteCells, Lib.strCells]
set_option maxRecDepth 100000 in
set_option maxHeartbeats 8000000 in
theorem implBoard_any {v : Value} {m : ModelD} {w : World} {base lim : Nat} (h : OwModel w base lim v m) (hb : (bulkModel m : Int) ≤ 1048576) (htab : Lib.TabIs Tryz.prog w "internal/strconv.uint64pow10" .u64 Lib.pow10Tab) :
    Calls Tryz.prog 8 #[v] w fun e w' => e = .returned (.string (boardB m)) ∧ Below w.heap.size w w' := by
  have HP := Lib.hid htab
  have HV := Lib.hid h.vn
  have HBK := Lib.hid hb
  clear htab
  obtain ⟨v3, v4, v5, v6, p0, p1, p2, p3, p4, rfl, -, o3, o4, o5, o6⟩ := h
  obtain ⟨rev, uid, flo, S, U, T, P⟩ := m
  simp only at o3 o4 o5 o6
  obtain ⟨a3, ca3, rfl, hl3, hk3⟩ := o3.vw
  obtain ⟨a4, ca4, rfl, hl4, -⟩ := o4.vw
  obtain ⟨a6, nP, ca6, rfl⟩ := o6.shape
  obtain ⟨a5, ca5, xs, rfl, ⟨o5, -⟩, hm5, rfl, hx5, -⟩ := o5
  have hl5 := own_el encT_len hm5 o5
  have HX3 := Lib.hid hl3
  have HK3 := Lib.hid hk3
  have HX4 := Lib.hid hl4
  have HX5 := Lib.hid hl5
  have HK5 := Lib.hid (show ∀ x ∈ xs, OkX w x ∧ NnX x ∧ x.2.2.marks.length ≤ x.2.1 from fun x hx => ⟨(hx5 x hx).ok, (hx5 x hx).nn, own_cap2 (hx5 x hx).1⟩)
  obtain ⟨q, hq⟩ : ∃ q, modelB ⟨rev, uid, flo, S, U, thsOf xs, P⟩ = q := ⟨_, rfl⟩
  have HQ := Lib.hid hq
  clear hl3 hk3 hl4 hl5 hx5 o3 o4 o5 o6 hm5 hq hb
  obtain ⟨w1, hA⟩ : ∃ wA, w.alloc (.cells #[.int .i64 rev, .int .i64 uid, .int .i64 flo, .slice a3 S.length ca3, .slice a4 U.length ca4, .slice a5 xs.length ca5, .slice a6 nP ca6] 35) = wA := ⟨_, rfl⟩
  have BX := Lib.hid (show Box w1 w.heap.size [.int .i64 rev, .int .i64 uid, .int .i64 flo, .slice a3 S.length ca3, .slice a4 U.length ca4, .slice a5 xs.length ca5, .slice a6 nP ca6] by rw [← hA]; exact Box.alloc w _ _)
  have B1 := Lib.hid (show Below w.heap.size w w1 by rw [← hA]; exact below_alloc _ _)
  have KS := Lib.hid (show ∀ W, Below w1.heap.size w1 W → W.cell? ⟨w.heap.size, 0, none⟩ = some (.int .i64 rev) ∧ W.cell? ⟨w.heap.size, 1, none⟩ = some (.int .i64 uid) ∧ W.cell? ⟨w.heap.size, 2, none⟩ = some (.int .i64 flo) ∧ W.cell? ⟨w.heap.size, 3, none⟩ = some (.slice a3 S.length ca3) ∧ W.cell? ⟨w.heap.size, 4, none⟩ = some (.slice a4 U.length ca4) ∧ W.cell? ⟨w.heap.size, 5, none⟩ = some (.slice a5 xs.length ca5) ∧ W.cell? ⟨w.heap.size, 6, none⟩ = some (.slice a6 nP ca6) from fun W hb => by
    have h := BX.out.below hb
    exact ⟨(h 0 _ rfl).1, (h 1 _ rfl).1, (h 2 _ rfl).1, (h 3 _ rfl).1, (h 4 _ rfl).1, (h 5 _ rfl).1, (h 6 _ rfl).1⟩)
  have z1 : w1.heap.size = w.heap.size + 1 := by rw [← hA, World.size_alloc]
  have HF := Lib.hid (show ∀ W, Below w1.heap.size w1 W → Below w.heap.size w W from fun W hb => B1.out.trans (hb.mono (by omega)))
  have HA := Lib.hid hA
  clear hA z1
  obtain ⟨y0, y1, y2, y3, y4, y5, y6⟩ := KS.out _ (Below.refl _ _)
  cases q with
  | false =>
    have HN := Lib.hid (boardB_no HQ.out)
    go_enter Tryz.func8, Tryz.ntmps8
    go_wp2_with fail
    rw [HA.out]
    go_wp2_with fail
    refine (implModelOk_any (HV.out.below B1.out) HBK.out).mono ?_
    rintro e w2 ⟨rfl, b2⟩
    rw [HQ.out]
    go_wp2
    go_ret
    exact ⟨by rw [HN.out]; rfl, HF.out _ b2⟩
  | true =>
  have hfa := modelB_facts HQ.out
  simp only at hfa
  obtain ⟨⟨r0, r1⟩, n7, hs6, hul, hub, n10, htb⟩ := hfa
  have HS6 := Lib.hid hs6
  have HUL := Lib.hid hul
  have HUB := Lib.hid hub
  have HTB := Lib.hid htb
  have HSZ := Lib.hid (show ∀ k, k ≤ S.length → (bdTo rev S U (thsOf xs) k).size ≤ 9830 from fun k hk => by have := bdTo_size HQ.out k hk; simp only at this; omega)
  have HTS := Lib.hid (show ∀ (sp : ByteArray) (k : Nat), k ≤ xs.length → (thsTo (thsOf xs) sp k).size ≤ 1200 from fun sp k hk => by
    have := thsTo_size (T := thsOf xs) (fun k h => thing_nm (HTB.out k h)) sp k (by rw [thsOf_len]; exact hk)
    rw [thsOf_len] at n10
    omega)
  have HN := Lib.hid (boardB_yes HQ.out)
  rw [thsOf_len] at n10
  clear hs6 hul hub htb
  go_enter Tryz.func8, Tryz.ntmps8
  go_wp2_with fail
  rw [HA.out]
  go_wp2_with fail
  refine (implModelOk_any (HV.out.below B1.out) HBK.out).mono ?_
  rintro e w2 ⟨rfl, b2⟩
  rw [HQ.out]
  have B2 := Lib.hid b2
  clear y0 y1 y2 y3 y4 y5 y6 b2
  have KB := Lib.hid (show ∀ W, Below w2.heap.size w2 W → Below w1.heap.size w1 W from fun W hb => B2.out.trans (hb.mono B2.out.size))
  obtain ⟨w3, hw3⟩ : ∃ W, w2.alloc (.cells #[.pointer none, .slice none 0 0] 66) = W := ⟨_, rfl⟩
  have D3 := Lib.hid (show Lib.IsBuilder BldT 5 w2.heap.size w2.heap.size [] w3 by rw [← hw3]; exact Lib.fresh_isBuilder 66 5 w2)
  have B3 := Lib.hid (show Below w2.heap.size w2 w3 by rw [← hw3]; exact below_alloc _ _)
  have Z3 := Lib.hid (show w2.heap.size < w3.heap.size by rw [← hw3, World.size_alloc]; omega)
  obtain ⟨y0, y1, y2, y3, y4, y5, y6⟩ := KS.out _ (KB.out _ B3.out)
  go_wp2_with fail
  clear hw3
  refine (itoaI_any (n := rev) (by omega) (by omega) w3 (tab_below HP.out (HF.out _ (KB.out _ B3.out)))).mono ?_
  rintro e w4 ⟨rfl, b4⟩
  have B4 := Lib.hid (B3.out.trans (b4.mono B3.out.size))
  have D4 := Lib.hid (bld_below2 b4 D3.out)
  have Z4 := Lib.hid (Nat.lt_of_lt_of_le Z3.out b4.size)
  clear y0 y1 y2 y3 y4 y5 y6 b4 B3 D3 Z3
  obtain ⟨d, hd⟩ : ∃ d, decI rev = d := ⟨_, rfl⟩
  have sd : d.size ≤ 21 := by rw [← hd]; exact decI_size (by omega) (by omega)
  have HB0 := Lib.hid (show bdTo rev S U (thsOf xs) 0 = ⟨#[99, 111, 117, 110, 116, 32]⟩ ++ d ++ ⟨#[10]⟩ by rw [← hd]; rfl)
  have hs0 := HSZ.out 0 (Nat.zero_le _)
  rw [HB0.out] at hs0
  rw [hd]
  clear hd
  have f1 : ¬ 9223372036854775807 < 6 + d.size := by omega
  have f2 : ¬ 9223372036854775807 < 6 + d.size + 1 := by omega
  have hl0 : ([] : List Value).length + ((⟨#[99, 111, 117, 110, 116, 32]⟩ : ByteArray) ++ d ++ ⟨#[10]⟩).size ≤ 1099511627776 := by rw [List.length_nil]; omega
  have hz4 : w2.heap.size ≤ w4.heap.size := Nat.le_of_lt Z4.out
  have c5 := writeT_any w2.heap.size w2.heap.size [] ((⟨#[99, 111, 117, 110, 116, 32]⟩ : ByteArray) ++ d ++ ⟨#[10]⟩) w4 D4.out hl0 hz4
  have C5 := Lib.hid c5
  clear c5 hl0 hz4
  go_wp2_with fail
  refine C5.out.mono ?_
  rintro e w5 ⟨rfl, d5, b5, -⟩
  have B5 := Lib.hid (B4.out.trans b5)
  have D5 := Lib.hid (show Lib.IsBuilder BldT 5 w2.heap.size w2.heap.size (Lib.byteCells (bdTo rev S U (thsOf xs) 0).data.toList) w5 by
    rw [HB0.out, show Lib.byteCells ((⟨#[99, 111, 117, 110, 116, 32]⟩ : ByteArray) ++ d ++ ⟨#[10]⟩).data.toList = [] ++ Lib.strCells ((⟨#[99, 111, 117, 110, 116, 32]⟩ : ByteArray) ++ d ++ ⟨#[10]⟩) by simp [Lib.byteCells, Lib.strCells]]
    exact .inr d5)
  have Z5 := Lib.hid (Nat.lt_of_lt_of_le Z4.out b5.size)
  clear d5 b5 B4 D4 Z4 C5 f1 f2 hs0 sd HB0
  obtain ⟨y0, y1, y2, y3, y4, y5, y6⟩ := KS.out _ (KB.out _ B5.out)
  go_wp2
  clear y0 y1 y2 y3 y4 y5 y6
  go_loopg [20] S.length (fun q i wr => ∃ k : Nat, k + q = S.length ∧ i = .int .i64 k ∧ Lib.IsBuilder BldT 5 w2.heap.size w2.heap.size (Lib.byteCells (bdTo rev S U (thsOf xs) k).data.toList) wr ∧ Below w2.heap.size w2 wr ∧ w2.heap.size < wr.heap.size)
  case atStart => exact ⟨0, by omega, rfl, D5.out, B5.out, Z5.out⟩
  case round =>
    clear D5 B5 Z5
    obtain ⟨wo, hwo⟩ : ∃ W, W = wr := ⟨_, rfl⟩
    subst hwo
    obtain ⟨k, hk, rfl, hbd, hbel, hz⟩ := hrel
    have HKQ := Lib.hid hk
    have HD := Lib.hid hbd
    have HB := Lib.hid hbel
    have HZ := Lib.hid hz
    clear hk hbd hbel hz
    obtain ⟨t, ht⟩ : ∃ t, bdTo rev S U (thsOf xs) k = t := ⟨_, rfl⟩
    rw [ht] at HD
    by_cases hlt : k < S.length
    · have hltU : k < U.length := by have := HUL.out; omega
      obtain ⟨bb, ob, rfl, hcb⟩ := HX3.out.2.resolve_left (by intro e; rw [e] at hlt; simp at hlt)
      obtain ⟨bu, ou, rfl, hcu⟩ := HX4.out.2.resolve_left (by intro e; rw [e] at hltU; simp at hltU)
      have hkI : (k : Int) < (S.length : Int) := by omega
      have hkU : (k : Int) < (U.length : Int) := by omega
      have hk0 : (0 : Int) ≤ (k : Int) := by omega
      have hTK : t.size ≤ 9830 := by rw [← ht]; exact HSZ.out k (by omega)
      have HN1 := Lib.hid (show bdTo rev S U (thsOf xs) (k + 1) = t ++ spLn S[k] U[k].2 ++ thsTo (thsOf xs) S[k].1 (thsOf xs).length by rw [bdTo_next rev _ hlt hltU, ht])
      obtain ⟨c0, c1, c2, c3, c4⟩ := cellsSpace (HF.out _ (KB.out _ HB.out)) hcb k hlt
      have hn6 := HS6.out k hlt
      have hu2 := HUB.out k hltU
      have hok := HK3.out S[k] (List.getElem_mem hlt)
      have HCU := Lib.hid hcu
      clear hcb hcu ht
      obtain ⟨⟨x0, x1, x2, x3, x4⟩, hxk⟩ : ∃ x, S[k] = x := ⟨_, rfl⟩
      obtain ⟨u2, hu⟩ : ∃ u, U[k].2 = u := ⟨_, rfl⟩
      rw [hxk] at c0 c1 c2 c3 c4 hn6 hok HN1
      rw [hu] at hu2 HN1
      have HU2 := Lib.hid hu
      dsimp only at c0 c1 c2 c3 c4 hn6 HN1
      clear hxk hu
      obtain ⟨w6, hw6⟩ : ∃ W, wo.alloc (.cells #[.string x0, .string x1, .int .i64 x2, .bool x3, .int .i64 x4] 51) = W := ⟨_, rfl⟩
      have b6 : Below wo.heap.size wo w6 := by rw [← hw6]; exact below_alloc _ _
      have Q6 := Lib.hid (show w6.heap[wo.heap.size]? = some (Obj.cells #[.string x0, .string x1, .int .i64 x2, .bool x3, .int .i64 x4] 51) by rw [← hw6]; exact heap_alloc_new wo _)
      have B6 := Lib.hid (HB.out.trans (b6.mono (by have := HZ.out; omega)))
      have D6 := Lib.hid (bld_below2 b6 HD.out)
      have Z6 := Lib.hid (show w2.heap.size < w6.heap.size from Nat.lt_of_lt_of_le HZ.out b6.size)
      have HSC := Lib.hid (show ∀ W : World, W.heap[wo.heap.size]? = some (Obj.cells #[.string x0, .string x1, .int .i64 x2, .bool x3, .int .i64 x4] 51) → W.cell? ⟨wo.heap.size, 0, none⟩ = some (.string x0) ∧ W.cell? ⟨wo.heap.size, 1, none⟩ = some (.string x1) ∧ W.cell? ⟨wo.heap.size, 2, none⟩ = some (.int .i64 x2) ∧ W.cell? ⟨wo.heap.size, 3, none⟩ = some (.bool x3) ∧ W.cell? ⟨wo.heap.size, 4, none⟩ = some (.int .i64 x4) from fun W hq => by simp [World.cell?, hq])
      have HOS := Lib.hid (show ∀ W : World, W.heap[wo.heap.size]? = some (Obj.cells #[.string x0, .string x1, .int .i64 x2, .bool x3, .int .i64 x4] 51) → OtherB W wo.heap.size from fun W hq => ⟨_, _, _, hq, by decide, by decide⟩)
      have KR := Lib.hid (show ∀ W, Below w2.heap.size w2 W → W.heap[wo.heap.size]? = some (Obj.cells #[.string x0, .string x1, .int .i64 x2, .bool x3, .int .i64 x4] 51) → Below w2.heap.size w2 W ∧ W.heap[wo.heap.size]? = some (Obj.cells #[.string x0, .string x1, .int .i64 x2, .bool x3, .int .i64 x4] 51) ∧ W.cell? ⟨w.heap.size, 4, none⟩ = some (.slice (some ⟨bu, ou, none⟩) U.length ca4) ∧ W.cell? ⟨wo.heap.size, 0, none⟩ = some (.string x0) ∧ W.cell? ⟨wo.heap.size, 1, none⟩ = some (.string x1) ∧ W.cell? ⟨wo.heap.size, 2, none⟩ = some (.int .i64 x2) ∧ W.cell? ⟨wo.heap.size, 3, none⟩ = some (.bool x3) ∧ W.cell? ⟨wo.heap.size, 4, none⟩ = some (.int .i64 x4) ∧ W.cell? ⟨bu, ou + k * 2 + 1, none⟩ = some (.int .i64 u2) from fun W hb hq => by
        have hb1 := KB.out _ hb
        obtain ⟨y0, y1, y2, y3, y4, y5, y6⟩ := KS.out _ hb1
        obtain ⟨_, d1⟩ := cellsUse (HF.out _ hb1) HCU.out k hltU
        rw [HU2.out] at d1
        obtain ⟨s0, s1, s2, s3, s4⟩ := HSC.out W hq
        exact ⟨hb, hq, y4, s0, s1, s2, s3, s4, d1⟩)
      clear b6 HD
      obtain ⟨sw, hsw⟩ : ∃ s, swB (x0, x1, x2, x3, x4) = s := ⟨_, rfl⟩
      have ssw : sw.size ≤ 100 := by rw [← hsw]; exact swB_le _
      obtain ⟨du, hdu⟩ : ∃ s, decI u2 = s := ⟨_, rfl⟩
      have sdu : du.size ≤ 21 := by rw [← hdu]; exact decI_size (by omega) (by omega)
      have HSW := Lib.hid (fun W (h : Lib.TabIs Tryz.prog W "internal/strconv.uint64pow10" .u64 Lib.pow10Tab) => implSpW_any x0 x1 x2 x3 x4 W hok.1 hok.2 h)
      rw [hsw] at HSW
      have HDU := Lib.hid (fun W (h : Lib.TabIs Tryz.prog W "internal/strconv.uint64pow10" .u64 Lib.pow10Tab) => itoaI_any (n := u2) (by omega) (by omega) W h)
      rw [hdu] at HDU
      have HL := Lib.hid (show spLn (x0, x1, x2, x3, x4) u2 = x0 ++ ⟨#[32, 105, 110, 32]⟩ ++ sw ++ ⟨#[32, 117, 115, 101, 115, 32]⟩ ++ du ++ ⟨#[10]⟩ by
        show x0 ++ ⟨#[32, 105, 110, 32]⟩ ++ swB (x0, x1, x2, x3, x4) ++ ⟨#[32, 117, 115, 101, 115, 32]⟩ ++ decI u2 ++ ⟨#[10]⟩ = _
        rw [hsw, hdu])
      have hLS : (x0 ++ ⟨#[32, 105, 110, 32]⟩ ++ sw ++ ⟨#[32, 117, 115, 101, 115, 32]⟩ ++ du ++ ⟨#[10]⟩).size ≤ 140 := by
        simp only [ByteArray.size_append]
        show x0.size + 4 + sw.size + 6 + du.size + 1 ≤ 140
        omega
      have HLS := Lib.hid hLS
      clear hsw hdu hLS
      have f1 : ¬ 9223372036854775807 < x0.size + 4 := by omega
      have f2 : ¬ 9223372036854775807 < x0.size + 4 + sw.size := by omega
      have f3 : ¬ 9223372036854775807 < x0.size + 4 + sw.size + 6 := by omega
      have f4 : ¬ 9223372036854775807 < x0.size + 4 + sw.size + 6 + du.size := by omega
      have f5 : ¬ 9223372036854775807 < x0.size + 4 + sw.size + 6 + du.size + 1 := by omega
      have hbl : (Lib.byteCells t.data.toList).length ≤ 9830 := by rw [Lib.byteCells_length]; simpa using hTK
      obtain ⟨ln, hln⟩ : ∃ s, x0 ++ ⟨#[32, 105, 110, 32]⟩ ++ sw ++ ⟨#[32, 117, 115, 101, 115, 32]⟩ ++ du ++ ⟨#[10]⟩ = s := ⟨_, rfl⟩
      have hls2 := HLS.out
      rw [hln] at hls2
      have hws : (Lib.byteCells t.data.toList).length + ln.size ≤ 1099511627776 := by omega
      have HWR := Lib.hid (fun W (h : Lib.IsBuilder BldT 5 w2.heap.size w2.heap.size (Lib.byteCells t.data.toList) W) (hz : w2.heap.size ≤ W.heap.size) => writeT_any w2.heap.size w2.heap.size (Lib.byteCells t.data.toList) ln W h hws hz)
      rw [← hln] at HWR
      clear hln hls2
      clear hbl hws
      go_wp2_with fail
      clear c0 c1 c2 c3 c4 hw6
      go_region_held3 (fun W => Below w2.heap.size w2 W ∧ W.heap[wo.heap.size]? = some (Obj.cells #[.string x0, .string x1, .int .i64 x2, .bool x3, .int .i64 x4] 51) ∧ W.cell? ⟨w.heap.size, 4, none⟩ = some (.slice (some ⟨bu, ou, none⟩) U.length ca4) ∧ W.cell? ⟨wo.heap.size, 0, none⟩ = some (.string x0) ∧ W.cell? ⟨wo.heap.size, 1, none⟩ = some (.string x1) ∧ W.cell? ⟨wo.heap.size, 2, none⟩ = some (.int .i64 x2) ∧ W.cell? ⟨wo.heap.size, 3, none⟩ = some (.bool x3) ∧ W.cell? ⟨wo.heap.size, 4, none⟩ = some (.int .i64 x4) ∧ W.cell? ⟨bu, ou + k * 2 + 1, none⟩ = some (.int .i64 u2))
        (first | exact KR.out _ GC.out QC.out | exact KR.out _ GB.out QB.out | exact KR.out _ GA.out QA.out | exact KR.out _ (B6.out.drew) Q6.out)
        (first
          | (have gB := GB; go_at_call 29; refine (HWR.out _ DB.out (Nat.le_of_lt ZB.out)).mono ?_; rintro e wC ⟨rfl, dC, bC, qC⟩; have GC := Lib.hid (GB.out.trans bC); have QC := Lib.hid ((qC _ (HOS.out _ QB.out)).trans QB.out); have DC := Lib.hid dC; have ZC := Lib.hid (Nat.lt_of_lt_of_le ZB.out bC.size))
          | (have gA := GA; go_at_call 30; refine (HDU.out _ (tab_below HP.out (HF.out _ (KB.out _ GA.out)))).mono ?_; rintro e wB ⟨rfl, bB⟩; have GB := Lib.hid (GA.out.trans (bB.mono GA.out.size)); have QB := Lib.hid ((bB.block _ (HOS.out _ QA.out).lt).trans QA.out); have DB := Lib.hid (bld_below2 bB DA.out); have ZB := Lib.hid (Nat.lt_of_lt_of_le ZA.out bB.size))
          | (go_at_call 31; refine (HSW.out _ (tab_below HP.out (HF.out _ (KB.out _ (B6.out.drew))))).mono ?_; rintro e wA ⟨rfl, bA⟩; have GA := Lib.hid ((B6.out.drew).trans (bA.mono B6.out.size)); have QA := Lib.hid ((bA.block _ (HOS.out _ Q6.out).lt).trans Q6.out); have DA := Lib.hid (bld_below2 bA (bld_below2 ((Below.refl _ _).drew) D6.out)); have ZA := Lib.hid (Nat.lt_of_lt_of_le Z6.out bA.size)))
      have DL := Lib.hid (show Lib.IsBuilder BldT 5 w2.heap.size w2.heap.size (Lib.byteCells (t ++ spLn (x0, x1, x2, x3, x4) u2).data.toList) wC by
        rw [HL.out, str_bytes]
        exact .inr DC.out)
      have GV := Lib.hid GC.out
      have QV := Lib.hid QC.out
      have ZV := Lib.hid ZC.out
      have HLS2 := Lib.hid (show (t ++ spLn (x0, x1, x2, x3, x4) u2).size ≤ 9970 by
        rw [HL.out, ByteArray.size_append]
        have h2 := HLS.out
        omega)
      clear GC QC DC ZC GB QB DB ZB GA QA DA ZA gA gB bA bB dC bC qC f1 f2 f3 f4 f5 HWR HSW HDU ssw sdu B6 D6 Z6 Q6
      obtain ⟨y0, y1, y2, y3, y4, y5, y6⟩ := KS.out _ (KB.out _ GV.out)
      go_wp2
      clear y0 y1 y2 y3 y4 y5 y6
      go_loopg [45] xs.length (fun q i W => ∃ j : Nat, j + q = xs.length ∧ i = .int .i64 j ∧ Lib.IsBuilder BldT 5 w2.heap.size w2.heap.size (Lib.byteCells (t ++ spLn (x0, x1, x2, x3, x4) u2 ++ thsTo (thsOf xs) x0 j).data.toList) W ∧ Below w2.heap.size w2 W ∧ W.heap[wo.heap.size]? = some (Obj.cells #[.string x0, .string x1, .int .i64 x2, .bool x3, .int .i64 x4] 51) ∧ w2.heap.size < W.heap.size)
      case atStart => exact ⟨0, by omega, rfl, by rw [show thsTo (thsOf xs) x0 0 = ⟨#[]⟩ from rfl, app_nilB]; exact DL.out, GV.out, QV.out, ZV.out⟩
      case round =>
        clear DL GV QV ZV
        obtain ⟨wq, hwq⟩ : ∃ W, W = wr := ⟨_, rfl⟩
        subst hwq
        obtain ⟨j, hj, rfl, hbd, hbel2, hq2, hz2⟩ := hrel
        have HJ := Lib.hid hj
        have HD2 := Lib.hid hbd
        have HB2 := Lib.hid hbel2
        have HQS2 := Lib.hid hq2
        have HZ2 := Lib.hid hz2
        clear hj hbd hbel2 hq2 hz2
        obtain ⟨o, ho⟩ : ∃ o, t ++ spLn (x0, x1, x2, x3, x4) u2 ++ thsTo (thsOf xs) x0 j = o := ⟨_, rfl⟩
        rw [ho] at HD2
        have hso : o.size ≤ 11200 := by
          have h1 := HLS2.out
          have h2 := HTS.out x0 j (by have := HJ.out; omega)
          rw [← ho, ByteArray.size_append]
          omega
        have HO := Lib.hid ho
        clear ho
        by_cases hjt : j < xs.length
        · obtain ⟨bt, ot, rfl, hct⟩ := HX5.out.2.resolve_left (by intro e; rw [e] at hjt; simp at hjt)
          have hjI : (j : Int) < (xs.length : Int) := by omega
          have hj0 : (0 : Int) ≤ (j : Int) := by omega
          have hjl : j < (thsOf xs).length := by rw [thsOf_len]; exact hjt
          have hth := HTB.out j hjl
          rw [thsOf_get xs j hjt] at hth
          have hokx := HK5.out xs[j] (List.getElem_mem hjt)
          have HYJ := Lib.hid (fun (e : xs[j].2.2.sp = x0) => thsTo_yes (T := thsOf xs) (sp := x0) hjl (by rw [thsOf_get xs j hjt]; exact e))
          have HNJ := Lib.hid (fun (e : ¬ xs[j].2.2.sp = x0) => thsTo_no (T := thsOf xs) (sp := x0) hjl (by rw [thsOf_get xs j hjt]; exact e))
          rw [thsOf_get xs j hjt] at HYJ
          obtain ⟨c0, c1, c2, c3, c4, c5, c6⟩ := cellsThing (HF.out _ (KB.out _ HB2.out)) hct j hjt
          obtain ⟨⟨xa, xc, tt⟩, hxj⟩ : ∃ x, xs[j] = x := ⟨_, rfl⟩
          rw [hxj] at hth hokx HYJ HNJ c0 c1 c2 c3 c4 c5 c6
          dsimp only at hth HYJ HNJ c0 c1 c2 c3 c4 c5 c6
          obtain ⟨w7, hw7⟩ : ∃ W, wq.alloc (.cells #[.string tt.sp, .string tt.nm, .int .i64 tt.uid, .int .i64 tt.rev, .bool tt.gone, .slice xa tt.marks.length xc, .string tt.body] 57) = W := ⟨_, rfl⟩
          have b7 : Below wq.heap.size wq w7 := by rw [← hw7]; exact below_alloc _ _
          have Q7 := Lib.hid (show w7.heap[wq.heap.size]? = some (Obj.cells #[.string tt.sp, .string tt.nm, .int .i64 tt.uid, .int .i64 tt.rev, .bool tt.gone, .slice xa tt.marks.length xc, .string tt.body] 57) by rw [← hw7]; exact heap_alloc_new wq _)
          have R7 := Lib.hid (show w7.heap[wo.heap.size]? = some (Obj.cells #[.string x0, .string x1, .int .i64 x2, .bool x3, .int .i64 x4] 51) from (b7.block _ (HOS.out _ HQS2.out).lt).trans HQS2.out)
          have B7 := Lib.hid (HB2.out.trans (b7.mono (by have := HZ2.out; omega)))
          have D7 := Lib.hid (bld_below2 b7 HD2.out)
          have Z7 := Lib.hid (show w2.heap.size < w7.heap.size from Nat.lt_of_lt_of_le HZ2.out b7.size)
          have HTC := Lib.hid (show ∀ W : World, W.heap[wq.heap.size]? = some (Obj.cells #[.string tt.sp, .string tt.nm, .int .i64 tt.uid, .int .i64 tt.rev, .bool tt.gone, .slice xa tt.marks.length xc, .string tt.body] 57) → W.cell? ⟨wq.heap.size, 0, none⟩ = some (.string tt.sp) ∧ W.cell? ⟨wq.heap.size, 1, none⟩ = some (.string tt.nm) ∧ W.cell? ⟨wq.heap.size, 2, none⟩ = some (.int .i64 tt.uid) ∧ W.cell? ⟨wq.heap.size, 3, none⟩ = some (.int .i64 tt.rev) ∧ W.cell? ⟨wq.heap.size, 4, none⟩ = some (.bool tt.gone) ∧ W.cell? ⟨wq.heap.size, 5, none⟩ = some (.slice xa tt.marks.length xc) ∧ W.cell? ⟨wq.heap.size, 6, none⟩ = some (.string tt.body) from fun W hq => by simp [World.cell?, hq])
          have HOT := Lib.hid (show ∀ W : World, W.heap[wq.heap.size]? = some (Obj.cells #[.string tt.sp, .string tt.nm, .int .i64 tt.uid, .int .i64 tt.rev, .bool tt.gone, .slice xa tt.marks.length xc, .string tt.body] 57) → OtherB W wq.heap.size from fun W hq => ⟨_, _, _, hq, by decide, by decide⟩)
          have KT := Lib.hid (show ∀ W, Below w2.heap.size w2 W → W.heap[wo.heap.size]? = some (Obj.cells #[.string x0, .string x1, .int .i64 x2, .bool x3, .int .i64 x4] 51) → W.heap[wq.heap.size]? = some (Obj.cells #[.string tt.sp, .string tt.nm, .int .i64 tt.uid, .int .i64 tt.rev, .bool tt.gone, .slice xa tt.marks.length xc, .string tt.body] 57) → Below w2.heap.size w2 W ∧ W.heap[wo.heap.size]? = some (Obj.cells #[.string x0, .string x1, .int .i64 x2, .bool x3, .int .i64 x4] 51) ∧ W.heap[wq.heap.size]? = some (Obj.cells #[.string tt.sp, .string tt.nm, .int .i64 tt.uid, .int .i64 tt.rev, .bool tt.gone, .slice xa tt.marks.length xc, .string tt.body] 57) ∧ W.cell? ⟨wq.heap.size, 0, none⟩ = some (.string tt.sp) ∧ W.cell? ⟨wq.heap.size, 1, none⟩ = some (.string tt.nm) ∧ W.cell? ⟨wq.heap.size, 2, none⟩ = some (.int .i64 tt.uid) ∧ W.cell? ⟨wq.heap.size, 3, none⟩ = some (.int .i64 tt.rev) ∧ W.cell? ⟨wq.heap.size, 4, none⟩ = some (.bool tt.gone) ∧ W.cell? ⟨wq.heap.size, 5, none⟩ = some (.slice xa tt.marks.length xc) ∧ W.cell? ⟨wq.heap.size, 6, none⟩ = some (.string tt.body) from fun W hb hq hq2 => ⟨hb, hq, hq2, HTC.out W hq2⟩)
          have hnm := thing_nm hth
          obtain ⟨tw, htw⟩ : ∃ s, twB tt = s := ⟨_, rfl⟩
          have stw : tw.size ≤ 110 := by rw [← htw]; exact twB_le _
          have HTW := Lib.hid (fun W (hb : Below w.heap.size w W) => implThW_any xa xc tt W (hokx.1.1.below hb) hokx.1.2 hokx.2.1 hokx.2.2 (tab_below HP.out hb))
          rw [htw] at HTW
          obtain ⟨t0, t1, t2, t3, t4, t5, t6⟩ := HTC.out _ Q7.out
          obtain ⟨s0, -⟩ := HSC.out _ R7.out
          obtain ⟨-, -, -, -, -, y5, -⟩ := KS.out _ (KB.out _ HB2.out)
          clear hct hokx hxj b7 HD2
          by_cases e : tt.sp = x0
          · have q1 : (tt.sp.toList == x0.toList) = true := by rw [e]; simp
            have HE := Lib.hid (show t ++ spLn (x0, x1, x2, x3, x4) u2 ++ thsTo (thsOf xs) x0 (j + 1) = o ++ (⟨#[32, 32]⟩ ++ tt.nm ++ ⟨#[32]⟩ ++ tw ++ ⟨#[10]⟩) by
              rw [HYJ.out e, ← ByteArray.append_assoc, HO.out]
              unfold thLn
              rw [htw])
            clear htw hth e
            have f1 : ¬ 9223372036854775807 < 2 + tt.nm.size := by omega
            have f2 : ¬ 9223372036854775807 < 2 + tt.nm.size + 1 := by omega
            have f3 : ¬ 9223372036854775807 < 2 + tt.nm.size + 1 + tw.size := by omega
            have f4 : ¬ 9223372036854775807 < 2 + tt.nm.size + 1 + tw.size + 1 := by omega
            have hln : (⟨#[32, 32]⟩ ++ tt.nm ++ ⟨#[32]⟩ ++ tw ++ ⟨#[10]⟩ : ByteArray).size ≤ 120 := by
              simp only [ByteArray.size_append]
              show 2 + tt.nm.size + 1 + tw.size + 1 ≤ 120
              omega
            have hbl : (Lib.byteCells o.data.toList).length ≤ 11200 := by rw [Lib.byteCells_length]; simpa using hso
            obtain ⟨ln, hlnq⟩ : ∃ s, (⟨#[32, 32]⟩ ++ tt.nm ++ ⟨#[32]⟩ ++ tw ++ ⟨#[10]⟩ : ByteArray) = s := ⟨_, rfl⟩
            rw [hlnq] at hln
            have hws : (Lib.byteCells o.data.toList).length + ln.size ≤ 1099511627776 := by omega
            have HWR := Lib.hid (fun W (h : Lib.IsBuilder BldT 5 w2.heap.size w2.heap.size (Lib.byteCells o.data.toList) W) (hz : w2.heap.size ≤ W.heap.size) => writeT_any w2.heap.size w2.heap.size (Lib.byteCells o.data.toList) ln W h hws hz)
            rw [← hlnq] at HWR
            clear hlnq hln hbl hws
            go_wp2_with fail
            clear c0 c1 c2 c3 c4 c5 c6 hw7 t0 t1 t2 t3 t4 t5 t6 s0 y5
            go_region_held3 (fun W => Below w2.heap.size w2 W ∧ W.heap[wo.heap.size]? = some (Obj.cells #[.string x0, .string x1, .int .i64 x2, .bool x3, .int .i64 x4] 51) ∧ W.heap[wq.heap.size]? = some (Obj.cells #[.string tt.sp, .string tt.nm, .int .i64 tt.uid, .int .i64 tt.rev, .bool tt.gone, .slice xa tt.marks.length xc, .string tt.body] 57) ∧ W.cell? ⟨wq.heap.size, 0, none⟩ = some (.string tt.sp) ∧ W.cell? ⟨wq.heap.size, 1, none⟩ = some (.string tt.nm) ∧ W.cell? ⟨wq.heap.size, 2, none⟩ = some (.int .i64 tt.uid) ∧ W.cell? ⟨wq.heap.size, 3, none⟩ = some (.int .i64 tt.rev) ∧ W.cell? ⟨wq.heap.size, 4, none⟩ = some (.bool tt.gone) ∧ W.cell? ⟨wq.heap.size, 5, none⟩ = some (.slice xa tt.marks.length xc) ∧ W.cell? ⟨wq.heap.size, 6, none⟩ = some (.string tt.body))
              (first | exact KT.out _ GB.out RB.out QB.out | exact KT.out _ GA.out RA.out QA.out | exact KT.out _ (B7.out.drew) R7.out Q7.out)
              (first
                | (have gA := GA; go_at_call 29; refine (HWR.out _ DA.out (Nat.le_of_lt ZA.out)).mono ?_; rintro e wB ⟨rfl, dB, bB, qB⟩; have GB := Lib.hid (GA.out.trans bB); have QB := Lib.hid ((qB _ (HOT.out _ QA.out)).trans QA.out); have RB := Lib.hid ((qB _ (HOS.out _ RA.out)).trans RA.out); have DB := Lib.hid dB; have ZB := Lib.hid (Nat.lt_of_lt_of_le ZA.out bB.size))
                | (go_at_call 32; refine (HTW.out _ (HF.out _ (KB.out _ (B7.out.drew)))).mono ?_; rintro e wA ⟨rfl, bA⟩; have GA := Lib.hid ((B7.out.drew).trans (bA.mono B7.out.size)); have QA := Lib.hid ((bA.block _ (HOT.out _ Q7.out).lt).trans Q7.out); have RA := Lib.hid ((bA.block _ (HOS.out _ R7.out).lt).trans R7.out); have DA := Lib.hid (bld_below2 bA (bld_below2 ((Below.refl _ _).drew) D7.out)); have ZA := Lib.hid (Nat.lt_of_lt_of_le Z7.out bA.size)))
            have DV := Lib.hid (show Lib.IsBuilder BldT 5 w2.heap.size w2.heap.size (Lib.byteCells (t ++ spLn (x0, x1, x2, x3, x4) u2 ++ thsTo (thsOf xs) x0 (j + 1)).data.toList) wB by
              rw [HE.out, str_bytes]
              exact .inr DB.out)
            have GV := Lib.hid GB.out
            have RV := Lib.hid RB.out
            have ZV := Lib.hid ZB.out
            clear GA QA RA DA ZA GB QB RB DB ZB gA bA dB bB qB
            go_wp2
            go_roundg (gk - 1)
            case measure => have := HJ.out; omega
            case rel => exact ⟨j + 1, by have := HJ.out; omega, by go_num, DV.out, GV.out, RV.out, ZV.out⟩
          · have q1 : (tt.sp.toList == x0.toList) = false := by
              rw [beq_eq_false_iff_ne]
              exact fun e2 => e (toList_inj e2)
            have HE := Lib.hid (show t ++ spLn (x0, x1, x2, x3, x4) u2 ++ thsTo (thsOf xs) x0 (j + 1) = o by rw [HNJ.out e, HO.out])
            clear htw hth e HTW
            go_wp2
            go_roundg (gk - 1)
            case measure => have := HJ.out; omega
            case rel => exact ⟨j + 1, by have := HJ.out; omega, by go_num, by rw [HE.out]; exact D7.out, B7.out, R7.out, Z7.out⟩
        · have HE := Lib.hid (show bdTo rev S U (thsOf xs) (k + 1) = o by
            have h1 : j = (thsOf xs).length := by rw [thsOf_len]; have := HJ.out; omega
            rw [HN1.out, ← h1, HO.out])
          have hjI : ¬ (j : Int) < (xs.length : Int) := by omega
          go_wp2
          go_roundg (S.length - k - 1)
          case measure => have := HKQ.out; omega
          case rel => exact ⟨k + 1, by have := HKQ.out; omega, by go_num, by rw [HE.out]; exact HD2.out, HB2.out, HZ2.out⟩
    · have hkS : k = S.length := by have := HKQ.out; omega
      have HE := Lib.hid (show boardB ⟨rev, uid, flo, S, U, thsOf xs, P⟩ = t by rw [HN.out]; show bdTo rev S U (thsOf xs) S.length = t; rw [← hkS, ht])
      have hkI : ¬ (k : Int) < (S.length : Int) := by omega
      have hzo : w2.heap.size ≤ wo.heap.size := Nat.le_of_lt HZ.out
      have c8 := Tryz.Builder_String_any w2.heap.size w2.heap.size t.data.toList wo HD.out hzo
      have C8 := Lib.hid c8
      clear ht hkS c8 hzo
      go_wp2_with fail
      refine C8.out.mono ?_
      rintro e w9 ⟨rfl, b9⟩
      go_wp2
      go_ret
      exact ⟨by rw [HE.out]; rfl, HF.out _ (KB.out _ (HB.out.trans b9))⟩
end Go.Proofs.YtbioljpjpflboaaGreatDoor
