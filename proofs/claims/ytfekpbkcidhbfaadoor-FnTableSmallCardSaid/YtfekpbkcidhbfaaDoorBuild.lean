import Derived.Test.YtfekpbkcidhbfaaDoorProg
import Derived.Test.YtfekpbkcidhbfaaDoorBase
import Derived.Lib.Builder
import Derived.Lib.AppendStr
import Derived.Laws.OwnMore
import Derived.OwnWalk
import Derived.Handy
/- strings.Builder: what its writers do (the shelf's own contracts for them are not laid where abi.NoEscape is taken in place). -/
namespace Go.Proofs.YtfekpbkcidhbfaaDoor
open Go Go.RowKit

abbrev BldT : TypeId := 43
theorem infoBld : (Tryd.prog.info? 43).map (fun i => (i.zero, i.size, i.bytes)) = some (some (.agg #[.pointer none, .slice none 0 0]), 2, 32) := by kernel_rfl

set_option maxRecDepth 100000 in
set_option maxHeartbeats 400000 in
theorem check_any (B b : Nat) (bs : List Value) (w : World) (h : Lib.IsBuilder BldT 5 B b bs w) :
    Calls Tryd.prog 33 #[.pointer (some ⟨b, 0, none⟩)] w fun e w' => e = .returned (.tuple #[]) ∧ Lib.BuilderAt BldT 5 B b (.pointer (some ⟨b, 0, none⟩)) bs w' ∧ Below B w w' := by
  obtain ⟨j, hj, hj0, hj1, hj2⟩ := info_parts infoBld
  rcases h with h | h
  · have x0 := h.cell0
    have f0 := h.frozen0
    have hto := Lib.run_to_unsafe (P := Tryd.prog) w ⟨b, 0, none⟩ Tryd.underlying41 Tryd.underlying81 hj (by rw [hj1]; decide) h.shape (Nat.zero_lt_succ 1)
    have hfrom := Lib.run_from_unsafe (P := Tryd.prog) w ⟨b, 0, none⟩ Tryd.underlying81 Tryd.underlying41 hj h.shape (by kernel_rfl)
    have HH := Lib.hid h
    clear h
    go_enter Tryd.func33, Tryd.ntmps33
    go_wp2
    rw [run_callFunc_extern Tryd.func51 (by kernel_rfl) (by kernel_rfl) (by kernel_rfl) (e := Extern.AbiNoEscape.same) (by kernel_rfl), Lib.run_noEscape]
    simp only [Result.andThen]
    rw [Oper.upon_value]
    go_wp2
    go_returns
    exact ⟨rfl, HH.out.used _, (Below.refl B w).setCell (p := ⟨b, 0, none⟩) HH.out.1 _⟩
  · have x0 := h.cell0
    have hne := Lib.run_neq_ptr_same (P := Tryd.prog) w ⟨b, 0, none⟩ Tryd.underlying41 hj
    have HH := Lib.hid h
    clear h
    go_enter Tryd.func33, Tryd.ntmps33
    go_wp2
    go_returns
    exact ⟨rfl, HH.out, Below.refl _ _⟩

theorem own_shp {w : World} {base : Nat} {e : TypeId} {size : Nat} {v : Value} {n : Nat} {xs : List Value} (h : w.ownsRow base e size v n xs) : ∃ a c, v = .slice a n c := by
  rcases h.2 with ⟨hv, hn⟩ | ⟨g, cap, cur, hv, _⟩
  · exact ⟨none, 0, by rw [hv, hn]⟩
  · exact ⟨_, _, hv⟩
theorem cells_one (w : World) (x : Value) (e : TypeId) : ∀ j u, [x][j]? = some u → (w.alloc (.cells #[x] e)).cell? ((⟨w.heap.size, 0, none⟩ : Addr).add j) = some u := by
  intro j u hj
  match j, hj with
  | 0, hj => simp at hj; subst hj; simp [Addr.add]
theorem infoU8b : (Tryd.prog.info? 5).map (fun i => (i.zero, i.size, i.bytes)) = some (some (.int .u8 0), 1, 1) := by kernel_rfl

set_option maxRecDepth 100000 in
set_option maxHeartbeats 800000 in
theorem writeByte_any (B b : Nat) (bs : List Value) (c : Int) (w : World) (h : Lib.IsBuilder BldT 5 B b bs w) (hl : bs.length ≤ 1099511627776) (hB : B ≤ w.heap.size) :
    Calls Tryd.prog 35 #[.pointer (some ⟨b, 0, none⟩), .int .u8 c] w fun e w' => e = .returned .nilIface ∧ Lib.BuilderAt BldT 5 B b (.pointer (some ⟨b, 0, none⟩)) (bs ++ [.int .u8 c]) w' ∧ Below B w w' := by
  obtain ⟨i0, hi, hz0, hz1, hz2⟩ := info_parts infoU8b
  go_enter Tryd.func35, Tryd.ntmps35
  go_wp2_with fail
  refine (check_any B b bs _ h).mono ?_
  rintro e w1 ⟨rfl, ⟨hBb, v, hbk, hown, hne⟩, b1⟩
  have x0 : w1.cell? ⟨b, 0, none⟩ = some (.pointer (some ⟨b, 0, none⟩)) := by simp [World.cell?, hbk]
  have x1 : w1.cell? ⟨b, 1, none⟩ = some v := by simp [World.cell?, hbk]
  have lb : b < w1.heap.size := (Array.getElem?_eq_some_iff.1 hbk).1
  have HK := Lib.hid hbk
  have HO := Lib.hid hown
  have HN := Lib.hid hne
  have z1 := b1.size
  clear hbk hown hne
  go_wp2_with (at_builtin; refine wpList_append_own _ rfl _ _ 29 rfl B 5 i0 (.int .u8 0) 1 1 Tryd.underlying29 hi hz0 hz1 hz2 rfl (by decide) v bs.length bs rfl (HO.out.alloc _) ⟨w1.heap.size, 0, none⟩ 1 1 [.int .u8 c] rfl rfl (cells_one _ _ _) (fun u hu => by simp at hu; subst hu; rfl) (by unfold maxLen; omega) (by omega) (by simp; omega) ?_; intro v2 w2 o2 g2 _; have HK2 : w2.heap[b]? = some (.cells #[.pointer (some ⟨b, 0, none⟩), v] BldT (0, 0)) := (g2.block b (by simp; omega) (fun e => HN.out e.symm)).trans ((Lib.alloc_old w1 _ b lb).trans HK.out); have y0 : w2.cell? ⟨b, 0, none⟩ = some (.pointer (some ⟨b, 0, none⟩)) := (by simp [World.cell?, HK2]); have y1 : w2.cell? ⟨b, 1, none⟩ = some v := (by simp [World.cell?, HK2]); have fy : w2.frozen? ⟨b, 1, none⟩ = false := (by simp [World.frozen?, HK2]); have O2 := Lib.hid o2; have B2 : Below B w w2 := (b1.alloc (by omega) _).grown g2 (by simp; omega) (fun k hk => (HO.out.lt k hk).1); have HK3 := Lib.hid HK2; obtain ⟨a2, c2, rfl⟩ := own_shp o2; clear o2 g2 HK2)
  go_ret
  exact ⟨rfl, Lib.BuilderAt.put hBb HK3.out (bs' := bs ++ [.int .u8 c]) (by simpa using O2.out) (by decide), B2.setCell (p := ⟨b, 1, none⟩) hBb _⟩

set_option maxRecDepth 100000 in
set_option maxHeartbeats 800000 in
theorem writeStr_any (B b : Nat) (bs : List Value) (s : ByteArray) (w : World) (h : Lib.IsBuilder BldT 5 B b bs w) (hl : bs.length + s.size ≤ 1099511627776) (hB : B ≤ w.heap.size) :
    Calls Tryd.prog 17 #[.pointer (some ⟨b, 0, none⟩), .string s] w fun e w' => e = .returned (.tuple #[.int .i64 s.size, .nilIface]) ∧ Lib.BuilderAt BldT 5 B b (.pointer (some ⟨b, 0, none⟩)) (bs ++ Lib.strCells s) w' ∧ Below B w w' := by
  obtain ⟨i0, hi, hz0, hz1, hz2⟩ := info_parts infoU8b
  go_enter Tryd.func17, Tryd.ntmps17
  go_wp2_with fail
  refine (check_any B b bs _ h).mono ?_
  rintro e w1 ⟨rfl, ⟨hBb, v, hbk, hown, hne⟩, b1⟩
  have x0 : w1.cell? ⟨b, 0, none⟩ = some (.pointer (some ⟨b, 0, none⟩)) := by simp [World.cell?, hbk]
  have x1 : w1.cell? ⟨b, 1, none⟩ = some v := by simp [World.cell?, hbk]
  have lb : b < w1.heap.size := (Array.getElem?_eq_some_iff.1 hbk).1
  have HK := Lib.hid hbk
  have HO := Lib.hid hown
  have HN := Lib.hid hne
  have z1 := b1.size
  clear hbk hown hne
  go_wp2_with (at_builtin; refine Lib.wpList_append_own_string _ rfl _ _ 29 9 rfl B 5 i0 Tryd.underlying29 Tryd.underlying9 hi hz0 hz1 hz2 v bs.length bs rfl HO.out s rfl (by unfold maxLen; omega) (by omega) (by omega) ?_; intro v2 w2 o2 g2 _; have HK2 : w2.heap[b]? = some (.cells #[.pointer (some ⟨b, 0, none⟩), v] BldT (0, 0)) := (g2.block b lb (fun e => HN.out e.symm)).trans HK.out; have y0 : w2.cell? ⟨b, 0, none⟩ = some (.pointer (some ⟨b, 0, none⟩)) := (by simp [World.cell?, HK2]); have y1 : w2.cell? ⟨b, 1, none⟩ = some v := (by simp [World.cell?, HK2]); have fy : w2.frozen? ⟨b, 1, none⟩ = false := (by simp [World.frozen?, HK2]); have O2 := Lib.hid o2; have B2 : Below B w w2 := b1.grown g2 (by omega) (fun k hk => (HO.out.lt k hk).1); have HK3 := Lib.hid HK2; obtain ⟨a2, c2, rfl⟩ := own_shp o2; clear o2 g2 HK2)
  go_ret2
  exact ⟨rfl, Lib.BuilderAt.put hBb HK3.out (bs' := bs ++ Lib.strCells s) (by simpa [Lib.strCells_length] using O2.out) (by decide), B2.setCell (p := ⟨b, 1, none⟩) hBb _⟩
end Go.Proofs.YtfekpbkcidhbfaaDoor
