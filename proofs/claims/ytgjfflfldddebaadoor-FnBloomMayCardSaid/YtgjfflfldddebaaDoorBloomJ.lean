import Derived.Test.YtgjfflfldddebaaDoorBloomM
import Derived.Deep.MidRow
/- Bits of keys, of the program: BloomMake, bloomRead, BloomMay. -/
namespace Go.Proofs.YtgjfflfldddebaaDoor
open Go Go.RowKit

/-- figures read so far -/
def rdV (s : ByteArray) (k : Nat) : List Value := (List.range 16).map fun i => .int .u8 (if i < k then vN s i else 0 : Nat)
theorem rdV_next (s : ByteArray) {k : Nat} (h : k < 16) : (rdV s k).set k (.int .u8 (vN s k : Nat)) = rdV s (k + 1) := by
  apply List.ext_getElem?
  intro i
  by_cases hi : i < 16
  · by_cases e : i = k
    · subst e
      rw [List.getElem?_set_self (by simp [rdV]; exact hi)]
      simp [rdV, hi]
    · rw [List.getElem?_set_ne (fun q => e q.symm)]
      have : (i < k + 1) = (i < k) := by apply propext; omega
      simp [rdV, hi, this]
  · rw [List.getElem?_eq_none (by simp [rdV]; omega), List.getElem?_eq_none (by simp [rdV]; omega)]
theorem rdV16 (s : ByteArray) {i : Nat} (h : i < 16) : (rdV s 16)[i]? = some (.int .u8 (vN s i : Nat)) := by simp [rdV, h]
theorem rdV_len (s : ByteArray) (k : Nat) : (rdV s k).length = 16 := by simp [rdV]
theorem rdV_one (s : ByteArray) (k : Nat) : ∀ v ∈ rdV s k, v.oneCell' = true := fun v hv => by
  obtain ⟨x, _, rfl⟩ := List.mem_map.1 hv
  rfl
theorem box_there {w : World} {b : Nat} {cs ds : List Value} (h : Box w b cs) (hl : ds.length = cs.length) : w.there b 0 ds.toArray.size := fun j hj => by
  have hj2 : j < cs.length := by rw [List.size_toArray] at hj; omega
  have h2 := h j cs[j] (List.getElem?_eq_getElem hj2)
  rw [Nat.zero_add]
  exact ⟨by rw [h2.1]; rfl, h2.2⟩
theorem results_two {P : Program} {fn : Func} {a b : Tmp} {t : TypeId} (h : fn.results = #[.cell a t, .tmp b]) (tmps : Array Value) (w : World) (B : Nat) (hx : tmps.getD a undef = .pointer (some ⟨B, 0, none⟩)) (v u : Value)
    (hu : tmps.getD b undef = u) (hl : (loadVar t ⟨B, 0, none⟩).run P w = .ok v w) : (results fn tmps).run P w = .ok (.tuple #[v, u]) w := by
  have hx2 : tmps[a]?.getD undef = .pointer (some ⟨B, 0, none⟩) := by simpa using hx
  have hu2 : tmps[b]?.getD undef = u := by simpa using hu
  simp [results, h, hx2, hu2, asAddr, hl]
theorem below_cellsJ {B g : Nat} {a : World} (hb : B ≤ g) : ∀ (vs : List Value) (o : Nat) (w : World), Below B a w → Below B a (w.setCells g o vs)
  | [], _, _, h => h
  | v :: r, o, w, h => below_cellsJ hb r (o + 1) _ (h.setCell (by exact hb) v)
theorem bloomSize (s : ByteArray) (k : Nat) : (Tryd.prog.info? 60).map (·.size) = some (rdV s k).toArray.size := by
  rw [List.size_toArray, rdV_len]; kernel_rfl
theorem bloomSizeL (s : ByteArray) (k : Nat) : (Tryd.prog.info? 60).map (·.size) = some (rdV s k).length := by
  rw [rdV_len]; kernel_rfl
theorem load9 {W : World} {B k : Nat} {s : ByteArray} (h : W.rangeAt B 0 (rdV s k)) : (loadVar 60 ⟨B, 0, none⟩).run Tryd.prog W = .ok (.agg (rdV s k).toArray) W :=
  run_loadVar_mid W B 0 _ (rdV s k) _ h Tryd.underlying60 rfl (bloomSizeL s k)
theorem below_s {B b i : Nat} {a w : World} {v : Value} (h : Below B a w) (hb : B ≤ b) : Below B a (w.setCell ⟨b, i, none⟩ v) := h.setCell (by exact hb) v
set_option maxRecDepth 100000 in
theorem store16 {W : World} {b : Nat} {cs : List Value} (hc : cs.length = 16) (h : Box W b cs) (v0 v1 v2 v3 v4 v5 v6 v7 v8 v9 v10 v11 v12 v13 v14 v15 : Value) :
    Box ((((((((((((((((W.setCell ⟨b, 0, none⟩ v0).setCell ⟨b, 1, none⟩ v1).setCell ⟨b, 2, none⟩ v2).setCell ⟨b, 3, none⟩ v3).setCell ⟨b, 4, none⟩ v4).setCell ⟨b, 5, none⟩ v5).setCell ⟨b, 6, none⟩ v6).setCell ⟨b, 7, none⟩ v7).setCell ⟨b, 8, none⟩ v8).setCell ⟨b, 9, none⟩ v9).setCell ⟨b, 10, none⟩ v10).setCell ⟨b, 11, none⟩ v11).setCell ⟨b, 12, none⟩ v12).setCell ⟨b, 13, none⟩ v13).setCell ⟨b, 14, none⟩ v14).setCell ⟨b, 15, none⟩ v15) b [v0, v1, v2, v3, v4, v5, v6, v7, v8, v9, v10, v11, v12, v13, v14, v15] ∧ ∀ B a, Below B a W → B ≤ b → Below B a ((((((((((((((((W.setCell ⟨b, 0, none⟩ v0).setCell ⟨b, 1, none⟩ v1).setCell ⟨b, 2, none⟩ v2).setCell ⟨b, 3, none⟩ v3).setCell ⟨b, 4, none⟩ v4).setCell ⟨b, 5, none⟩ v5).setCell ⟨b, 6, none⟩ v6).setCell ⟨b, 7, none⟩ v7).setCell ⟨b, 8, none⟩ v8).setCell ⟨b, 9, none⟩ v9).setCell ⟨b, 10, none⟩ v10).setCell ⟨b, 11, none⟩ v11).setCell ⟨b, 12, none⟩ v12).setCell ⟨b, 13, none⟩ v13).setCell ⟨b, 14, none⟩ v14).setCell ⟨b, 15, none⟩ v15) := by
  match cs, hc with
  | [_, _, _, _, _, _, _, _, _, _, _, _, _, _, _, _], _ =>
    exact ⟨(Box.setI (Box.setI (Box.setI (Box.setI (Box.setI (Box.setI (Box.setI (Box.setI (Box.setI (Box.setI (Box.setI (Box.setI (Box.setI (Box.setI (Box.setI (Box.setI h 0 v0) 1 v1) 2 v2) 3 v3) 4 v4) 5 v5) 6 v6) 7 v7) 8 v8) 9 v9) 10 v10) 11 v11) 12 v12) 13 v13) 14 v14) 15 v15), fun B a hB hb => (below_s (below_s (below_s (below_s (below_s (below_s (below_s (below_s (below_s (below_s (below_s (below_s (below_s (below_s (below_s (below_s hB hb) hb) hb) hb) hb) hb) hb) hb) hb) hb) hb) hb) hb) hb) hb) hb)⟩
def zeroA : Array Value := #[.int .u8 0, .int .u8 0, .int .u8 0, .int .u8 0, .int .u8 0, .int .u8 0, .int .u8 0, .int .u8 0, .int .u8 0, .int .u8 0, .int .u8 0, .int .u8 0, .int .u8 0, .int .u8 0, .int .u8 0, .int .u8 0]
def RdOut (s : ByteArray) (w : World) (e : Ending) (w' : World) : Prop := Below w.heap.size w w' ∧ ((decide (s.size = 16) && figOk s) = true ∧ FigB s ∧ e = .returned (.tuple #[.agg (rdV s 16).toArray, .bool true]) ∨ (decide (s.size = 16) && figOk s) = false ∧ e = .returned (.tuple #[.agg zeroA, .bool false]))
set_option maxRecDepth 100000 in
set_option maxHeartbeats 8000000 in
theorem bloomRead_no (s : ByteArray) (w : World) (hs : ¬ s.size = 16) : Calls Tryd.prog 43 #[.string s] w (RdOut s w) := by
  obtain ⟨w1, h1⟩ : ∃ w1, w.alloc (.cells #[.int .u8 0, .int .u8 0, .int .u8 0, .int .u8 0, .int .u8 0, .int .u8 0, .int .u8 0, .int .u8 0, .int .u8 0, .int .u8 0, .int .u8 0, .int .u8 0, .int .u8 0, .int .u8 0, .int .u8 0, .int .u8 0] 60) = w1 := ⟨_, rfl⟩
  obtain ⟨w2, h2⟩ : ∃ w2, w1.alloc (.cells #[.int .u8 0, .int .u8 0, .int .u8 0, .int .u8 0, .int .u8 0, .int .u8 0, .int .u8 0, .int .u8 0, .int .u8 0, .int .u8 0, .int .u8 0, .int .u8 0, .int .u8 0, .int .u8 0, .int .u8 0, .int .u8 0] 60) = w2 := ⟨_, rfl⟩
  have z1 : w1.heap.size = w.heap.size + 1 := by rw [← h1, World.size_alloc]
  have RB := Lib.hid (show Box w2 w.heap.size (rdV s 0) by
    have h : Box w1 w.heap.size (rdV s 0) := by rw [← h1]; exact Box.alloc w #[.int .u8 0, .int .u8 0, .int .u8 0, .int .u8 0, .int .u8 0, .int .u8 0, .int .u8 0, .int .u8 0, .int .u8 0, .int .u8 0, .int .u8 0, .int .u8 0, .int .u8 0, .int .u8 0, .int .u8 0, .int .u8 0] 60
    rw [← h2]; exact h.below (below_alloc w1 _))
  have SB := Lib.hid (show Box w2 (w.heap.size + 1) (rdV s 0) by
    have h : Box w2 w1.heap.size (rdV s 0) := by rw [← h2]; exact Box.alloc w1 #[.int .u8 0, .int .u8 0, .int .u8 0, .int .u8 0, .int .u8 0, .int .u8 0, .int .u8 0, .int .u8 0, .int .u8 0, .int .u8 0, .int .u8 0, .int .u8 0, .int .u8 0, .int .u8 0, .int .u8 0, .int .u8 0] 60
    rwa [z1] at h)
  have B2 := Lib.hid (show Below w.heap.size w w2 by rw [← h2, ← h1]; exact (below_alloc w _).trans ((below_alloc _ _).mono (by rw [World.size_alloc]; omega)))
  have hsI : ((s.size : Int) != 16) = true := by rw [bne_iff_ne]; omega
  have hsJ : ((s.size : Int) == 16) = false := by rw [beq_eq_false_iff_ne]; omega
  have hsL : (s.size == 16) = false := by rw [beq_eq_false_iff_ne]; exact hs
  have hsK : ¬ (s.size : Int) = 16 := by omega
  have HR := Lib.hid (show (decide (s.size = 16) && figOk s) = false by rw [decide_eq_false hs]; rfl)
  have RB2 := RB.out
  obtain ⟨⟨r0, f0⟩, ⟨r1, f1⟩, ⟨r2, f2⟩, ⟨r3, f3⟩, ⟨r4, f4⟩, ⟨r5, f5⟩, ⟨r6, f6⟩, ⟨r7, f7⟩, ⟨r8, f8⟩, ⟨r9, f9⟩, ⟨r10, f10⟩, ⟨r11, f11⟩, ⟨r12, f12⟩, ⟨r13, f13⟩, ⟨r14, f14⟩, r15, f15⟩ := show _ ∧ _ ∧ _ ∧ _ ∧ _ ∧ _ ∧ _ ∧ _ ∧ _ ∧ _ ∧ _ ∧ _ ∧ _ ∧ _ ∧ _ ∧ _ from ⟨RB2 0 (.int .u8 (0 : Nat)) rfl, RB2 1 (.int .u8 (0 : Nat)) rfl, RB2 2 (.int .u8 (0 : Nat)) rfl, RB2 3 (.int .u8 (0 : Nat)) rfl, RB2 4 (.int .u8 (0 : Nat)) rfl, RB2 5 (.int .u8 (0 : Nat)) rfl, RB2 6 (.int .u8 (0 : Nat)) rfl, RB2 7 (.int .u8 (0 : Nat)) rfl, RB2 8 (.int .u8 (0 : Nat)) rfl, RB2 9 (.int .u8 (0 : Nat)) rfl, RB2 10 (.int .u8 (0 : Nat)) rfl, RB2 11 (.int .u8 (0 : Nat)) rfl, RB2 12 (.int .u8 (0 : Nat)) rfl, RB2 13 (.int .u8 (0 : Nat)) rfl, RB2 14 (.int .u8 (0 : Nat)) rfl, RB2 15 (.int .u8 (0 : Nat)) rfl⟩
  have RBF := Lib.hid RB2
  clear hs RB2 SB
  go_enter Tryd.func43, Tryd.ntmps43
  go_wp2
  obtain ⟨W, hW⟩ : ∃ W, ((((((((((((((((w2.setCell ⟨w.heap.size, 0, none⟩ (.int .u8 0)).setCell ⟨w.heap.size, 1, none⟩ (.int .u8 0)).setCell ⟨w.heap.size, 2, none⟩ (.int .u8 0)).setCell ⟨w.heap.size, 3, none⟩ (.int .u8 0)).setCell ⟨w.heap.size, 4, none⟩ (.int .u8 0)).setCell ⟨w.heap.size, 5, none⟩ (.int .u8 0)).setCell ⟨w.heap.size, 6, none⟩ (.int .u8 0)).setCell ⟨w.heap.size, 7, none⟩ (.int .u8 0)).setCell ⟨w.heap.size, 8, none⟩ (.int .u8 0)).setCell ⟨w.heap.size, 9, none⟩ (.int .u8 0)).setCell ⟨w.heap.size, 10, none⟩ (.int .u8 0)).setCell ⟨w.heap.size, 11, none⟩ (.int .u8 0)).setCell ⟨w.heap.size, 12, none⟩ (.int .u8 0)).setCell ⟨w.heap.size, 13, none⟩ (.int .u8 0)).setCell ⟨w.heap.size, 14, none⟩ (.int .u8 0)).setCell ⟨w.heap.size, 15, none⟩ (.int .u8 0)) = W := ⟨_, rfl⟩
  obtain ⟨hb1, hb2⟩ := store16 (b := w.heap.size) (rdV_len s 0) RBF.out (.int .u8 0) (.int .u8 0) (.int .u8 0) (.int .u8 0) (.int .u8 0) (.int .u8 0) (.int .u8 0) (.int .u8 0) (.int .u8 0) (.int .u8 0) (.int .u8 0) (.int .u8 0) (.int .u8 0) (.int .u8 0) (.int .u8 0) (.int .u8 0)
  rw [hW] at hb1 hb2 ⊢
  obtain ⟨⟨e0, _⟩, ⟨e1, _⟩, ⟨e2, _⟩, ⟨e3, _⟩, ⟨e4, _⟩, ⟨e5, _⟩, ⟨e6, _⟩, ⟨e7, _⟩, ⟨e8, _⟩, ⟨e9, _⟩, ⟨e10, _⟩, ⟨e11, _⟩, ⟨e12, _⟩, ⟨e13, _⟩, ⟨e14, _⟩, e15, _⟩ := show _ ∧ _ ∧ _ ∧ _ ∧ _ ∧ _ ∧ _ ∧ _ ∧ _ ∧ _ ∧ _ ∧ _ ∧ _ ∧ _ ∧ _ ∧ _ from ⟨hb1 0 _ rfl, hb1 1 _ rfl, hb1 2 _ rfl, hb1 3 _ rfl, hb1 4 _ rfl, hb1 5 _ rfl, hb1 6 _ rfl, hb1 7 _ rfl, hb1 8 _ rfl, hb1 9 _ rfl, hb1 10 _ rfl, hb1 11 _ rfl, hb1 12 _ rfl, hb1 13 _ rfl, hb1 14 _ rfl, hb1 15 _ rfl⟩
  clear hW hb1
  exact bodyPost_ret (v := .tuple #[.agg zeroA, .bool false]) (by simp [results, Tryd.results43, go_sem, zeroA, e0, e1, e2, e3, e4, e5, e6, e7, e8, e9, e10, e11, e12, e13, e14, e15]) rfl ⟨hb2 _ _ B2.out (Nat.le_refl _), .inr ⟨HR.out, rfl⟩⟩
set_option maxRecDepth 100000 in
set_option maxHeartbeats 8000000 in
theorem bloomRead_any (s : ByteArray) (w : World) : Calls Tryd.prog 43 #[.string s] w (RdOut s w) := by
  by_cases hs : s.size = 16
  rotate_left
  · exact bloomRead_no s w hs
  obtain ⟨w1, h1⟩ : ∃ w1, w.alloc (.cells #[.int .u8 0, .int .u8 0, .int .u8 0, .int .u8 0, .int .u8 0, .int .u8 0, .int .u8 0, .int .u8 0, .int .u8 0, .int .u8 0, .int .u8 0, .int .u8 0, .int .u8 0, .int .u8 0, .int .u8 0, .int .u8 0] 60) = w1 := ⟨_, rfl⟩
  obtain ⟨w2, h2⟩ : ∃ w2, w1.alloc (.cells #[.int .u8 0, .int .u8 0, .int .u8 0, .int .u8 0, .int .u8 0, .int .u8 0, .int .u8 0, .int .u8 0, .int .u8 0, .int .u8 0, .int .u8 0, .int .u8 0, .int .u8 0, .int .u8 0, .int .u8 0, .int .u8 0] 60) = w2 := ⟨_, rfl⟩
  have z1 : w1.heap.size = w.heap.size + 1 := by rw [← h1, World.size_alloc]
  have RB := Lib.hid (show Box w2 w.heap.size (rdV s 0) by
    have h : Box w1 w.heap.size (rdV s 0) := by rw [← h1]; exact Box.alloc w #[.int .u8 0, .int .u8 0, .int .u8 0, .int .u8 0, .int .u8 0, .int .u8 0, .int .u8 0, .int .u8 0, .int .u8 0, .int .u8 0, .int .u8 0, .int .u8 0, .int .u8 0, .int .u8 0, .int .u8 0, .int .u8 0] 60
    rw [← h2]; exact h.below (below_alloc w1 _))
  have SB := Lib.hid (show Box w2 (w.heap.size + 1) (rdV s 0) by
    have h : Box w2 w1.heap.size (rdV s 0) := by rw [← h2]; exact Box.alloc w1 #[.int .u8 0, .int .u8 0, .int .u8 0, .int .u8 0, .int .u8 0, .int .u8 0, .int .u8 0, .int .u8 0, .int .u8 0, .int .u8 0, .int .u8 0, .int .u8 0, .int .u8 0, .int .u8 0, .int .u8 0, .int .u8 0] 60
    rwa [z1] at h)
  have B2 := Lib.hid (show Below w.heap.size w w2 by rw [← h2, ← h1]; exact (below_alloc w _).trans ((below_alloc _ _).mono (by rw [World.size_alloc]; omega)))
  have hsI : ((s.size : Int) != 16) = false := by rw [hs]; rfl
  have hsJ : ((s.size : Int) == 16) = true := by rw [hs]; rfl
  have HSS := Lib.hid hs
  clear hs
  go_enter Tryd.func43, Tryd.ntmps43
  go_wp2
  clear h1 h2
  rename_i K2 hK2
  have HK2 := Lib.hid hK2
  clear hK2
  go_loopw [11] (fun i wr => ∃ k : Nat, k ≤ 16 ∧ i = .int .i64 k ∧ Box wr (w.heap.size + 1) (rdV s k) ∧ KeptOut (fun b => b = w.heap.size + 1) w2 wr ∧ ∀ j, j < k → ∀ hj : j < s.size, 0 ≤ vfig s[j]) (fun i _ => 16 - (intOf i).toNat)
  case atStart => exact ⟨0, Nat.zero_le _, rfl, SB.out, KeptOut.refl _ _, fun j h => absurd h (Nat.not_lt_zero _)⟩
  case round =>
    obtain ⟨k, hk, rfl, hbx, hkp, hall⟩ := hrel
    have HALL := Lib.hid hall
    have HKP := Lib.hid hkp
    have RB2 := Box.kept hkp (show ¬ w.heap.size = w.heap.size + 1 by omega) RB.out
    have RBF := Lib.hid RB2
    have hbel : Below w.heap.size w wr := hkp.below B2.out B2.out.size (fun b hb => by omega)
    have HBW := Lib.hid hbel
    clear hall
    by_cases hlt : k < 16
    · have hks : k < s.size := by have := HSS.out; omega
      have hksI : (k : Int) < (s.size : Int) := by omega
      have hk0 : (0 : Int) ≤ (k : Int) := by omega
      have hk16 : (k : Int) < 16 := by omega
      obtain ⟨v, hv⟩ : ∃ v, vfig s[k] = v := ⟨_, rfl⟩
      have HV := Lib.hid hv
      have HBX := Lib.hid hbx
      by_cases hn : v < 0
      · have HR := Lib.hid (show (decide (s.size = 16) && figOk s) = false by rw [figOk_no hlt hks (by rw [hv]; exact hn), Bool.and_false])
        obtain ⟨⟨r0, f0⟩, ⟨r1, f1⟩, ⟨r2, f2⟩, ⟨r3, f3⟩, ⟨r4, f4⟩, ⟨r5, f5⟩, ⟨r6, f6⟩, ⟨r7, f7⟩, ⟨r8, f8⟩, ⟨r9, f9⟩, ⟨r10, f10⟩, ⟨r11, f11⟩, ⟨r12, f12⟩, ⟨r13, f13⟩, ⟨r14, f14⟩, r15, f15⟩ := show _ ∧ _ ∧ _ ∧ _ ∧ _ ∧ _ ∧ _ ∧ _ ∧ _ ∧ _ ∧ _ ∧ _ ∧ _ ∧ _ ∧ _ ∧ _ from ⟨RB2 0 (.int .u8 (0 : Nat)) rfl, RB2 1 (.int .u8 (0 : Nat)) rfl, RB2 2 (.int .u8 (0 : Nat)) rfl, RB2 3 (.int .u8 (0 : Nat)) rfl, RB2 4 (.int .u8 (0 : Nat)) rfl, RB2 5 (.int .u8 (0 : Nat)) rfl, RB2 6 (.int .u8 (0 : Nat)) rfl, RB2 7 (.int .u8 (0 : Nat)) rfl, RB2 8 (.int .u8 (0 : Nat)) rfl, RB2 9 (.int .u8 (0 : Nat)) rfl, RB2 10 (.int .u8 (0 : Nat)) rfl, RB2 11 (.int .u8 (0 : Nat)) rfl, RB2 12 (.int .u8 (0 : Nat)) rfl, RB2 13 (.int .u8 (0 : Nat)) rfl, RB2 14 (.int .u8 (0 : Nat)) rfl, RB2 15 (.int .u8 (0 : Nat)) rfl⟩
        clear hv hbx hkp RB2 hbel
        go_wp2_with fail
        refine (idxFig_is HV.out _).mono ?_
        rintro e w3 ⟨rfl, rfl⟩
        go_wp2
        obtain ⟨W, hW⟩ : ∃ W, ((((((((((((((((w3.setCell ⟨w.heap.size, 0, none⟩ (.int .u8 0)).setCell ⟨w.heap.size, 1, none⟩ (.int .u8 0)).setCell ⟨w.heap.size, 2, none⟩ (.int .u8 0)).setCell ⟨w.heap.size, 3, none⟩ (.int .u8 0)).setCell ⟨w.heap.size, 4, none⟩ (.int .u8 0)).setCell ⟨w.heap.size, 5, none⟩ (.int .u8 0)).setCell ⟨w.heap.size, 6, none⟩ (.int .u8 0)).setCell ⟨w.heap.size, 7, none⟩ (.int .u8 0)).setCell ⟨w.heap.size, 8, none⟩ (.int .u8 0)).setCell ⟨w.heap.size, 9, none⟩ (.int .u8 0)).setCell ⟨w.heap.size, 10, none⟩ (.int .u8 0)).setCell ⟨w.heap.size, 11, none⟩ (.int .u8 0)).setCell ⟨w.heap.size, 12, none⟩ (.int .u8 0)).setCell ⟨w.heap.size, 13, none⟩ (.int .u8 0)).setCell ⟨w.heap.size, 14, none⟩ (.int .u8 0)).setCell ⟨w.heap.size, 15, none⟩ (.int .u8 0)) = W := ⟨_, rfl⟩
        obtain ⟨hb1, hb2⟩ := store16 (b := w.heap.size) (rdV_len s 0) RBF.out (.int .u8 0) (.int .u8 0) (.int .u8 0) (.int .u8 0) (.int .u8 0) (.int .u8 0) (.int .u8 0) (.int .u8 0) (.int .u8 0) (.int .u8 0) (.int .u8 0) (.int .u8 0) (.int .u8 0) (.int .u8 0) (.int .u8 0) (.int .u8 0)
        rw [hW] at hb1 hb2 ⊢
        obtain ⟨⟨e0, _⟩, ⟨e1, _⟩, ⟨e2, _⟩, ⟨e3, _⟩, ⟨e4, _⟩, ⟨e5, _⟩, ⟨e6, _⟩, ⟨e7, _⟩, ⟨e8, _⟩, ⟨e9, _⟩, ⟨e10, _⟩, ⟨e11, _⟩, ⟨e12, _⟩, ⟨e13, _⟩, ⟨e14, _⟩, e15, _⟩ := show _ ∧ _ ∧ _ ∧ _ ∧ _ ∧ _ ∧ _ ∧ _ ∧ _ ∧ _ ∧ _ ∧ _ ∧ _ ∧ _ ∧ _ ∧ _ from ⟨hb1 0 _ rfl, hb1 1 _ rfl, hb1 2 _ rfl, hb1 3 _ rfl, hb1 4 _ rfl, hb1 5 _ rfl, hb1 6 _ rfl, hb1 7 _ rfl, hb1 8 _ rfl, hb1 9 _ rfl, hb1 10 _ rfl, hb1 11 _ rfl, hb1 12 _ rfl, hb1 13 _ rfl, hb1 14 _ rfl, hb1 15 _ rfl⟩
        clear hW hb1
        exact bodyPost_ret (v := .tuple #[.agg zeroA, .bool false]) (by simp [results, Tryd.results43, go_sem, zeroA, e0, e1, e2, e3, e4, e5, e6, e7, e8, e9, e10, e11, e12, e13, e14, e15]) rfl ⟨hb2 _ _ HBW.out (Nat.le_refl _), .inr ⟨HR.out, rfl⟩⟩
      · have HN := Lib.hid (show ∀ j, j < k + 1 → ∀ hj : j < s.size, 0 ≤ vfig s[j] from fun j hj hjs => by
          rcases Nat.lt_succ_iff_lt_or_eq.1 hj with h | rfl
          · exact HALL.out j h hjs
          · rw [HV.out]; omega)
        obtain ⟨n, hnv⟩ : ∃ n, vN s k = n := ⟨_, rfl⟩
        have hn15 : n ≤ 15 := by rw [← hnv]; exact vN_le s k
        have hvn : v = (n : Int) := by
          have h := vN_at hks
          rw [hv, hnv] at h
          omega
        subst hvn
        have HNV := Lib.hid hnv
        have hw8 : IntKind.u8.wrap (n : Int) = (n : Int) := by show (n : Int) % 256 = n; omega
        obtain ⟨bc, bf⟩ := hbx k (.int .u8 (0 : Nat)) (by simp [rdV, hlt])
        clear hv hbx hkp hnv RB2 hbel
        go_wp2_with fail
        refine (idxFig_is HV.out _).mono ?_
        rintro e w3 ⟨rfl, rfl⟩
        go_wp2
        go_roundw
        case rel =>
          refine ⟨k + 1, by omega, by go_num, ?_, HKP.out.setCell (p := ⟨w.heap.size + 1, k, none⟩) rfl _, HN.out⟩
          rw [← rdV_next s hlt, HNV.out]
          exact Box.setI HBX.out k _
        case measure => simp [intOf]; omega
    · obtain rfl : k = 16 := by omega
      obtain ⟨hfo, hfb⟩ := figOk_yes HALL.out HSS.out
      have HR := Lib.hid (show (decide (s.size = 16) && figOk s) = true by rw [decide_eq_true HSS.out, hfo]; rfl)
      have HFB := Lib.hid hfb
      have HRG := Lib.hid (show wr.rangeAt (w.heap.size + 1) 0 (rdV s 16) from fun j v hv => by rw [Nat.zero_add]; exact (hbx j v hv).1)
      clear hbx hkp RB2 hfo hfb hbel
      go_wp2
      refine HK2.out _ _ ?_
      clear HK2
      repeat (refine wp_seq_k fun K hK => ?_)
      refine wp_region_lit ?_
      refine wpList_load_mid rfl 60 (.tmp 4) rfl (w.heap.size + 1) 0 rfl (rdV s 16) _ HRG.out Tryd.underlying60 rfl (bloomSizeL s 16) ?_
      refine wpList_store_mid rfl 60 (.tmp 2) (.tmp 27) rfl w.heap.size 0 (rdV s 16).toArray rfl rfl (box_there RBF.out (by simp only [rdV_len])) (bloomSize s 16) (all_oneCell_toArray (rdV_one s 16)) ?_
      have R9 := World.rangeAt_setCells_same wr w.heap.size 0 (rdV s 16) (by have h := box_there RBF.out (show (rdV s 16).length = (rdV s 0).length by simp only [rdV_len]); rwa [List.size_toArray] at h)
      have B9 := below_cellsJ (g := w.heap.size) (Nat.le_refl _) (rdV s 16) 0 _ HBW.out
      rw [List.toList_toArray]
      generalize wr.setCells w.heap.size 0 (rdV s 16) = W9 at R9 B9 ⊢
      have H9 := Lib.hid (load9 R9)
      clear R9 HRG
      go_wp2
      refine bodyPost_ret (results_two Tryd.results43 _ _ w.heap.size rfl _ (.bool true) rfl H9.out) rfl ?_
      exact ⟨B9, .inl ⟨HR.out, HFB.out, rfl⟩⟩
end Go.Proofs.YtgjfflfldddebaaDoor
