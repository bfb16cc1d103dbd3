import Derived.Test.YtjbkhamfingoiaaStrEq
import Derived.Test.YtjbkhamfingoiaaStrTo
import Derived.Test.YtjbkhamfingoiaaStrMark
import Derived.Test.YtjbkhamfingoiaaStrSz
import Derived.Test.YtjbkhamfingoiaaWait
/- Disk: what the helpers of the exact laws do with disks. -/
namespace Go.Proofs.Ytjbkhamfingoiaa
open Go Go.RowKit

abbrev DiskD := List ByteArray × List WaitD × Int

/-- v is a disk by value, and reads as d -/
def DiskR (w : World) (v : Value) (d : DiskD) : Prop :=
  ∃ a ca b cb, v = .agg #[.slice a d.1.length ca, .slice b d.2.1.length cb, .int .i64 d.2.2] ∧ StrS w a d.1 ∧ ElS 2 encWait w b d.2.1 ∧ ∀ x ∈ d.2.1, OkWait x

/-- v is a disk by value, in memory of its own, all of it from block base on -/
def DiskO (w : World) (base : Nat) (v : Value) (d : DiskD) : Prop :=
  ∃ a ca b cb, v = .agg #[.slice a d.1.length ca, .slice b d.2.1.length cb, .int .i64 d.2.2] ∧
    w.ownsRow base 9 1 (.slice a d.1.length ca) d.1.length (d.1.map .string) ∧ w.ownsRow base 43 2 (.slice b d.2.1.length cb) d.2.1.length (d.2.1.flatMap encWait) ∧
    ∀ x y, (Value.slice a d.1.length ca).ownBlock = some x → (Value.slice b d.2.1.length cb).ownBlock = some y → x ≠ y

/-- the blocks of a disk's two lists -/
def diskBlk (v : Value) (k : Nat) : Prop := match v with | .agg xs => (xs.getD 0 undef).ownBlock = some k ∨ (xs.getD 1 undef).ownBlock = some k | _ => False

/-- of lengths and sizes that can be -/
def OkDisk (d : DiskD) : Prop := d.1.length ≤ maxLen ∧ (∀ s ∈ d.1, s.size ≤ maxLen) ∧ d.2.1.length ≤ maxLen ∧ ∀ x ∈ d.2.1, OkWait x

theorem DiskO.read {w : World} {base : Nat} {v : Value} {d : DiskD} (h : DiskO w base v d) (ok : OkDisk d) : DiskR w v d := by
  obtain ⟨a, ca, b, cb, hv, h1, h2, _⟩ := h
  exact ⟨a, ca, b, cb, hv, own_str ok.1 ok.2.1 h1, own_el encWait_len ok.2.2.1 h2, ok.2.2.2⟩
theorem DiskR.below {w w' : World} {v : Value} {d : DiskD} (hb : Below w.heap.size w w') (h : DiskR w v d) : DiskR w' v d := by
  obtain ⟨a, ca, b, cb, hv, h1, h2, h3⟩ := h
  exact ⟨a, ca, b, cb, hv, h1.below hb, h2.below hb, h3⟩
theorem DiskO.lt {w : World} {base : Nat} {v : Value} {d : DiskD} (h : DiskO w base v d) {k : Nat} (hk : diskBlk v k) : base ≤ k ∧ k < w.heap.size := by
  obtain ⟨a, ca, b, cb, rfl, h1, h2, _⟩ := h
  rcases hk with hk | hk
  · exact h1.lt k hk
  · exact h2.lt k hk
theorem DiskO.kept {S : Nat → Prop} {w w' : World} {base : Nat} {v : Value} {d : DiskD} (hb : KeptOut S w w') (hs : ∀ k, diskBlk v k → ¬ S k) (h : DiskO w base v d) : DiskO w' base v d := by
  obtain ⟨a, ca, b, cb, rfl, h1, h2, h3⟩ := h
  exact ⟨a, ca, b, cb, rfl, own_kept h1 hb (fun k hk => hs k (.inl hk)), own_kept h2 hb (fun k hk => hs k (.inr hk)), h3⟩
theorem DiskO.below {w w' : World} {base : Nat} {v : Value} {d : DiskD} (hb : Below w.heap.size w w') (h : DiskO w base v d) : DiskO w' base v d :=
  h.kept (S := fun _ => False) (.of_below hb) (fun _ _ h => h)
theorem DiskO.mono {w : World} {base base' : Nat} {v : Value} {d : DiskD} (h : DiskO w base v d) (hb : base' ≤ base) : DiskO w base' v d := by
  obtain ⟨a, ca, b, cb, rfl, h1, h2, h3⟩ := h
  refine ⟨a, ca, b, cb, rfl, ?_, ?_, h3⟩
  · exact ⟨h1.1, h1.2.imp id (fun ⟨g, cap, cur, hv, hg, r⟩ => ⟨g, cap, cur, hv, Nat.le_trans hb hg, r⟩)⟩
  · exact ⟨h2.1, h2.2.imp id (fun ⟨g, cap, cur, hv, hg, r⟩ => ⟨g, cap, cur, hv, Nat.le_trans hb hg, r⟩)⟩

theorem bcell {W w1 : World} (hb : Below W.heap.size W w1) : (∀ b o, b < W.heap.size → w1.cell? ⟨b, o, none⟩ = W.cell? ⟨b, o, none⟩) ∧ (∀ b o, b < W.heap.size → w1.frozen? ⟨b, o, none⟩ = W.frozen? ⟨b, o, none⟩) :=
  ⟨fun b o h => hb.cell (p := ⟨b, o, none⟩) h, fun b o h => hb.frozen (p := ⟨b, o, none⟩) h⟩

/-- how much a disk holds -/
def bulkDisk (d : DiskD) : Nat := bulkS d.1 + bulkWaitS d.2.1

set_option maxRecDepth 100000 in
set_option maxHeartbeats 400000 in
theorem szDisk_any (v : Value) (d : DiskD) (left : Int) (w : World) (h0 : 0 ≤ left) (h1 : left ≤ 1048576) (hd : DiskR w v d) :
    Calls Try.prog 39 #[v, .int .i64 left] w fun e w' => e = .returned (.int .i64 (szR left (bulkDisk d))) ∧ Below w.heap.size w w' := by
  obtain ⟨a, ca, b, cb, rfl, hs, hw, hok⟩ := hd
  obtain ⟨ds, dw, dl⟩ := d
  simp only at hs hw hok
  dsimp only
  by_cases g1 : left < (bulkS ds : Int)
  · have HR := Lib.hid (show szR left (bulkDisk (ds, dw, dl)) = -1 by apply szR_no; unfold bulkDisk; dsimp only; omega)
    have HQ := Lib.hid (szR_no g1)
    go_enter Try.func39, Try.ntmps39
    go_wp2_with (go_at_call 64; refine (szStr_any _ _ _ _ _ h0 h1 (hs.below (by repeat (first | exact Below.refl _ _ | (refine Below.alloc ?_ (by first | (simp; done) | (simp; omega)) _) | (refine Below.setCell ?_ (by first | (simp; done) | (simp; omega)) _) | (refine Below.drew ?_))))).mono ?_; rintro e w1 ⟨rfl, rfl⟩; rw [HQ.out])
    go_ret
    exact ⟨ret_int (by rw [HR.out]), (by repeat (first | exact Below.refl _ _ | (refine Below.alloc ?_ (by first | (simp; done) | (simp; omega)) _) | (refine Below.setCell ?_ (by first | (simp; done) | (simp; omega)) _) | (refine Below.drew ?_)))⟩
  · have HQ := Lib.hid (szR_yes (show (bulkS ds : Int) ≤ left by omega))
    have hq : 0 ≤ left - bulkS ds := by omega
    by_cases g2 : left - bulkS ds < (bulkWaitS dw : Int)
    · have HR := Lib.hid (show szR left (bulkDisk (ds, dw, dl)) = -1 by apply szR_no; unfold bulkDisk; dsimp only; omega)
      have HP := Lib.hid (szR_no g2)
      go_enter Try.func39, Try.ntmps39
      go_wp2_with (first | (go_at_call 64; refine (szStr_any _ _ _ _ _ h0 h1 (hs.below (by repeat (first | exact Below.refl _ _ | (refine Below.alloc ?_ (by first | (simp; done) | (simp; omega)) _) | (refine Below.setCell ?_ (by first | (simp; done) | (simp; omega)) _) | (refine Below.drew ?_))))).mono ?_; rintro e w1 ⟨rfl, rfl⟩; rw [HQ.out]) | (go_at_call 65; refine (szWaitS_any _ _ _ _ _ (by omega) (by omega) (hw.below (by repeat (first | exact Below.refl _ _ | (refine Below.alloc ?_ (by first | (simp; done) | (simp; omega)) _) | (refine Below.setCell ?_ (by first | (simp; done) | (simp; omega)) _) | (refine Below.drew ?_)))) hok).mono ?_; rintro e w1 ⟨rfl, hb1⟩; rw [HP.out]))
      go_ret
      exact ⟨ret_int (by rw [HR.out]), Below.trans (by repeat (first | exact Below.refl _ _ | (refine Below.alloc ?_ (by first | (simp; done) | (simp; omega)) _) | (refine Below.setCell ?_ (by first | (simp; done) | (simp; omega)) _) | (refine Below.drew ?_))) (hb1.mono (by simp))⟩
    · have HR := Lib.hid (show szR left (bulkDisk (ds, dw, dl)) = left - bulkS ds - bulkWaitS dw by rw [szR_yes (by unfold bulkDisk; dsimp only; omega)]; unfold bulkDisk; dsimp only; omega)
      have HP := Lib.hid (szR_yes (show (bulkWaitS dw : Int) ≤ left - bulkS ds by omega))
      have hr : 0 ≤ left - bulkS ds - bulkWaitS dw := by omega
      go_enter Try.func39, Try.ntmps39
      go_wp2_with (first | (go_at_call 64; refine (szStr_any _ _ _ _ _ h0 h1 (hs.below (by repeat (first | exact Below.refl _ _ | (refine Below.alloc ?_ (by first | (simp; done) | (simp; omega)) _) | (refine Below.setCell ?_ (by first | (simp; done) | (simp; omega)) _) | (refine Below.drew ?_))))).mono ?_; rintro e w1 ⟨rfl, rfl⟩; rw [HQ.out]) | (go_at_call 65; refine (szWaitS_any _ _ _ _ _ (by omega) (by omega) (hw.below (by repeat (first | exact Below.refl _ _ | (refine Below.alloc ?_ (by first | (simp; done) | (simp; omega)) _) | (refine Below.setCell ?_ (by first | (simp; done) | (simp; omega)) _) | (refine Below.drew ?_)))) hok).mono ?_; rintro e w1 ⟨rfl, hb1⟩; rw [HP.out]))
      go_ret
      exact ⟨ret_int (by rw [HR.out]), Below.trans (by repeat (first | exact Below.refl _ _ | (refine Below.alloc ?_ (by first | (simp; done) | (simp; omega)) _) | (refine Below.setCell ?_ (by first | (simp; done) | (simp; omega)) _) | (refine Below.drew ?_))) (hb1.mono (by simp))⟩

theorem eqStr_yes (a b : Option Addr) (ca cb : Nat) (l : List ByteArray) (w : World) (hl : StrS w a l) (hm : StrS w b l) :
    Calls Try.prog 44 #[.slice a l.length ca, .slice b l.length cb] w fun e w' => e = .returned (.bool true) ∧ Below w.heap.size w w' :=
  (eqStr_any a b ca cb l l w hl hm).mono fun e w' ⟨he, n, hw⟩ => ⟨by rw [he]; simp [eqStr], by rw [hw]; exact below_drewN (Below.refl _ _) n⟩

set_option maxRecDepth 100000 in
set_option maxHeartbeats 400000 in
theorem eqDisk_any (v u : Value) (d : DiskD) (w : World) (hv : DiskR w v d) (hu : DiskR w u d) :
    Calls Try.prog 36 #[v, u] w fun e w' => e = .returned (.bool true) ∧ Below w.heap.size w w' := by
  obtain ⟨a, ca, b, cb, rfl, hs, hw, _⟩ := hv
  obtain ⟨a', ca', b', cb', rfl, hs', hw', _⟩ := hu
  obtain ⟨ds, dw, dl⟩ := d
  simp only at hs hw hs' hw'
  dsimp only
  go_enter Try.func36, Try.ntmps36
  go_wp2_with fail
  refine (eqStr_yes _ _ _ _ _ _ (hs.below (by repeat (first | exact Below.refl _ _ | (refine Below.alloc ?_ (by first | (simp; done) | (simp; omega)) _) | (refine Below.setCell ?_ (by first | (simp; done) | (simp; omega)) _) | (refine Below.drew ?_)))) (hs'.below (by repeat (first | exact Below.refl _ _ | (refine Below.alloc ?_ (by first | (simp; done) | (simp; omega)) _) | (refine Below.setCell ?_ (by first | (simp; done) | (simp; omega)) _) | (refine Below.drew ?_))))).mono ?_
  rintro e w1 ⟨rfl, hb1⟩
  have hB : Below w.heap.size w w1 := Below.trans (by repeat (first | exact Below.refl _ _ | (refine Below.alloc ?_ (by first | (simp; done) | (simp; omega)) _) | (refine Below.setCell ?_ (by first | (simp; done) | (simp; omega)) _) | (refine Below.drew ?_))) (hb1.mono (by simp; omega))
  obtain ⟨hc, hf⟩ := bcell hb1
  have hz := hb1.size
  simp only [World.size_alloc] at hz
  have hza : w.heap.size < w1.heap.size := by omega
  have hzb : w.heap.size + 1 < w1.heap.size := by omega
  go_wp2_with fail
  refine (eqWaitS_any _ _ _ _ _ _ (hw.below hB) (hw'.below hB)).mono ?_
  rintro e w2 ⟨rfl, hb2⟩
  obtain ⟨hc2, hf2⟩ := bcell hb2
  have hz2 := hb2.size
  have hB2 : Below w.heap.size w w2 := hB.trans (hb2.mono hB.size)
  go_wp2
  go_ret
  exact ⟨rfl, hB2⟩

set_option maxRecDepth 100000 in
set_option maxHeartbeats 400000 in
theorem toDisk_any (v : Value) (d : DiskD) (w : World) (hv : DiskR w v d) (h1 : d.1.length ≤ 1048576) (h2 : d.2.1.length ≤ 1048576) :
    Calls Try.prog 40 #[v] w fun e w' => ∃ u, e = .returned u ∧ DiskO w' w.heap.size u d ∧ Below w.heap.size w w' := by
  obtain ⟨a, ca, b, cb, rfl, hs, hw, _⟩ := hv
  obtain ⟨ds, dw, dl⟩ := d
  simp only at hs hw h1 h2
  dsimp only
  go_enter Try.func40, Try.ntmps40
  go_wp2_with fail
  refine (toStr_any _ _ _ _ h1 (hs.below (by repeat (first | exact Below.refl _ _ | (refine Below.alloc ?_ (by first | (simp; done) | (simp; omega)) _) | (refine Below.setCell ?_ (by first | (simp; done) | (simp; omega)) _) | (refine Below.drew ?_))))).mono ?_
  rintro e w1 ⟨rfl, ho1, hb1⟩
  have hB : Below w.heap.size w w1 := Below.trans (by repeat (first | exact Below.refl _ _ | (refine Below.alloc ?_ (by first | (simp; done) | (simp; omega)) _) | (refine Below.setCell ?_ (by first | (simp; done) | (simp; omega)) _) | (refine Below.drew ?_))) (hb1.mono (by simp; omega))
  obtain ⟨hc, hf⟩ := bcell hb1
  have hz := hb1.size
  simp only [World.size_alloc] at hz
  have hza : w.heap.size < w1.heap.size := by omega
  have hzb : w.heap.size + 1 < w1.heap.size := by omega
  have hzc : w.heap.size + 1 + 1 < w1.heap.size := by omega
  have HO1 := Lib.hid ho1
  clear ho1
  go_wp2_with fail
  refine (toWaitS_any _ _ _ _ h2 (hw.below (hB.setCell (by simp; omega) _))).mono ?_
  rintro e w2 ⟨rfl, ho2, hb2⟩
  obtain ⟨hc2, hf2⟩ := bcell hb2
  have hz2 := hb2.size
  simp only [World.size_setCell] at hz2
  have hya : w.heap.size < w2.heap.size := by omega
  have hyb : w.heap.size + 1 < w2.heap.size := by omega
  have hyc : w.heap.size + 1 + 1 < w2.heap.size := by omega
  have HO2 := Lib.hid ho2
  clear ho2
  have K1 : KeptOut (fun k => k = w.heap.size + 1 + 1 ∨ k = w.heap.size + 1) w1 w2 :=
    ((KeptOut.refl _ _).setCell (p := ⟨w.heap.size + 1 + 1, 0, none⟩) (.inl rfl) _).trans (.of_below hb2)
  go_wp2
  have B2 := hB.trans (show Below w.heap.size w1 w2 from ((Below.refl _ _).setCell (p := ⟨w.heap.size + 1 + 1, 0, none⟩) (by simp; omega) _).trans (hb2.mono (by simp; omega)))
  have K2 := ((((KeptOut.refl (fun k => k = w.heap.size + 1 + 1 ∨ k = w.heap.size + 1) w2).setCell (p := ⟨w.heap.size + 1 + 1, 1, none⟩) (.inl rfl) (Value.slice (some ⟨w1.heap.size, 0, none⟩) dw.length dw.length)).setCell (p := ⟨w.heap.size + 1 + 1, 2, none⟩) (.inl rfl) (Value.int .i64 dl)).setCell
    (p := ⟨w.heap.size + 1, 0, none⟩) (.inr rfl) (Value.slice (some ⟨w.heap.size + 1 + 1 + 1, 0, none⟩) ds.length ds.length)).setCell (p := ⟨w.heap.size + 1, 1, none⟩) (.inr rfl) (Value.slice (some ⟨w1.heap.size, 0, none⟩) dw.length dw.length)
  have K3 := K2.setCell (p := ⟨w.heap.size + 1, 2, none⟩) (.inr rfl) (Value.int .i64 dl)
  have o1 := HO1.out
  have o2 := HO2.out
  simp only [World.size_alloc, World.size_setCell] at o1 o2
  refine bodyPost_ret (v := .agg #[.slice (some ⟨w.heap.size + 1 + 1 + 1, 0, none⟩) ds.length ds.length, .slice (some ⟨w1.heap.size, 0, none⟩) dw.length dw.length, .int .i64 dl]) (by simp [results, Try.results40, go_sem, hc2, hc, hzb]) rfl ⟨_, rfl, ⟨_, _, _, _, rfl, ?_, ?_, ?_⟩, K3.below B2 B2.size (fun k hk => by omega)⟩
  · exact own_mono (by omega) (own_kept (own_kept o1 K1 (fun k hk => by obtain ⟨p, hp, rfl⟩ := slice_blk hk; simp at hp; subst hp; simp; omega)) K3 (fun k hk => by obtain ⟨p, hp, rfl⟩ := slice_blk hk; simp at hp; subst hp; simp; omega))
  · exact own_mono (by omega) (own_kept o2 K3 (fun k hk => by obtain ⟨p, hp, rfl⟩ := slice_blk hk; simp at hp; subst hp; simp; omega))
  · intro x y hx hy
    have hlt : w.heap.size + 1 + 1 + 1 < w1.heap.size := (o1.lt _ rfl).2
    obtain ⟨p, hp, rfl⟩ := slice_blk hx
    obtain ⟨q, hq, rfl⟩ := slice_blk hy
    simp at hp hq
    subst hp hq
    simp
    omega

/-- what marks leave in a disk of n blocks and m waits -/
def marksDisk (k : Int) (d : DiskD) : DiskD := (marksS k d.1.length, marksWait (k + d.1.length) d.2.1.length, d.2.2)
theorem marksDisk_ok (k : Int) (d : DiskD) (hk0 : 0 ≤ k) (hk : k ≤ 1048576) (h1 : d.1.length ≤ 1048576) (h2 : d.2.1.length ≤ 1048576) : OkDisk (marksDisk k d) := by
  refine ⟨by simp [marksDisk, marksS_len, maxLen]; omega, ?_, by simp [marksDisk, marksWait_len, maxLen]; omega, marksWait_ok _ _ (by omega)⟩
  intro s hs
  simp only [marksDisk, marksS, marks, List.mem_map, List.mem_range] at hs
  obtain ⟨j, hj, rfl⟩ := hs
  exact markB_size _ (by omega)

set_option maxRecDepth 100000 in
set_option maxHeartbeats 400000 in
theorem markDisk_any (base : Nat) (v : Value) (d : DiskD) (k : Int) (w : World) (hv : DiskO w base v d) (hk0 : 0 ≤ k) (hk : k ≤ 1048576) (h1 : d.1.length ≤ 1048576) (h2 : d.2.1.length ≤ 1048576) :
    Calls Try.prog 37 #[v, .int .i64 k] w fun e w' => e = .returned (.int .i64 (k + d.1.length + 2 * d.2.1.length)) ∧ DiskO w' base v (marksDisk k d) ∧ KeptOut (diskBlk v) w w' := by
  obtain ⟨a, ca, b, cb, rfl, ho1, ho2, hap⟩ := hv
  obtain ⟨ds, dw, dl⟩ := d
  simp only at ho1 ho2 h1 h2 hap
  dsimp only
  have HA := Lib.hid hap
  have l1 := ho1.lt
  have l2 := ho2.lt
  have HO1 := Lib.hid ho1
  have HO2 := Lib.hid ho2
  have HL1 := Lib.hid l1
  have HL2 := Lib.hid l2
  clear ho1 ho2 hap l1 l2
  go_enter Try.func37, Try.ntmps37
  go_wp2_with fail
  refine (markStr_any base _ _ _ _ _ (by omega) hk0 (by omega) (HO1.out.alloc _)).mono ?_
  rintro e w1 ⟨rfl, p1, k1⟩
  have hz := k1.size
  simp only [World.size_alloc] at hz
  have c1 : w1.cell? ⟨w.heap.size, 1, none⟩ = some (.slice b dw.length cb) := by
    rw [k1.cell (p := ⟨w.heap.size, 1, none⟩) (by simp) (fun h => by have := (HL1.out _ h).2; simp at this)]
    simp [go_sem]
  have P1 := Lib.hid p1
  have K1 := Lib.hid k1
  clear p1 k1
  go_wp2_with fail
  refine (markWaitS_any base _ _ _ _ _ (by omega) (by omega) (by omega) (own_kept (HO2.out.alloc _) K1.out (fun x h2 h1 => HA.out x x h1 h2 rfl))).mono ?_
  rintro e w2 ⟨rfl, p2, k2⟩
  have P2 := Lib.hid p2
  have K2 := Lib.hid k2
  clear p2 k2
  go_wp2
  go_ret
  refine ⟨rfl, ⟨a, ca, b, cb, by simp [marksDisk, marksS_len, marksWait_len], ?_, ?_, ?_⟩, ?_⟩
  · simp only [marksDisk, marksS_len]
    exact own_kept P1.out K2.out (fun x h1 h2 => HA.out x x h1 h2 rfl)
  · simp only [marksDisk, marksWait_len]
    exact P2.out
  · simp only [marksDisk, marksS_len, marksWait_len]
    exact HA.out
  · exact (KeptOut.of_below (by repeat (first | exact Below.refl _ _ | (refine Below.alloc ?_ (by first | (simp; done) | (simp; omega)) _) | (refine Below.setCell ?_ (by first | (simp; done) | (simp; omega)) _) | (refine Below.drew ?_)))).trans ((K1.out.mono (fun _ _ h => .inl h)).trans (K2.out.mono (fun _ _ h => .inr h)))

set_option maxRecDepth 100000 in
set_option maxHeartbeats 400000 in
theorem heldDisk_any (v : Value) (d : DiskD) (k : Int) (w : World) (hv : DiskR w v (marksDisk k d)) (hk0 : 0 ≤ k) (hk : k ≤ 1048576) (h1 : d.1.length ≤ 1048576) (h2 : d.2.1.length ≤ 1048576) :
    Calls Try.prog 38 #[v, .int .i64 k] w fun e w' => e = .returned (.int .i64 (k + d.1.length + 2 * d.2.1.length)) ∧ Below w.heap.size w w' := by
  obtain ⟨a, ca, b, cb, rfl, hs, hw, _⟩ := hv
  obtain ⟨ds, dw, dl⟩ := d
  simp only [marksDisk, marksS_len, marksWait_len] at hs hw h1 h2 ⊢
  go_enter Try.func38, Try.ntmps38
  go_wp2_with fail
  refine (heldStr_any _ _ _ _ _ (by omega) hk0 (by omega) (hs.below (by repeat (first | exact Below.refl _ _ | (refine Below.alloc ?_ (by first | (simp; done) | (simp; omega)) _) | (refine Below.setCell ?_ (by first | (simp; done) | (simp; omega)) _) | (refine Below.drew ?_))))).mono ?_
  rintro e w1 ⟨rfl, hb1⟩
  have hB : Below w.heap.size w w1 := Below.trans (by repeat (first | exact Below.refl _ _ | (refine Below.alloc ?_ (by first | (simp; done) | (simp; omega)) _) | (refine Below.setCell ?_ (by first | (simp; done) | (simp; omega)) _) | (refine Below.drew ?_))) (hb1.mono (by simp))
  obtain ⟨hc, hf⟩ := bcell hb1
  have hz := hb1.size
  simp only [World.size_alloc] at hz
  have hza : w.heap.size < w1.heap.size := by omega
  go_wp2_with fail
  refine (heldWaitS_any _ _ _ _ _ (by omega) (by omega) (by omega) (hw.below hB)).mono ?_
  rintro e w2 ⟨rfl, hb2⟩
  have hB2 : Below w.heap.size w w2 := hB.trans (hb2.mono hB.size)
  go_wp2
  go_ret
  exact ⟨rfl, hB2⟩
end Go.Proofs.Ytjbkhamfingoiaa
