import Derived.Test.YtfekpbkcidhbfaaDoorProg
import Derived.Test.YtfekpbkcidhbfaaDoorSha
import Derived.Deep.QuietTactic
import Derived.BigQuiet
/- A word turned: by the program's library and by the model. -/
namespace Go.Proofs.YtfekpbkcidhbfaaDoor
open Go Go.RowKit

theorem belDrewH {B : Nat} {w w' : World} (h : Below B w w') (n : Nat) : Below B w (w'.drewN n) := h.trans ⟨rfl, rfl, rfl, Nat.le_refl _, fun _ _ => rfl⟩

theorem turn_any (x : W32) (n : Nat) (h0 : 0 < n) (h1 : n < 32) (w : World) :
    Calls Tryd.prog 98 #[uv x, .int .i64 n] w fun e w' => e = .returned (uv (rotr x n)) ∧ ∃ q, w' = w.drewN q := by
  unfold uv
  have i0 : (0 : Int) ≤ (n : Int) := by omega
  have i1 : (n : Int) ≤ 32 := by omega
  have hm : IntKind.i64.wrap (32 - (n : Int)) = ((32 - n : Nat) : Int) := by
    unfold IntKind.wrap; simp [IntKind.bits, IntKind.signed]; omega
  have hc : (32 : Int) - (n : Int) = ((32 - n : Nat) : Int) := by omega
  obtain ⟨c, hcc⟩ : ∃ c, c = 32 - n := ⟨_, rfl⟩
  rw [← hcc] at hm hc
  have j0 : (0 : Int) ≤ (c : Int) := by omega
  have j1 : (c : Int) ≤ 32 := by omega
  have HR := Lib.hid (show bits .or .u32 ((x.toNat : Int) / 2 ^ n) ((x.toNat : Int) * 2 ^ c % 4294967296) = ((rotr x n).toNat : Int) by
    rw [uv_div, ← wr32, uv_shl, uv_or]; unfold rotr; rw [hcc])
  clear hcc
  go_enter Tryd.func98, Tryd.ntmps98
  go_wp2
  go_quiet (fail)
  go_wp2
  go_ret
  exact ⟨ret_int HR.out, _, rfl⟩
theorem rot_any (x : W32) (k : Int) (n : Nat) (h0 : 0 < n) (h1 : n < 32) (hk : bits .and .u64 (IntKind.u64.wrap k) 31 = ((32 - n : Nat) : Int)) (w : World) :
    Calls Tryd.prog 93 #[uv x, .int .i64 k] w fun e w' => e = .returned (uv (rotr x n)) ∧ ∃ q, w' = w.drewN q := by
  unfold uv
  have i0 : (0 : Int) ≤ (n : Int) := by omega
  have i1 : (n : Int) ≤ 32 := by omega
  obtain ⟨c, hcc⟩ : ∃ c, c = 32 - n := ⟨_, rfl⟩
  rw [← hcc] at hk
  have hm : IntKind.u64.wrap (32 - (c : Int)) = (n : Int) := by
    unfold IntKind.wrap; simp [IntKind.bits, IntKind.signed]; omega
  have j0 : (0 : Int) ≤ (c : Int) := by omega
  have j1 : (c : Int) ≤ 32 := by omega
  have HR := Lib.hid (show bits .or .u32 ((x.toNat : Int) * 2 ^ c % 4294967296) ((x.toNat : Int) / 2 ^ n) = ((rotr x n).toNat : Int) by
    rw [uv_div, ← wr32, uv_shl, uv_or, BitVec.or_comm]; unfold rotr; rw [hcc])
  clear hcc
  go_enter Tryd.func93, Tryd.ntmps93
  go_wp2
  go_ret
  exact ⟨ret_int HR.out, 0, rfl⟩
theorem uv_addm (x y : W32) : ((x.toNat : Int) + (y.toNat : Int)) % 4294967296 = ((x + y).toNat : Int) := by rw [← wr32, uv_add]
theorem rk7 : bits .and .u64 (IntKind.u64.wrap (-7)) 31 = ((32 - 7 : Nat) : Int) := by decide
theorem rk18 : bits .and .u64 (IntKind.u64.wrap (-18)) 31 = ((32 - 18 : Nat) : Int) := by decide
theorem rk17 : bits .and .u64 (IntKind.u64.wrap (-17)) 31 = ((32 - 17 : Nat) : Int) := by decide
theorem rk19 : bits .and .u64 (IntKind.u64.wrap (-19)) 31 = ((32 - 19 : Nat) : Int) := by decide
theorem rk6 : bits .and .u64 (IntKind.u64.wrap (-6)) 31 = ((32 - 6 : Nat) : Int) := by decide
theorem rk11 : bits .and .u64 (IntKind.u64.wrap (-11)) 31 = ((32 - 11 : Nat) : Int) := by decide
theorem rk25 : bits .and .u64 (IntKind.u64.wrap (-25)) 31 = ((32 - 25 : Nat) : Int) := by decide
theorem rk2 : bits .and .u64 (IntKind.u64.wrap (-2)) 31 = ((32 - 2 : Nat) : Int) := by decide
theorem rk13 : bits .and .u64 (IntKind.u64.wrap (-13)) 31 = ((32 - 13 : Nat) : Int) := by decide
theorem rk22 : bits .and .u64 (IntKind.u64.wrap (-22)) 31 = ((32 - 22 : Nat) : Int) := by decide
/-- is a number one of those by which words are turned -/
def okK (k : Int) : Bool := decide (0 < (-k).toNat ∧ (-k).toNat < 32 ∧ bits .and .u64 (IntKind.u64.wrap k) 31 = ((32 - (-k).toNat : Nat) : Int))
theorem rot_q (x : W32) (k : Int) (hk : okK k = true) (w : World) (m : Nat) :
    Calls Tryd.prog 93 #[.int .u32 (x.toNat : Int), .int .i64 k] (w.drewN m) fun e w' => e = .returned (.int .u32 ((rotr x (-k).toNat).toNat : Int)) ∧ ∃ q, w' = w.drewN q := by
  unfold okK at hk
  have hk := of_decide_eq_true hk
  exact (rot_any x k (-k).toNat hk.1 hk.2.1 hk.2.2 _).mono (fun _ _ ⟨a, q, b⟩ => ⟨a, m + q, by rw [b]; simp [World.drewN, Nat.add_assoc]⟩)
theorem rot_p (x : W32) (k : Int) (hk : okK k = true) (w : World) :
    Calls Tryd.prog 93 #[.int .u32 (x.toNat : Int), .int .i64 k] w fun e w' => e = .returned (.int .u32 ((rotr x (-k).toNat).toNat : Int)) ∧ ∃ q, w' = w.drewN q := by
  unfold okK at hk
  have hk := of_decide_eq_true hk
  exact rot_any x k (-k).toNat hk.1 hk.2.1 hk.2.2 _
def okN (n : Int) : Bool := decide (0 < n.toNat ∧ n.toNat < 32 ∧ n = (n.toNat : Int))
theorem turn_q (x : W32) (n : Int) (hn : okN n = true) (w : World) (m : Nat) :
    Calls Tryd.prog 98 #[.int .u32 (x.toNat : Int), .int .i64 n] (w.drewN m) fun e w' => e = .returned (.int .u32 ((rotr x n.toNat).toNat : Int)) ∧ ∃ q, w' = w.drewN q := by
  unfold okN at hn
  have hn := of_decide_eq_true hn
  have h := turn_any x n.toNat hn.1 hn.2.1 (w.drewN m)
  rw [← hn.2.2] at h
  exact h.mono (fun _ _ ⟨a, q, b⟩ => ⟨a, m + q, by rw [b]; simp [World.drewN, Nat.add_assoc]⟩)
theorem turn_p (x : W32) (n : Int) (hn : okN n = true) (w : World) :
    Calls Tryd.prog 98 #[.int .u32 (x.toNat : Int), .int .i64 n] w fun e w' => e = .returned (.int .u32 ((rotr x n.toNat).toNat : Int)) ∧ ∃ q, w' = w.drewN q := by
  unfold okN at hn
  have hn := of_decide_eq_true hn
  have h := turn_any x n.toNat hn.1 hn.2.1 w
  rw [← hn.2.2] at h
  exact h
theorem uv_not' (x : W32) : bits .xor .u32 (if IntKind.u32.signed = true then -1 else IntKind.u32.max) (x.toNat : Int) = ((~~~x).toNat : Int) := uv_not x
theorem uv_add5 (a b c d e : W32) : ((a.toNat : Int) + (b.toNat : Int) + (c.toNat : Int) + (d.toNat : Int) + (e.toNat : Int)) % 4294967296 = ((a + b + c + d + e).toNat : Int) := by
  simp only [BitVec.toNat_add]; omega
theorem uv_add4 (a b c d : W32) : ((a.toNat : Int) + (b.toNat : Int) + (c.toNat : Int) + (d.toNat : Int)) % 4294967296 = ((a + b + c + d).toNat : Int) := by
  simp only [BitVec.toNat_add]; omega
theorem uv_add3 (a b c : W32) : ((a.toNat : Int) + (b.toNat : Int) + (c.toNat : Int)) % 4294967296 = ((a + b + c).toNat : Int) := by
  simp only [BitVec.toNat_add]; omega
end Go.Proofs.YtfekpbkcidhbfaaDoor
