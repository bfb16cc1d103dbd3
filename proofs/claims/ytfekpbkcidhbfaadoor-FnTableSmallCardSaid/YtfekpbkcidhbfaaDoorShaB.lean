import Derived.Test.YtfekpbkcidhbfaaDoorSha
import Derived.Lib.Builder
/- SHA-256 in plain words: its bytes and figures. -/
namespace Go.Proofs.YtfekpbkcidhbfaaDoor
open Go

def hexB (l : List UInt8) : List UInt8 := l.flatMap fun c => [figC (c.toNat / 16), figC (c.toNat % 16)]
def bytesW (x : W32) : List UInt8 := [UInt8.ofNat (x.toNat / 16777216), UInt8.ofNat (x.toNat / 65536), UInt8.ofNat (x.toNat / 256), UInt8.ofNat x.toNat]
theorem u8_ofNat (n : Nat) : (UInt8.ofNat n).toNat = n % 256 := by simp
theorem hex_word (x : W32) : hexB (bytesW x) = figW x := by
  have hx := x.isLt
  simp only [hexB, bytesW, figW, List.flatMap_cons, List.flatMap_nil, u8_ofNat, List.append_nil, List.cons_append, List.nil_append, show List.range 8 = [0, 1, 2, 3, 4, 5, 6, 7] from rfl, List.map_cons, List.map_nil, Nat.sub_zero]
  generalize x.toNat = n at hx ⊢
  refine List.ext_getElem (by simp) ?_
  intro i h1 h2
  simp at h1
  match i, h1 with
  | 0, _ | 1, _ | 2, _ | 3, _ | 4, _ | 5, _ | 6, _ | 7, _ => simp; try (congr 1; omega)
theorem hexB_append (a b : List UInt8) : hexB (a ++ b) = hexB a ++ hexB b := by simp [hexB]
def S8.bytes (s : S8) : List UInt8 := bytesW s.a ++ bytesW s.b ++ bytesW s.c ++ bytesW s.d ++ bytesW s.e ++ bytesW s.f ++ bytesW s.g ++ bytesW s.h
theorem hex_state (s : S8) : hexB s.bytes = figS s := by
  simp only [S8.bytes, hexB_append, hex_word, figS, List.flatMap_cons, List.flatMap_nil, List.append_nil, List.append_assoc]
/-- the noughts so far are all, just where the rest is 56 -/
theorem zeros_end {n k : Nat} (h : k ≤ zerosN n) (e : (n + 1 + k) % 64 = 56) : k = zerosN n := by unfold zerosN at *; omega
theorem zeros_more {n k : Nat} (h : k ≤ zerosN n) (e : ¬ (n + 1 + k) % 64 = 56) : k + 1 ≤ zerosN n := by unfold zerosN at *; omega
theorem zeros_lt (n : Nat) : zerosN n < 64 := by unfold zerosN; omega
/-- the first k bytes of how many bits n bytes are -/
def countTo (n k : Nat) : List UInt8 := (List.range k).map fun i => UInt8.ofNat (n * 8 / 256 ^ (7 - i))
theorem countTo_succ (n k : Nat) : countTo n (k + 1) = countTo n k ++ [UInt8.ofNat (n * 8 / 256 ^ (7 - k))] := by simp [countTo, List.range_succ]
theorem countTo_len (n k : Nat) : (countTo n k).length = k := by simp [countTo]
theorem countTo_eight (n : Nat) : countTo n 8 = countB n := rfl
/-- byte(n >> 8k), of a number that is not less than 0 -/
theorem u8_shr (n c : Nat) : IntKind.u8.wrap ((n : Int) / 2 ^ c) = ((UInt8.ofNat (n / 2 ^ c)).toNat : Int) := by
  rw [u8_ofNat]
  unfold IntKind.wrap
  simp [IntKind.bits, IntKind.signed]
end Go.Proofs.YtfekpbkcidhbfaaDoor
