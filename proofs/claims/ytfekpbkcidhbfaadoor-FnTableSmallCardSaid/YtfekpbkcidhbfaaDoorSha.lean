import Derived.Test.YtfekpbkcidhbfaaDoorBase
/- SHA-256 in plain words. -/
namespace Go.Proofs.YtfekpbkcidhbfaaDoor
open Go

abbrev W32 := BitVec 32
/-- a word as a value -/
def uv (x : W32) : Value := .int .u32 (x.toNat : Int)
def rotr (x : W32) (n : Nat) : W32 := x >>> n ||| x <<< (32 - n)
structure S8 where
  (a b c d e f g h : W32)
def sg0 (x : W32) : W32 := rotr x 7 ^^^ rotr x 18 ^^^ x >>> 3
def sg1 (x : W32) : W32 := rotr x 17 ^^^ rotr x 19 ^^^ x >>> 10
def big1 (x : W32) : W32 := rotr x 6 ^^^ rotr x 11 ^^^ rotr x 25
def big0 (x : W32) : W32 := rotr x 2 ^^^ rotr x 13 ^^^ rotr x 22
def chW (x y z : W32) : W32 := (x &&& y) ^^^ (~~~x &&& z)
def majW (x y z : W32) : W32 := (x &&& y) ^^^ (x &&& z) ^^^ (y &&& z)
def byteW (l : List UInt8) (i : Nat) : W32 := BitVec.ofNat 32 (l.getD i 0).toNat
def wordW (l : List UInt8) (i : Nat) : W32 := byteW l (4*i) <<< 24 ||| byteW l (4*i+1) <<< 16 ||| byteW l (4*i+2) <<< 8 ||| byteW l (4*i+3)
/-- the first k words of a block's schedule -/
def sched (l : List UInt8) : Nat → List W32
  | 0 => []
  | k + 1 => sched l k ++ [if k < 16 then wordW l k else (sched l k).getD (k-16) 0 + sg0 ((sched l k).getD (k-15) 0) + (sched l k).getD (k-7) 0 + sg1 ((sched l k).getD (k-2) 0)]
theorem sched_len (l : List UInt8) (k : Nat) : (sched l k).length = k := by
  induction k with
  | zero => rfl
  | succ k ih => simp [sched, ih]
def K64 : List W32 := [0x428a2f98, 0x71374491, 0xb5c0fbcf, 0xe9b5dba5, 0x3956c25b, 0x59f111f1, 0x923f82a4, 0xab1c5ed5,
  0xd807aa98, 0x12835b01, 0x243185be, 0x550c7dc3, 0x72be5d74, 0x80deb1fe, 0x9bdc06a7, 0xc19bf174,
  0xe49b69c1, 0xefbe4786, 0x0fc19dc6, 0x240ca1cc, 0x2de92c6f, 0x4a7484aa, 0x5cb0a9dc, 0x76f988da,
  0x983e5152, 0xa831c66d, 0xb00327c8, 0xbf597fc7, 0xc6e00bf3, 0xd5a79147, 0x06ca6351, 0x14292967,
  0x27b70a85, 0x2e1b2138, 0x4d2c6dfc, 0x53380d13, 0x650a7354, 0x766a0abb, 0x81c2c92e, 0x92722c85,
  0xa2bfe8a1, 0xa81a664b, 0xc24b8b70, 0xc76c51a3, 0xd192e819, 0xd6990624, 0xf40e3585, 0x106aa070,
  0x19a4c116, 0x1e376c08, 0x2748774c, 0x34b0bcb5, 0x391c0cb3, 0x4ed8aa4a, 0x5b9cca4f, 0x682e6ff3,
  0x748f82ee, 0x78a5636f, 0x84c87814, 0x8cc70208, 0x90befffa, 0xa4506ceb, 0xbef9a3f7, 0xc67178f2]
def H0 : S8 := ⟨0x6a09e667, 0xbb67ae85, 0x3c6ef372, 0xa54ff53a, 0x510e527f, 0x9b05688c, 0x1f83d9ab, 0x5be0cd19⟩
def tOne (s : S8) (k w : W32) : W32 := s.h + big1 s.e + chW s.e s.f s.g + k + w
def tTwo (s : S8) : W32 := big0 s.a + majW s.a s.b s.c
def rnd (s : S8) (k w : W32) : S8 := ⟨tOne s k w + tTwo s, s.a, s.b, s.c, s.d + tOne s k w, s.e, s.f, s.g⟩
/-- the first i rounds -/
def rnds (w : List W32) (s : S8) : Nat → S8
  | 0 => s
  | i + 1 => rnd (rnds w s i) (K64.getD i 0) (w.getD i 0)
def addS (x y : S8) : S8 := ⟨x.a + y.a, x.b + y.b, x.c + y.c, x.d + y.d, x.e + y.e, x.f + y.f, x.g + y.g, x.h + y.h⟩
def mixS (h : S8) (l : List UInt8) : S8 := addS h (rnds (sched l 64) h 64)
/-- the block number i of bytes -/
def blk (l : List UInt8) (i : Nat) : List UInt8 := (l.drop (64*i)).take 64
/-- the state behind the first n blocks -/
def blks (h : S8) (l : List UInt8) : Nat → S8
  | 0 => h
  | n + 1 => mixS (blks h l n) (blk l n)
/-- how many noughts stand behind n bytes and one -/
def zerosN (n : Nat) : Nat := (55 + 64 - n % 64) % 64
def countB (n : Nat) : List UInt8 := (List.range 8).map fun i => UInt8.ofNat (n * 8 / 256 ^ (7 - i))
def endB (n : Nat) : List UInt8 := 128 :: List.replicate (zerosN n) 0 ++ countB n
theorem endB_len (n : Nat) : (endB n).length = 9 + zerosN n := by simp [endB, countB]; omega
theorem whole_len (n : Nat) : (n + (9 + zerosN n)) % 64 = 0 := by unfold zerosN; omega
def figC (n : Nat) : UInt8 := if n < 10 then UInt8.ofNat (48 + n) else UInt8.ofNat (87 + n)
/-- the eight figures of a word -/
def figW (x : W32) : List UInt8 := (List.range 8).map fun i => figC (x.toNat / 16 ^ (7 - i) % 16)
def figS (s : S8) : List UInt8 := [s.a, s.b, s.c, s.d, s.e, s.f, s.g, s.h].flatMap figW
def shaL (l : List UInt8) : List UInt8 := figS (blks H0 (l ++ endB l.length) ((l.length + 9 + zerosN l.length) / 64))
def shaS (s : ByteArray) : ByteArray := ⟨(shaL s.data.toList).toArray⟩
theorem figW_len (x : W32) : (figW x).length = 8 := by simp [figW]
theorem shaS_size (s : ByteArray) : (shaS s).size = 64 := by
  show ((figS _).toArray).size = 64
  simp [figS, figW_len]
theorem blk_len {l : List UInt8} {i n : Nat} (hi : i < n) (h : l.length = 64 * n) : (blk l i).length = 64 := by
  unfold blk; rw [List.length_take, List.length_drop]; omega
/-- block by block, in two parts -/
theorem blks_cat (h : S8) (x y : List UInt8) (m n : Nat) (hx : x.length = 64 * m) : blks h (x ++ y) (m + n) = blks (blks h x m) y n := by
  have h1 : ∀ k, k ≤ m → blks h (x ++ y) k = blks h x k := by
    intro k
    induction k with
    | zero => intro _; rfl
    | succ k ih =>
      intro hk
      show mixS (blks h (x ++ y) k) (blk (x ++ y) k) = mixS (blks h x k) (blk x k)
      rw [ih (by omega)]
      congr 1
      unfold blk
      rw [List.drop_append_of_le_length (by omega), List.take_append_of_le_length (by rw [List.length_drop]; omega)]
  induction n with
  | zero => exact h1 m (Nat.le_refl _)
  | succ n ih =>
    show mixS (blks h (x ++ y) (m + n)) (blk (x ++ y) (m + n)) = mixS (blks (blks h x m) y n) (blk y n)
    rw [ih]
    congr 1
    unfold blk
    rw [show 64 * (m + n) = x.length + 64 * n by omega, List.drop_length_add_append]

/- the model's words of 32 bits -/
theorem wr32 (n : Int) : IntKind.u32.wrap n = n % 4294967296 := by
  unfold IntKind.wrap
  simp [IntKind.bits, IntKind.signed]
theorem uv_add (x y : W32) : IntKind.u32.wrap ((x.toNat : Int) + (y.toNat : Int)) = ((x + y).toNat : Int) := by
  rw [wr32, BitVec.toNat_add]; omega
theorem uv_wr (x : W32) : IntKind.u32.wrap (x.toNat : Int) = (x.toNat : Int) := by
  rw [wr32]; have := x.isLt; omega
theorem ofInt_nat (x : W32) : BitVec.ofInt 32 (x.toNat : Int) = x := by
  apply BitVec.eq_of_toNat_eq; simp
theorem uv_shl (x : W32) (c : Nat) : IntKind.u32.wrap ((x.toNat : Int) * 2 ^ c) = ((x <<< c).toNat : Int) := by
  rw [wr32, BitVec.toNat_shiftLeft, Nat.shiftLeft_eq]
  simp
theorem uv_shr (x : W32) (c : Nat) : (x.toNat : Int).fdiv (2 ^ c) = ((x >>> c).toNat : Int) := by
  rw [Int.fdiv_eq_ediv_of_nonneg _ (Int.pow_nonneg (by decide)), BitVec.toNat_ushiftRight, Nat.shiftRight_eq_div_pow]
  simp
theorem uv_or (x y : W32) : bits .or .u32 (x.toNat : Int) (y.toNat : Int) = ((x ||| y).toNat : Int) := by
  show IntKind.u32.wrap ((BitVec.ofInt 32 (x.toNat : Int) ||| BitVec.ofInt 32 (y.toNat : Int)).toNat : Int) = _
  rw [ofInt_nat, ofInt_nat, uv_wr]
theorem uv_and (x y : W32) : bits .and .u32 (x.toNat : Int) (y.toNat : Int) = ((x &&& y).toNat : Int) := by
  show IntKind.u32.wrap ((BitVec.ofInt 32 (x.toNat : Int) &&& BitVec.ofInt 32 (y.toNat : Int)).toNat : Int) = _
  rw [ofInt_nat, ofInt_nat, uv_wr]
theorem uv_xor (x y : W32) : bits .xor .u32 (x.toNat : Int) (y.toNat : Int) = ((x ^^^ y).toNat : Int) := by
  show IntKind.u32.wrap ((BitVec.ofInt 32 (x.toNat : Int) ^^^ BitVec.ofInt 32 (y.toNat : Int)).toNat : Int) = _
  rw [ofInt_nat, ofInt_nat, uv_wr]
theorem uv_not (x : W32) : bits .xor .u32 4294967295 (x.toNat : Int) = ((~~~x).toNat : Int) := by
  show IntKind.u32.wrap ((BitVec.ofInt 32 4294967295 ^^^ BitVec.ofInt 32 (x.toNat : Int)).toNat : Int) = _
  rw [ofInt_nat, uv_wr]
  congr 2
theorem uv_div (x : W32) (c : Nat) : (x.toNat : Int) / 2 ^ c = ((x >>> c).toNat : Int) := by
  rw [← uv_shr, Int.fdiv_eq_ediv_of_nonneg _ (Int.pow_nonneg (by decide))]
theorem run_shl {P : Program} (x : W32) (yk : IntKind) (c : Nat) (hc : c < 32) (w : World) : (Op.shift .shl .u32 (x.toNat : Int) yk (c : Int)).run P w = .ok (.int .u32 ((x <<< c).toNat : Int)) w := by
  unfold Op.shift
  rw [if_neg (by omega)]
  show Result.ok (Value.int IntKind.u32 (IntKind.u32.wrap ((x.toNat : Int) * 2 ^ (min (c : Int).toNat IntKind.u32.bits)))) w = _
  rw [show min (c : Int).toNat IntKind.u32.bits = c by show min (c : Int).toNat 32 = c; omega, uv_shl]
theorem run_shr {P : Program} (x : W32) (yk : IntKind) (c : Nat) (hc : c < 32) (w : World) : (Op.shift .shr .u32 (x.toNat : Int) yk (c : Int)).run P w = .ok (.int .u32 ((x >>> c).toNat : Int)) w := by
  unfold Op.shift
  rw [if_neg (by omega)]
  show Result.ok (Value.int IntKind.u32 ((x.toNat : Int).fdiv (2 ^ (min (c : Int).toNat IntKind.u32.bits)))) w = _
  rw [show min (c : Int).toNat IntKind.u32.bits = c by show min (c : Int).toNat 32 = c; omega, uv_shr]
end Go.Proofs.YtfekpbkcidhbfaaDoor
