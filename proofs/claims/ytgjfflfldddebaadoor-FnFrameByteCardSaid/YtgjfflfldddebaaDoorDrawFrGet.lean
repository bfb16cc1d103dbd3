import Derived.Test.YtgjfflfldddebaaDoorDrawFrame
import Derived.Test.YtgjfflfldddebaaDoorFramePI
import Derived.Test.YtgjfflfldddebaaDoorShape
import Derived.Test.YtgjfflfldddebaaDoorRowM
import Derived.Test.YtgjfflfldddebaaDoorKept
import Derived.Lib.ConvBytes
import Derived.Laws.IdiomStrings
/- Drawn blocks. -/
namespace Go.Proofs.YtgjfflfldddebaaDoor
open Go Go.RowKit

def bCells (l : List UInt8) : List Value := l.map fun b => .int .u8 (b.toNat : Int)
theorem bCells_get {l : List UInt8} {j : Nat} (h : j < l.length) : (bCells l)[j]? = some (.int .u8 (l[j].toNat : Int)) := by simp [bCells, h]
theorem bCells_set (l : List UInt8) (j : Nat) (y : UInt8) : (bCells l).set j (.int .u8 (y.toNat : Int)) = bCells (l.set j y) := by simp [bCells, List.map_set]
theorem box_bytes {w : World} {base : Nat} {e : TypeId} {g n c : Nat} {xs : List Value} (h : OwnsM w base e 1 (.slice (some ⟨g, 0, none⟩) n c) n xs) : Box w g xs := by
  intro i v hv
  have hl := h.1
  have hi : i < xs.length := (List.getElem?_eq_some_iff.1 hv).1
  obtain ⟨g', c', e', -, -, -, -, hc⟩ := h.at (by omega)
  cases e'
  refine ⟨hc i v hv, ?_⟩
  rcases h.2 with ⟨hn, _⟩ | ⟨g', cap, cur, fz, hv2, _, hg, hm, h1, _, h3, _⟩
  · cases hn
  · simp only [Value.slice.injEq, Option.some.injEq, Addr.mk.injEq] at hv2
    obtain ⟨⟨rfl, -⟩, -, rfl⟩ := hv2
    unfold World.frozen?
    rw [hg]
    obtain ⟨lo, hi2⟩ := fz
    show (decide (lo ≤ i) && decide (i < hi2)) = false
    rcases hm with hm | hm
    · have : ¬ lo ≤ i := by simp only at hm; omega
      simp [this]
    · simp only at hm
      subst hm
      simp
theorem box_set {w : World} {b : Nat} {cs : List Value} (h : Box w b cs) (i : Nat) (v : Value) : Box (w.setCell ⟨b, i, none⟩ v) b (cs.set i v) := by
  intro j u hj
  by_cases e : j = i
  · subst e
    have hl : j < cs.length := by
      have := (List.getElem?_eq_some_iff.1 hj).1
      simpa using this
    rw [List.getElem?_set_self hl] at hj
    cases hj
    obtain ⟨h1, h2⟩ := h j cs[j] (List.getElem?_eq_getElem hl)
    exact ⟨by simp [go_sem, h1], by simp [go_sem, h2]⟩
  · rw [List.getElem?_set_ne (fun q => e q.symm)] at hj
    obtain ⟨h1, h2⟩ := h j u hj
    have e2 : ¬ i = j := fun q => e q.symm
    exact ⟨by simp [go_sem, h1], by simp [go_sem, h2]⟩
theorem wrap_byte {q : Nat} (h : q ≤ 100) : IntKind.u8.wrap (q : Int) = (q : Int) := by
  show ((q : Int)) % 256 = q
  omega
theorem bits_byte (a b : Int) : ∃ y : UInt8, bits .xor .u8 a b = (y.toNat : Int) := by
  obtain ⟨z, hz⟩ : ∃ z : Int, bits .xor .u8 a b = z % 256 := ⟨_, rfl⟩
  refine ⟨UInt8.ofNat (z % 256).toNat, ?_⟩
  rw [hz]
  simp
  omega
theorem own_prefixF {w : World} {base : Nat} {e : TypeId} {g n c k : Nat} {xs : List Value} (h : w.ownsRow base e 1 (.slice (some ⟨g, 0, none⟩) n c) n xs) (hk : k ≤ n) : w.ownsRow base e 1 (.slice (some ⟨g, 0, none⟩) k c) k (xs.take k) := by
  have hl := h.1
  refine ⟨by rw [List.length_take, hl]; omega, ?_⟩
  rcases h.2 with ⟨hv, hn⟩ | ⟨g', cap, cur, hv, hb, hg, h1, h2, h3, h4⟩
  · cases hv
  · simp only [Value.slice.injEq] at hv
    obtain ⟨ha, -, rfl⟩ := hv
    cases ha
    refine .inr ⟨g, c, cur, rfl, hb, hg, Nat.le_trans hk h1, h2, h3, ?_⟩
    rw [← h4, List.take_take, Nat.mul_one, Nat.mul_one, Nat.min_eq_left hk]
theorem own_partsG {w : World} {base : Nat} {e : TypeId} {size : Nat} {a : Option Addr} {n c : Nat} {xs : List Value} (h : w.ownsRow base e size (.slice a n c) n xs) (hn : 0 < n) : ∃ g, a = some ⟨g, 0, none⟩ ∧ n ≤ c ∧ base ≤ g ∧ g < w.heap.size := by
  rcases h.2 with ⟨_, h0⟩ | ⟨g, cap, cur, hv, hb, hg, h1, h2, _⟩
  · omega
  · simp only [Value.slice.injEq] at hv
    obtain ⟨rfl, _, rfl⟩ := hv
    exact ⟨g, rfl, h1, hb, (Array.getElem?_eq_some_iff.1 hg).1⟩
theorem infoStrD : (Tryd.prog.info? 9).map (fun i => (i.zero, i.size, i.bytes)) = some (some (.string ⟨#[]⟩), 1, 16) := by kernel_rfl
theorem cellsNewD (w : World) (cs : List Value) (e : TypeId) : ∀ j u, cs[j]? = some u → (w.alloc (.cells cs.toArray e)).cell? ((⟨w.heap.size, 0, none⟩ : Addr).add j) = some u := by
  intro j u h
  rw [addr_add, Nat.zero_add]
  exact (Box.alloc w cs.toArray e j u (by simpa using h)).1
def FrGetP (w : World) (e : Ending) (w' : World) : Prop := ∃ (t n : Int) (v : Value) (L : List ByteArray), e = .returned (.tuple #[.int .i64 t, .int .i64 n, v]) ∧ w'.ownsRow w.heap.size 9 1 v L.length (L.map .string) ∧ (∀ s ∈ L, s.size ≤ 400) ∧ L.length ≤ 6 ∧ (0 ≤ t ∧ t ≤ 10) ∧ (0 ≤ n ∧ n ≤ 10) ∧ Below w.heap.size w w'
def litA3 : List ByteArray := [⟨#[]⟩, ⟨#[120]⟩, ⟨#[97, 110, 111, 116, 104, 101, 114, 32, 98, 108, 111, 99, 107]⟩]
theorem litA3_size : ∀ s ∈ litA3, s.size ≤ 24 := by
  intro s hs
  simp only [litA3, List.mem_cons, List.not_mem_nil, or_false] at hs
  rcases hs with rfl | rfl | rfl <;> decide
theorem putB_pos {t n : Nat} {x y : ByteArray} (h : y ∈ putB t n x) : 16 ≤ y.size := by
  unfold putB putL at h
  obtain ⟨l, hl, rfl⟩ := List.mem_map.1 h
  obtain ⟨i, _, rfl⟩ := List.mem_map.1 hl
  have := block_len t n (partsN x.data.toList.length) i x.data.toList
  show 16 ≤ (blockL t n (partsN x.data.toList.length) i x.data.toList).length
  omega
def GByte (r gb cap : Nat) (s : ByteArray) (k j : Nat) (x : UInt8) : Nat → Value → World → Prop
  | 0, v, _ | 2, v, _ => v = .slice (some ⟨gb, 0, none⟩) s.size cap
  | 1, v, _ | 3, v, _ => v = .int .i64 (j : Int)
  | 4, v, _ | 11, v, _ => v = .pointer (some ⟨gb, j, none⟩)
  | 5, v, _ => v = .int .u8 (x.toNat : Int)
  | 6, v, _ => v = .pointer (some ⟨r, 0, none⟩)
  | 7, v, _ => FNat 100 v
  | 8, v, _ => ∃ q : Nat, q ≤ 100 ∧ v = .int .i64 (q : Int)
  | 9, v, _ => ∃ q : Nat, q ≤ 100 ∧ v = .int .u8 (q : Int)
  | 10, v, _ => ∃ y : UInt8, v = .int .u8 (y.toNat : Int)
  | _, _, _ => k = k
theorem putB_small {t n : Nat} (ht : t < 10) (hn : n < 10) {x : ByteArray} (hx : x.size ≤ 300) : 1 ≤ (putB t n x).length ∧ (putB t n x).length ≤ 5 ∧ ∀ y ∈ putB t n x, y.size ≤ 200 := by
  have h : frameOkB t n x = true := by
    unfold frameOkB inB
    simp only [Bool.and_eq_true, decide_eq_true_eq]
    omega
  have e : putI t n x = putB t n x := by rw [putI_yes h]; simp
  have h1 := putI_small t n x
  have h2 := putI_none h
  rw [e] at h1 h2
  refine ⟨h2, ?_, h1.2⟩
  rw [putB_len]
  unfold partsN
  omega
end Go.Proofs.YtgjfflfldddebaaDoor
