import Derived.Test.YtjbkhamfingoiaaDrawAny
import Derived.Test.YtjbkhamfingoiaaDiskLaw
import Derived.Test.YtjbkhamfingoiaaWm
import Derived.Handy
/- The walk of FnDiskStop. -/
namespace Go.Proofs.Ytjbkhamfingoiaa
open Go Go.RowKit

theorem AnyX.okD' {d : DiskD} (h : AnyX d) : OkDisk d := ⟨by have := h.1; unfold maxLen; omega, fun s hs => by have := h.2.2.1 s hs; unfold maxLen; omega, by have := h.2.1; unfold maxLen; omega, fun x hx => by have := h.2.2.2.1 x hx; unfold OkWait maxLen; omega⟩

/-- the disk in the i-th round, of one that goes on for L writes and had n waiting -/
def StopX (x : DiskD) (i L n : Nat) : Prop := diskOk x = true ∧ OkDisk x ∧ x.2.1.length ≤ n + i ∧ (x.2.2 = 0 ∨ x.2.2 + i = L) ∧ 0 ≤ x.2.2 ∧ (x.2.1.length : Int) + x.2.2 = n + L ∧ L ≤ 2

theorem DiskR.left {w : World} {a : Option Addr} {ca : Nat} {e : Option Addr} {ce : Nat} {x : DiskD} (z : Int) (h : DiskR w (.agg #[.slice a x.1.length ca, .slice e x.2.1.length ce, .int .i64 x.2.2]) x) : DiskR w (.agg #[.slice a x.1.length ca, .slice e x.2.1.length ce, .int .i64 z]) (x.1, x.2.1, z) := by
  obtain ⟨a', ca', b', cb', he, h1, h2, h3⟩ := h
  simp only [Value.agg.injEq, Array.mk.injEq, List.cons.injEq, Value.slice.injEq, and_true, true_and] at he
  obtain ⟨⟨rfl, rfl⟩, rfl, rfl⟩ := he
  exact ⟨_, _, _, _, rfl, h1, h2, h3⟩
def wB : ByteArray := ⟨#[119]⟩
theorem stop_zero {x : DiskD} {i : Nat} (h : diskOk x = true) (h0 : x.2.2 = 0) (hi : i < 4) : writeTop x i wB = x := by
  unfold writeTop dWrite
  rw [h, show takesB (i : Int) wB = true by simp only [takesB, decide_eq_true_eq]; exact ⟨by omega, by omega, by decide⟩]
  simp [h0]
theorem stop_takes {i : Nat} (hi : i < 4) : takesB (i : Int) wB = true := by simp only [takesB, decide_eq_true_eq]; exact ⟨by omega, by omega, by decide⟩
theorem stop_pos {x : DiskD} {i : Nat} (h : diskOk x = true) (h0 : 0 < x.2.2) (hi : i < 4) : writeTop x i wB = (x.1, x.2.1 ++ [((i : Int), wB)], x.2.2 - 1) := by
  rw [writeTop_eq h (stop_takes hi) (by omega)]
  simp [spendL, h0]
theorem StopX.next {x : DiskD} {i L n : Nat} (h : StopX x i L n) (hi : i < 4) (hn : n ≤ 1000) : StopX (writeTop x i wB) (i + 1) L n := by
  obtain ⟨h1, h2, h3, h4, h5, h6, h7⟩ := h
  by_cases h0 : x.2.2 = 0
  · rw [stop_zero h1 h0 hi]
    exact ⟨h1, h2, by omega, .inl h0, h5, h6, h7⟩
  · have hp : 0 < x.2.2 := by omega
    have hf := writeTop_fine h1 (stop_takes hi) h0
    have hk : OkDisk (writeTop x i wB) := by
      unfold writeTop
      rw [h1, stop_takes hi, if_pos rfl, if_pos rfl]
      exact dWrite_ok h2 (by unfold maxLen; omega) (by decide)
    rw [stop_pos h1 hp hi] at hf hk ⊢
    exact ⟨hf, hk, by simp; omega, by show x.2.2 - 1 = 0 ∨ x.2.2 - 1 + ((i + 1 : Nat) : Int) = L; omega, by show 0 ≤ x.2.2 - 1; omega, by show ((x.2.1 ++ [((i : Int), wB)]).length : Int) + (x.2.2 - 1) = n + L; simp; omega, h7⟩

set_option maxRecDepth 100000 in
set_option maxHeartbeats 4000000 in
theorem fnDiskStopWalk (a : Option Addr) (c : Nat) (l : List UInt8) {w : World} (hl : l.length ≤ c) (hc : c ≤ maxLen) (h : BytesS w a l) (a2 : Option Addr) (c2 : Nat) (l2 : List UInt8) (_hl2 : l2.length ≤ c2) (hc2 : c2 ≤ maxLen) (_h2 : BytesS w a2 l2) :
    Calls Try.prog 6 #[.slice a l.length c, .slice a2 l2.length c2] w fun e w' => e = .returned (.bool true) ∧ Below w.heap.size w w' := by
  have hcl := hc
  have hcl2 := hc2
  unfold maxLen at hcl hcl2
  by_cases hb : (1048576 : Int) < (l.length : Int)
  · go_enter Try.func6, Try.ntmps6
    go_wp2
    go_ret
    exact ⟨rfl, Below.refl _ _⟩
  have hb' : (l.length : Int) ≤ 1048576 := by omega
  clear hb
  by_cases hm : (1048576 : Int) < (l2.length : Int)
  · go_enter Try.func6, Try.ntmps6
    go_wp2
    go_ret
    exact ⟨rfl, Below.refl _ _⟩
  have hm' : (l2.length : Int) ≤ 1048576 := by omega
  clear hm
  go_enter Try.func6, Try.ntmps6
  go_wp2_with fail
  refine (drawFlush_any a c l _ hl hc h).mono ?_
  rintro e w1 ⟨u, d, rfl, r1, ax, b1⟩
  obtain ⟨a1, ca1, e1, ce1, rfl, _⟩ := id r1
  have hhi : d.2.2 ≤ 9223372036854775807 := by have := ax.2.2.2.2; omega
  have hlw : d.2.1.length ≤ 1048576 := by have := ax.2.1; omega
  have okd := ax.okD'
  have bd := Box.alloc w1 #[.slice a1 d.1.length ca1, .slice e1 d.2.1.length ce1, .int .i64 d.2.2] 26
  have R1 := r1.below (below_alloc w1 (.cells #[.slice a1 d.1.length ca1, .slice e1 d.2.1.length ce1, .int .i64 d.2.2] 26))
  have B1 := b1.alloc b1.size (.cells #[.slice a1 d.1.length ca1, .slice e1 d.2.1.length ce1, .int .i64 d.2.2] 26)
  have BA := below_alloc w1 (.cells #[.slice a1 d.1.length ca1, .slice e1 d.2.1.length ce1, .int .i64 d.2.2] 26)
  have HR1 := Lib.hid r1
  have HB0 := Lib.hid b1
  clear b1 r1
  go_wp2_with fail
  generalize w1.alloc (.cells #[.slice a1 d.1.length ca1, .slice e1 d.2.1.length ce1, .int .i64 d.2.2] 26) = w3 at bd R1 B1 BA ⊢
  have R2 := Lib.hid R1
  have KS : ∀ w' : World, Below w3.heap.size w3 w' → w'.cell? ⟨w1.heap.size, 0, none⟩ = some (.slice a1 d.1.length ca1) ∧ w'.cell? ⟨w1.heap.size, 1, none⟩ = some (.slice e1 d.2.1.length ce1) ∧ w'.cell? ⟨w1.heap.size, 2, none⟩ = some (.int .i64 d.2.2) ∧ Below w3.heap.size w3 w' :=
    fun w' hb => ⟨((bd.below hb) 0 _ rfl).1, ((bd.below hb) 1 _ rfl).1, ((bd.below hb) 2 _ rfl).1, hb⟩
  obtain ⟨x0, x1, x2, -⟩ := KS w3 (Below.refl _ _)
  clear R1
  cases hok : diskOk d
  · have HO := Lib.hid hok
    clear hok
    go_region_held3 (fun w' => w'.cell? ⟨w1.heap.size, 0, none⟩ = some (.slice a1 d.1.length ca1) ∧ w'.cell? ⟨w1.heap.size, 1, none⟩ = some (.slice e1 d.2.1.length ce1) ∧ w'.cell? ⟨w1.heap.size, 2, none⟩ = some (.int .i64 d.2.2) ∧ Below w3.heap.size w3 w')
      ((refine KS _ ?_; (first | exact C8 | exact C7 | exact C6 | exact Below.refl _ _ | exact (Below.refl _ _).drew)))
      (first
        | (go_at_call 20; refine (implDiskOk_any _ d _ (R2.out.below (Below.refl _ _).drew)).mono ?_; rintro e w6 ⟨rfl, b6⟩; rw [HO.out]; have C6 : Below w3.heap.size w3 w6 := (Below.refl _ _).drew.trans b6)
        | (go_at_call 21; refine (specDiskOk_any _ d _ (R2.out.below C7)).mono ?_; rintro e w8 ⟨rfl, b8⟩; rw [HO.out]; have C8 : Below w3.heap.size w3 w8 := C7.trans (b8.mono C7.size))
        | (go_at_call 21; refine (specDiskOk_any _ d _ (R2.out.below C6)).mono ?_; rintro e w7 ⟨rfl, b7⟩; rw [HO.out]; have C7 : Below w3.heap.size w3 w7 := C6.trans (b7.mono C6.size)))
    obtain ⟨xa9, xb9, xc9, -⟩ := KS _ C8
    go_wp2_with fail
    go_region_held3 (fun w' => w'.cell? ⟨w1.heap.size, 0, none⟩ = some (.slice a1 d.1.length ca1) ∧ w'.cell? ⟨w1.heap.size, 1, none⟩ = some (.slice e1 d.2.1.length ce1) ∧ w'.cell? ⟨w1.heap.size, 2, none⟩ = some (.int .i64 d.2.2) ∧ Below w3.heap.size w3 w')
      ((refine KS _ ?_; (first | exact C10 | exact C9 | exact C8 | exact C8.drew)))
      (first
        | (go_at_call 20; refine (implDiskOk_any _ d _ (R2.out.below C8.drew)).mono ?_; rintro e w9 ⟨rfl, b9⟩; rw [HO.out]; have C9 : Below w3.heap.size w3 w9 := C8.drew.trans (b9.mono C8.size))
        | (go_at_call 21; refine (specDiskOk_any _ d _ (R2.out.below C9)).mono ?_; rintro e w10 ⟨rfl, b10⟩; rw [HO.out]; have C10 : Below w3.heap.size w3 w10 := C9.trans (b10.mono C9.size)))
    go_wp2
    go_ret
    exact ⟨rfl, B1.trans (C10.mono B1.size)⟩
  · have HO := Lib.hid hok
    go_region_held3 (fun w' => w'.cell? ⟨w1.heap.size, 0, none⟩ = some (.slice a1 d.1.length ca1) ∧ w'.cell? ⟨w1.heap.size, 1, none⟩ = some (.slice e1 d.2.1.length ce1) ∧ w'.cell? ⟨w1.heap.size, 2, none⟩ = some (.int .i64 d.2.2) ∧ Below w3.heap.size w3 w')
      ((refine KS _ ?_; (first | exact C8 | exact C7 | exact C6 | exact Below.refl _ _ | exact (Below.refl _ _).drew)))
      (first
        | (go_at_call 20; refine (implDiskOk_any _ d _ (R2.out.below (Below.refl _ _).drew)).mono ?_; rintro e w6 ⟨rfl, b6⟩; rw [HO.out]; have C6 : Below w3.heap.size w3 w6 := (Below.refl _ _).drew.trans b6)
        | (go_at_call 21; refine (specDiskOk_any _ d _ (R2.out.below C7)).mono ?_; rintro e w8 ⟨rfl, b8⟩; rw [HO.out]; have C8 : Below w3.heap.size w3 w8 := C7.trans (b8.mono C7.size))
        | (go_at_call 21; refine (specDiskOk_any _ d _ (R2.out.below C6)).mono ?_; rintro e w7 ⟨rfl, b7⟩; rw [HO.out]; have C7 : Below w3.heap.size w3 w7 := C6.trans (b7.mono C6.size)))
    have bd8 := bd.below C8
    obtain ⟨xa9, fa9⟩ := bd8 0 _ rfl
    obtain ⟨xb9, fb9⟩ := bd8 1 _ rfl
    obtain ⟨xc9, fc9⟩ := bd8 2 _ rfl
    have hp : ((l2.length : Int) % 3) = ((l2.length % 3 : Nat) : Int) := by simp
    obtain ⟨L, hL⟩ : ∃ L, L = l2.length % 3 := ⟨_, rfl⟩
    have hL2 : L ≤ 2 := by omega
    rw [← hL] at hp
    clear hL
    go_wp2_with fail
    obtain ⟨w9, hw9⟩ : ∃ w9, w9 = (w8.setCell ⟨w1.heap.size, 2, none⟩ (.int .i64 (L : Int))).alloc (.cells #[.slice a1 d.1.length ca1, .slice e1 d.2.1.length ce1, .int .i64 (L : Int)] 26) := ⟨_, rfl⟩
    have KD := (KeptOut.refl (fun k => k = w1.heap.size) w8).setCell (p := ⟨w1.heap.size, 2, none⟩) rfl (.int .i64 (L : Int))
    have BX : Box w9 w8.heap.size [.slice a1 d.1.length ca1, .slice e1 d.2.1.length ce1, .int .i64 (L : Int)] := by
      have := Box.alloc (w8.setCell ⟨w1.heap.size, 2, none⟩ (.int .i64 (L : Int))) #[.slice a1 d.1.length ca1, .slice e1 d.2.1.length ce1, .int .i64 (L : Int)] 26
      rw [World.size_setCell, ← hw9] at this
      exact this
    have BD : Box w9 w1.heap.size [.slice a1 d.1.length ca1, .slice e1 d.2.1.length ce1, .int .i64 (L : Int)] := by
      rw [hw9]
      exact (bd8.set (i := 2) (.int .i64 (L : Int)) (by simp)).below (below_alloc _ _)
    have q1 : w1.heap.size < w3.heap.size := bd.lt
    have q2 := C8.size
    have q3 : w8.heap.size < w9.heap.size := BX.lt
    have BE : Below w1.heap.size w1 w9 := by
      rw [hw9]
      have e1 : Below w1.heap.size w1 w8 := BA.trans (C8.mono BA.size)
      exact (KD.below e1 e1.size (fun k hk => by omega)).alloc (by have := e1.size; simpa using this) _
    rw [← hw9]
    clear hw9 bd8 bd KS KD x0 x1 x2 xa9 fa9 xb9 fb9 xc9 fc9 hp
    have ST : StopX (d.1, d.2.1, (L : Int)) 0 L d.2.1.length := by
      obtain ⟨g1, g2, g3, g4⟩ := diskOk_all hok
      exact ⟨diskOk_of g1 g2 g3 (by show (-1 : Int) ≤ L; omega), okd, Nat.le_refl _, .inr (by simp), by show (0 : Int) ≤ L; omega, rfl, hL2⟩
    go_loopw [7] (fun i wr => ∃ (k : Nat) (x : DiskD) (ax : Option Addr) (cx : Nat) (ex : Option Addr) (fx : Nat), k ≤ 4 ∧ i = .int .i64 k ∧ StopX x k L d.2.1.length ∧ Box wr w8.heap.size [.slice ax x.1.length cx, .slice ex x.2.1.length fx, .int .i64 x.2.2] ∧ (∀ w', KeptOut (fun b => b = w8.heap.size) wr w' → DiskR w' (.agg #[.slice ax x.1.length cx, .slice ex x.2.1.length fx, .int .i64 x.2.2]) x) ∧ Box wr w1.heap.size [.slice a1 d.1.length ca1, .slice e1 d.2.1.length ce1, .int .i64 (L : Int)] ∧ Below w1.heap.size w1 wr) (fun i _ => 4 - (intOf i).toNat)
    case atStart =>
      exact ⟨0, (d.1, d.2.1, (L : Int)), a1, ca1, e1, ce1, by omega, rfl, ST, BX, fun w' K => (HR1.out.below (K.below BE BE.size (fun k hk => by omega))).left _, BD, BE⟩
    case round =>
      clear ST BX BD BE
      obtain ⟨k, x, ax2, cx, ex, fx, hk, rfl, hst, bx, hrx, bdd, hbe⟩ := hrel
      have RX := Lib.hid (hrx wr (KeptOut.refl _ _))
      have HRX := Lib.hid hrx
      have hq9 : d.2.1.length ≤ 9 := ax.2.1
      obtain ⟨x0, f0⟩ := bx 0 _ rfl
      obtain ⟨x1, f1⟩ := bx 1 _ rfl
      obtain ⟨x2, f2⟩ := bx 2 _ rfl
      have lx : w8.heap.size < wr.heap.size := bx.lt
      by_cases hlt : k < 4
      · have hk4 : (k : Int) < 4 := by omega
        go_wp2_with fail
        refine (implWrite_any _ x k wB _ RX.out (by decide) (by have := hst.2.2.2.1; have := hst.2.2.2.2.1; have := hst.2.2.2.2.2.2; omega) (by have := hst.2.2.1; omega)).mono ?_
        rintro e wy ⟨uy, rfl, oy, by1⟩
        obtain ⟨y, hy⟩ : ∃ y, y = writeTop x k wB := ⟨_, rfl⟩
        have HSY := Lib.hid (hst.next hlt (by omega))
        rw [← hy] at oy HSY
        obtain ⟨ay, cy, ey, fy, rfl, _⟩ := id oy
        have HY := Lib.hid hy
        clear hy
        have oky := HSY.out.2.1
        have BYb := Box.alloc wy #[.slice ay y.1.length cy, .slice ey y.2.1.length fy, .int .i64 y.2.2] 26
        have ALy := below_alloc wy (.cells #[.slice ay y.1.length cy, .slice ey y.2.1.length fy, .int .i64 y.2.2] 26)
        have OY := Lib.hid oy
        have LY := Lib.hid (fun k hk => (oy.lt (k := k) hk).1)
        have RY := Lib.hid ((oy.read oky).below ALy)
        have CY := (by1.trans (ALy.mono by1.size))
        have zy := by1.size
        have bxy := bx.below by1
        have bxz := bx.below CY
        have bdz := bdd.below CY
        have lxy : w8.heap.size < wy.heap.size := bxy.lt
        have hx2 : x.2.2 ≤ 2 := by have := hst.2.2.2.1; have := hst.2.2.2.2.1; have := hst.2.2.2.2.2.2; omega
        have hxl : (x.2.1.length : Int) ≤ 13 := by have := hst.2.2.1; omega
        have HB1 := Lib.hid by1
        clear oy by1 ALy RX x0 f0 x1 f1 x2 f2
        obtain ⟨x0, f0⟩ := bxy 0 _ rfl
        obtain ⟨x1, f1⟩ := bxy 1 _ rfl
        obtain ⟨x2, f2⟩ := bxy 2 _ rfl
        by_cases h0 : x.2.2 = 0
        · have hz : (x.2.2 == 0) = true := by simp [h0]
          have hz2 : x.2.2 ≤ 0 := by omega
          have HE := Lib.hid (show y = x by rw [HY.out]; exact stop_zero hst.1 h0 hlt)
          clear h0
          go_wp2_with fail
          refine (wmDisk_any _ _ x _ (by have h := RY.out; rw [← HE.out]; exact h) (HRX.out _ (.of_below CY))).mono ?_
          rintro e w6 ⟨rfl, b6⟩
          have bx6 := bxz.below b6
          have by6 := BYb.below b6
          have bd6 := bdz.below b6
          have C6 := CY.trans (b6.mono CY.size)
          have RY6 := Lib.hid (RY.out.below b6)
          have z6 := C6.size
          clear x0 f0 x1 f1 x2 f2
          obtain ⟨x0, f0⟩ := bx6 0 _ rfl
          obtain ⟨x1, f1⟩ := bx6 1 _ rfl
          obtain ⟨x2, f2⟩ := bx6 2 _ rfl
          obtain ⟨y0, -⟩ := by6 0 _ rfl
          obtain ⟨y1, -⟩ := by6 1 _ rfl
          obtain ⟨y2, -⟩ := by6 2 _ rfl
          have lx6 := bx6.lt
          go_wp2
          have KP := KeptOut.put3 w6 w8.heap.size (.slice ay y.1.length cy) (.slice ey y.2.1.length fy) (.int .i64 y.2.2)
          go_roundw
          case rel =>
            exact ⟨k + 1, y, ay, cy, ey, fy, by omega, by go_num, HSY.out, bx6.put3 _ _ _, fun w' K => RY6.out.kept (KP.trans K) (fun k hk e => by have := LY.out k hk; omega), bd6.kept KP (by omega), KP.below (hbe.trans (C6.mono hbe.size)) (by have := hbe.size; omega) (fun k hk => by omega)⟩
          case measure => simp [intOf]; omega
        · have hp : 0 < x.2.2 := by have := hst.2.2.2.2.1; omega
          have hz : (x.2.2 == 0) = false := by simp [h0]
          have HE := Lib.hid (show y = (x.1, x.2.1 ++ [((k : Int), wB)], x.2.2 - 1) by rw [HY.out]; exact stop_pos hst.1 hp hlt)
          clear h0
          have hyl : (y.2.2 != x.2.2 - 1) = false := by rw [HE.out]; simp
          have hyw : ((y.2.1.length : Int) != (x.2.1.length : Int) + 1) = false := by rw [HE.out]; simp
          have KP := KeptOut.put3 wy w8.heap.size (.slice ay y.1.length cy) (.slice ey y.2.1.length fy) (.int .i64 y.2.2)
          go_wp2_with fail
          have RYy := Lib.hid (OY.out.read oky)
          refine ⟨⟨k + 1, y, ay, cy, ey, fy, by omega, by go_num, HSY.out, (bxy.put3 _ _ _).below (below_alloc _ _), fun w' K => RYy.out.kept ((KP.alloc _).trans K) (fun k hk e => by have := LY.out k hk; omega), ((bdd.below HB1.out).kept KP (by omega)).below (below_alloc _ _), ?_⟩, by simp [intOf]; omega⟩
          have e1 := KP.below (hbe.trans (HB1.out.mono hbe.size)) (by have := hbe.size; omega) (fun k hk => by omega)
          exact e1.alloc (by have := e1.size; omega) _
      · have h4 : k = 4 := by omega
        subst h4
        have h0 : x.2.2 = 0 := by have := hst.2.2.2.1; have := hst.2.2.2.2.1; have := hst.2.2.2.2.2.2; omega
        have hz : (x.2.2 == 0) = true := by simp [h0]
        have hlen : ((x.2.1.length : Int) == (d.2.1.length : Int) + (L : Int)) = true := by have := hst.2.2.2.2.2.1; rw [beq_iff_eq]; omega
        have hf : flushTop x = x := by unfold flushTop dFlush; rw [hst.1, if_pos rfl, if_pos h0]
        have HF := Lib.hid hf
        have hd9 : (d.2.1.length : Int) ≤ 9 := by omega
        have hL3 : (L : Int) ≤ 2 := by omega
        have hL0 : (0 : Int) ≤ (L : Int) := by omega
        obtain ⟨d1, -⟩ := bdd 1 _ rfl
        obtain ⟨d2, -⟩ := bdd 2 _ rfl
        have ld : w1.heap.size < wr.heap.size := bdd.lt
        clear h0 hf
        go_wp2_with fail
        have KS2 : ∀ w' : World, Below wr.heap.size wr w' → w'.cell? ⟨w8.heap.size, 0, none⟩ = some (.slice ax2 x.1.length cx) ∧ w'.cell? ⟨w8.heap.size, 1, none⟩ = some (.slice ex x.2.1.length fx) ∧ w'.cell? ⟨w8.heap.size, 2, none⟩ = some (.int .i64 x.2.2) ∧ w'.cell? ⟨w1.heap.size, 1, none⟩ = some (.slice e1 d.2.1.length ce1) ∧ w'.cell? ⟨w1.heap.size, 2, none⟩ = some (.int .i64 (L : Int)) ∧ Below wr.heap.size wr w' :=
          fun w' hb => ⟨((bx.below hb) 0 _ rfl).1, ((bx.below hb) 1 _ rfl).1, ((bx.below hb) 2 _ rfl).1, ((bdd.below hb) 1 _ rfl).1, ((bdd.below hb) 2 _ rfl).1, hb⟩
        go_region_held3 (fun w' => w'.cell? ⟨w8.heap.size, 0, none⟩ = some (.slice ax2 x.1.length cx) ∧ w'.cell? ⟨w8.heap.size, 1, none⟩ = some (.slice ex x.2.1.length fx) ∧ w'.cell? ⟨w8.heap.size, 2, none⟩ = some (.int .i64 x.2.2) ∧ w'.cell? ⟨w1.heap.size, 1, none⟩ = some (.slice e1 d.2.1.length ce1) ∧ w'.cell? ⟨w1.heap.size, 2, none⟩ = some (.int .i64 (L : Int)) ∧ Below wr.heap.size wr w')
          ((refine KS2 _ ?_; (first | exact D12 | exact D11 | exact Below.refl _ _ | exact (Below.refl _ _).drew)))
          (first
            | (go_at_call 25; refine (implFlush_any _ x _ (RX.out.below (Below.refl _ _).drew) (by have := hst.2.2.2.1; have := hst.2.2.2.2.1; have := hst.2.2.2.2.2.2; omega) (by have := hst.2.2.1; omega)).mono ?_; rintro e w11 ⟨u11, rfl, o11, b11⟩; rw [HF.out] at o11; have D11 : Below wr.heap.size wr w11 := (Below.refl _ _).drew.trans b11)
            | (go_at_call 18; refine (wmDisk_any _ _ x _ (o11.read hst.2.1) (RX.out.below D11)).mono ?_; rintro e w12 ⟨rfl, b12⟩; have D12 : Below wr.heap.size wr w12 := D11.trans (b12.mono D11.size)))
        have BW : Below w.heap.size w wr := HB0.out.trans (hbe.mono HB0.out.size)
        have hwr : IntKind.i64.wrap ((d.2.1.length : Int) + (L : Int)) = (d.2.1.length : Int) + L := by simp [IntKind.wrap, IntKind.bits, IntKind.signed]; omega
        have HW := Lib.hid (show ((x.2.1.length : Int) == IntKind.i64.wrap ((d.2.1.length : Int) + (L : Int))) = true by rw [hwr]; exact hlen)
        clear hwr hlen
        go_wp2
        go_ret
        exact ⟨ret_bool HW.out, BW.trans (D12.mono BW.size)⟩
end Go.Proofs.Ytjbkhamfingoiaa
