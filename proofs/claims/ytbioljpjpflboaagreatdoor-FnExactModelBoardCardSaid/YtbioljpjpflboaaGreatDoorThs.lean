import Derived.Test.YtbioljpjpflboaaGreatDoorThingD
import Derived.Test.YtbioljpjpflboaaGreatDoorKept
import Derived.Deep.RegionHeld3
/- Lists of things. -/
namespace Go.Proofs.YtbioljpjpflboaaGreatDoor
open Go Go.RowKit

instance : Inhabited ThingD := ⟨⟨⟨#[]⟩, ⟨#[]⟩, 0, 0, false, [], ⟨#[]⟩⟩⟩
/-- a thing as it lies in a list: where its marks are, how much room they have -/
abbrev ThX := Option Addr × Nat × ThingD
def encT (x : ThX) : List Value := thingCells x.1 x.2.1 x.2.2
theorem encT_len (x : ThX) : (encT x).length = 7 := rfl
/-- the marks of one are there -/
def OkX (w : World) (x : ThX) : Prop := StrS w x.1 x.2.2.marks ∧ OkThing x.2.2
theorem OkX.below {w w' : World} {x : ThX} (h : OkX w x) (hb : Below w.heap.size w w') : OkX w' x := ⟨h.1.below hb, h.2⟩
/-- marks that are nowhere have no room -/
def NnX (x : ThX) : Prop := x.1 = none → x.2.2.marks.length = 0 ∧ x.2.1 = 0
def thsOf (xs : List ThX) : List ThingD := xs.map fun x => x.2.2
theorem thsOf_len (xs : List ThX) : (thsOf xs).length = xs.length := by simp [thsOf]
theorem thsOf_get (xs : List ThX) (k : Nat) (h : k < xs.length) : (thsOf xs)[k]'(by rw [thsOf_len]; exact h) = xs[k].2.2 := by simp [thsOf]
def bulkThingS (l : List ThingD) : Nat := l.length + sumTo bulkThing l l.length
theorem bulkThingS_len {l : List ThingD} (h : (bulkThingS l : Int) ≤ 1048576) : l.length ≤ 1048576 := by unfold bulkThingS at h; omega
theorem bulkThing_le2 {t : ThingD} {l : List ThingD} (ht : t ∈ l) (h : (bulkThingS l : Int) ≤ 1048576) : t.marks.length ≤ 1048576 := by
  obtain ⟨k, hk, rfl⟩ := List.mem_iff_getElem.1 ht
  have h1 := sumTo_succ bulkThing l k hk
  have h2 := sumTo_le bulkThing l (k + 1)
  have h3 : l[k].marks.length ≤ bulkThing l[k] := by unfold bulkThing bulkS; omega
  unfold bulkThingS at h
  omega
/-- a value reads as these things -/
def VwThingS (w : World) (v : Value) (l : List ThingD) : Prop := ∃ a c xs, v = .slice a (List.length xs) c ∧ ElS 7 encT w a xs ∧ thsOf xs = l ∧ ∀ x ∈ xs, OkX w x
/-- .. and marks that are nowhere have no room -/
def VnThingS (w : World) (v : Value) (l : List ThingD) : Prop := ∃ a c xs, v = .slice a (List.length xs) c ∧ ElS 7 encT w a xs ∧ thsOf xs = l ∧ (∀ x ∈ xs, OkX w x) ∧ ∀ x ∈ xs, NnX x
theorem VnThingS.vw {w : World} {v : Value} {l : List ThingD} (h : VnThingS w v l) : VwThingS w v l := let ⟨a, c, xs, e, h1, h2, h3, _⟩ := h; ⟨a, c, xs, e, h1, h2, h3⟩
theorem VwThingS.below {w w' : World} {v : Value} {l : List ThingD} (hb : Below w.heap.size w w') (h : VwThingS w v l) : VwThingS w' v l := let ⟨a, c, xs, e, h1, h2, h3⟩ := h; ⟨a, c, xs, e, h1.below hb, h2, fun x hx => (h3 x hx).below hb⟩
theorem VnThingS.below {w w' : World} {v : Value} {l : List ThingD} (hb : Below w.heap.size w w') (h : VnThingS w v l) : VnThingS w' v l := let ⟨a, c, xs, e, h1, h2, h3, h4⟩ := h; ⟨a, c, xs, e, h1.below hb, h2, fun x hx => (h3 x hx).below hb, h4⟩
/-- the block of the marks of one -/
def blkX (x : ThX) : Option Nat := (Value.slice x.1 x.2.2.marks.length x.2.1).ownBlock
/-- marks in memory of their own, from base on and ahead of lim -/
def OwX (w : World) (base lim : Nat) (x : ThX) : Prop :=
  w.ownsRow base 9 1 (.slice x.1 x.2.2.marks.length x.2.1) x.2.2.marks.length (x.2.2.marks.map .string) ∧ (∀ k, blkX x = some k → k < lim) ∧ OkThing2 x.2.2
theorem OwX.below {w w' : World} {base lim : Nat} {x : ThX} (h : OwX w base lim x) (hb : Below w.heap.size w w') : OwX w' base lim x := ⟨own_below h.1 hb, h.2⟩
theorem OwX.wide {w : World} {base lim base' lim' : Nat} {x : ThX} (h : OwX w base lim x) (h1 : base' ≤ base) (h2 : lim ≤ lim') : OwX w base' lim' x := ⟨own_mono h1 h.1, fun k hk => Nat.lt_of_lt_of_le (h.2.1 k hk) h2, h.2.2⟩
theorem OwX.kept {S : Nat → Prop} {w w' : World} {base lim : Nat} {x : ThX} (h : OwX w base lim x) (hb : KeptOut S w w') (hs : ∀ k, blkX x = some k → ¬ S k) : OwX w' base lim x := ⟨own_kept h.1 hb hs, h.2⟩
theorem OwX.lt {w : World} {base lim : Nat} {x : ThX} (h : OwX w base lim x) {k : Nat} (hk : blkX x = some k) : base ≤ k ∧ k < lim := ⟨(h.1.lt k hk).1, h.2.1 k hk⟩
theorem OwX.ok {w : World} {base lim : Nat} {x : ThX} (h : OwX w base lim x) : OkX w x := ⟨thing_str h.2.2 h.1, h.2.2.1⟩
theorem OwX.nn {w : World} {base lim : Nat} {x : ThX} (h : OwX w base lim x) : NnX x := fun e => by
  have := own_none h.1 e
  exact this
/-- no two lie in one block -/
def Apart (xs : List ThX) : Prop := xs.Pairwise fun x y => ∀ k, blkX x = some k → blkX y ≠ some k
/-- a value is these things in memory of its own, from base on and ahead of lim -/
def OwThingS (w : World) (base lim : Nat) (v : Value) (l : List ThingD) : Prop :=
  ∃ a c xs, v = .slice a (List.length xs) c ∧ (w.ownsRow base 57 7 (.slice a (List.length xs) c) (List.length xs) (List.flatMap encT xs) ∧ ∀ k, (Value.slice a (List.length xs) c).ownBlock = some k → k < lim) ∧
    xs.length ≤ maxLen ∧ thsOf xs = l ∧ (∀ x ∈ xs, OwX w base lim x) ∧ Apart xs ∧ ∀ x ∈ xs, ∀ k, (Value.slice a (List.length xs) c).ownBlock = some k → blkX x ≠ some k
theorem OwThingS.vn {w : World} {base lim : Nat} {v : Value} {l : List ThingD} (h : OwThingS w base lim v l) : VnThingS w v l := by
  obtain ⟨a, c, xs, rfl, h1, h2, h3, h4, h5, h6⟩ := h
  exact ⟨a, c, xs, rfl, own_el encT_len h2 h1.1, h3, fun x hx => (h4 x hx).ok, fun x hx => (h4 x hx).nn⟩
theorem OwThingS.vw {w : World} {base lim : Nat} {v : Value} {l : List ThingD} (h : OwThingS w base lim v l) : VwThingS w v l := h.vn.vw
theorem OwThingS.below {w w' : World} {base lim : Nat} {v : Value} {l : List ThingD} (hb : Below w.heap.size w w') (h : OwThingS w base lim v l) : OwThingS w' base lim v l := by
  obtain ⟨a, c, xs, rfl, h1, h2, h3, h4, h5, h6⟩ := h
  exact ⟨a, c, xs, rfl, ⟨own_below h1.1 hb, h1.2⟩, h2, h3, fun x hx => (h4 x hx).below hb, h5, h6⟩
theorem OwThingS.kept {S : Nat → Prop} {w w' : World} {base lim : Nat} {v : Value} {l : List ThingD} (hb : KeptOut S w w') (h : OwThingS w base lim v l) (hs : ∀ b, base ≤ b → b < lim → ¬ S b) : OwThingS w' base lim v l := by
  obtain ⟨a, c, xs, rfl, h1, h2, h3, h4, h5, h6⟩ := h
  exact ⟨a, c, xs, rfl, ⟨own_kept h1.1 hb (fun k hk => hs k (h1.1.lt k hk).1 (h1.2 k hk)), h1.2⟩, h2, h3, fun x hx => (h4 x hx).kept hb (fun k hk => hs k ((h4 x hx).lt hk).1 ((h4 x hx).lt hk).2), h5, h6⟩
theorem cellsThing {w wr : World} {b o : Nat} {l : List ThX} (hb : Below w.heap.size w wr) (hc : ∀ j, (h : j < l.length) → ∀ i v, (encT l[j])[i]? = some v → w.cell? ⟨b, o + j * 7 + i, none⟩ = some v) (k : Nat) (h : k < l.length) :
    wr.cell? ⟨b, o + k * 7, none⟩ = some (.string l[k].2.2.sp) ∧ wr.cell? ⟨b, o + k * 7 + 1, none⟩ = some (.string l[k].2.2.nm) ∧ wr.cell? ⟨b, o + k * 7 + 2, none⟩ = some (.int .i64 l[k].2.2.uid) ∧ wr.cell? ⟨b, o + k * 7 + 3, none⟩ = some (.int .i64 l[k].2.2.rev) ∧
      wr.cell? ⟨b, o + k * 7 + 4, none⟩ = some (.bool l[k].2.2.gone) ∧ wr.cell? ⟨b, o + k * 7 + 5, none⟩ = some (.slice l[k].1 l[k].2.2.marks.length l[k].2.1) ∧ wr.cell? ⟨b, o + k * 7 + 6, none⟩ = some (.string l[k].2.2.body) := by
  have g : ∀ i v, (encT l[k])[i]? = some v → wr.cell? ⟨b, o + k * 7 + i, none⟩ = some v := fun i v hv => by
    have h0 := hc k h i v hv
    rw [hb.cell (by have := World.block_lt_of_cell? w _ h0; simpa using this)]
    exact h0
  exact ⟨g 0 _ rfl, g 1 _ rfl, g 2 _ rfl, g 3 _ rfl, g 4 _ rfl, g 5 _ rfl, g 6 _ rfl⟩

theorem szThing_of (x : ThX) (left : Int) (w : World) (h0 : 0 ≤ left) (h1 : left ≤ 1048576) (hx : OkX w x) :
    Calls Tryz.prog 51 #[.agg #[.string x.2.2.sp, .string x.2.2.nm, .int .i64 x.2.2.uid, .int .i64 x.2.2.rev, .bool x.2.2.gone, .slice x.1 x.2.2.marks.length x.2.1, .string x.2.2.body], .int .i64 left] w fun e w' => e = .returned (.int .i64 (szR left (bulkThing x.2.2))) ∧ Below w.heap.size w w' :=
  szThing_any x.1 x.2.1 x.2.2 left w h0 h1 hx.1 hx.2
set_option maxHeartbeats 400000 in
theorem szThingS_c {v : Value} {l : List ThingD} {w : World} (h : VwThingS w v l) {left : Int} (h0 : 0 ≤ left) (h1 : left ≤ 1048576) :
    Calls Tryz.prog 18 #[v, .int .i64 left] w fun e w' => e = .returned (.int .i64 (szR left (bulkThingS l))) ∧ Below w.heap.size w w' := by
  obtain ⟨a, ca, xs, rfl, ⟨hl1, hl⟩, rfl, hok⟩ := h
  unfold maxLen at hl1
  have HLN := Lib.hid (thsOf_len xs)
  by_cases hlen : left < (xs.length : Int)
  · have HR := Lib.hid (show szR left (bulkThingS (thsOf xs)) = -1 by apply szR_no; unfold bulkThingS; rw [thsOf_len]; omega)
    go_enter Tryz.func18, Tryz.ntmps18
    go_wp2
    go_ret
    exact ⟨ret_int (by rw [HR.out]), Below.refl _ _⟩
  · have hle : (xs.length : Int) ≤ left := by omega
    clear hlen
    rcases hl with rfl | ⟨ba, oa, rfl, hca⟩
    · go_enter Tryz.func18, Tryz.ntmps18
      go_wp2
      refine wp_loop_rounds 1 ?_
      rw [rounds_succ]
      go_wp2
      go_ret
      exact ⟨ret_int (by rw [szR_yes (by simpa [bulkThingS, thsOf, sumTo_nil] using h0)]; simp [bulkThingS, thsOf, sumTo_nil]), Below.refl _ _⟩
    · have HC := Lib.hid hca
      have HOK := Lib.hid hok
      clear hca hok
      go_enter Tryz.func18, Tryz.ntmps18
      go_wp2
      go_loopw [1, 5] (fun r i wr => ∃ k : Nat, k ≤ xs.length ∧ i = .int .i64 k ∧ r = .int .i64 (left - xs.length - sumTo bulkThing (thsOf xs) k) ∧ (sumTo bulkThing (thsOf xs) k : Int) ≤ left - xs.length ∧ Below w.heap.size w wr) (fun _ i _ => xs.length - (intOf i).toNat)
      case atStart => exact ⟨0, Nat.zero_le _, rfl, by rw [sumTo_zero]; simp, by rw [sumTo_zero]; omega, Below.refl _ _⟩
      case round =>
        obtain ⟨k, hk, rfl, rfl, hs, hbel⟩ := hrel
        by_cases hlt : k < xs.length
        · obtain ⟨c0, c1, c2, c3, c4, c5, c6⟩ := cellsThing hbel HC.out k hlt
          have hz := (HOK.out xs[k] (List.getElem_mem _)).below hbel
          have HZ := Lib.hid hz
          clear hz
          have HS := Lib.hid (show sumTo bulkThing (thsOf xs) (k + 1) = sumTo bulkThing (thsOf xs) k + bulkThing xs[k].2.2 by rw [sumTo_succ bulkThing (thsOf xs) k (by rw [thsOf_len]; exact hlt), thsOf_get])
          have hle2 := sumTo_le bulkThing (thsOf xs) (k + 1)
          by_cases hbig : left - xs.length - sumTo bulkThing (thsOf xs) k < bulkThing xs[k].2.2
          · have HR := Lib.hid (show szR left (bulkThingS (thsOf xs)) = -1 by apply szR_no; rw [HS.out] at hle2; unfold bulkThingS; rw [HLN.out] at hle2 ⊢; omega)
            have HQ := Lib.hid (show szR (left - xs.length - sumTo bulkThing (thsOf xs) k) (bulkThing xs[k].2.2) = -1 from szR_no hbig)
            clear hle2 hbig
            go_wp2_with (go_at_call 51; refine (szThing_of xs[k] _ _ (by omega) (by omega) HZ.out).mono ?_; rintro e w1 ⟨rfl, hb1⟩; rw [HQ.out])
            go_ret
            exact ⟨ret_int (by rw [HR.out]), hbel.trans (hb1.mono hbel.size)⟩
          · have HQ := Lib.hid (show szR (left - xs.length - sumTo bulkThing (thsOf xs) k) (bulkThing xs[k].2.2) = left - xs.length - sumTo bulkThing (thsOf xs) k - bulkThing xs[k].2.2 from szR_yes (by omega))
            have hge : 0 ≤ left - xs.length - sumTo bulkThing (thsOf xs) k - bulkThing xs[k].2.2 := by omega
            clear hle2 hbig
            go_wp2_with (go_at_call 51; refine (szThing_of xs[k] _ _ (by omega) (by omega) HZ.out).mono ?_; rintro e w1 ⟨rfl, hb1⟩; rw [HQ.out])
            go_roundw
            case rel => exact ⟨k + 1, by omega, by go_num, by rw [HS.out]; go_num, by rw [HS.out]; omega, hbel.trans (hb1.mono hbel.size)⟩
            case measure => simp [intOf]; omega
        · have HS := Lib.hid (sumTo_full bulkThing (thsOf xs) k (by rw [HLN.out]; omega))
          go_wp2
          go_ret
          exact ⟨ret_int (by rw [HS.out] at hs ⊢; rw [szR_yes (by unfold bulkThingS; rw [HLN.out] at hs ⊢; omega)]; unfold bulkThingS; rw [HLN.out]; omega), hbel⟩

set_option maxRecDepth 100000 in
set_option maxHeartbeats 1000000 in
theorem eqThingS_c {v v' : Value} {l : List ThingD} {w : World} (h : VwThingS w v l) (h' : VwThingS w v' l) :
    Calls Tryz.prog 36 #[v, v'] w fun e w' => e = .returned (.bool true) ∧ Below w.heap.size w w' := by
  obtain ⟨a, ca, xs, rfl, ⟨hl1, hl⟩, hx, hok⟩ := h
  obtain ⟨b, cb, ys, rfl, ⟨_, hm⟩, hy, hokm⟩ := h'
  have hxl : xs.length = l.length := by rw [← hx, thsOf_len]
  have hyl : ys.length = l.length := by rw [← hy, thsOf_len]
  have HE := Lib.hid (show ∀ k (h1 : k < xs.length) (h2 : k < ys.length), xs[k].2.2 = ys[k].2.2 from fun k h1 h2 => by
    rw [← thsOf_get xs k h1, ← thsOf_get ys k h2]
    simp only [hx, hy])
  have hln : ys.length = xs.length := by rw [hxl, hyl]
  clear hx hy hxl hyl
  unfold maxLen at hl1
  have HLN := Lib.hid hln
  have hne : ((xs.length : Int) != (ys.length : Int)) = false := by rw [hln]; simp
  have hnil : xs.length = 0 → Calls Tryz.prog 36 #[.slice a xs.length ca, .slice b ys.length cb] w fun e w' => e = .returned (.bool true) ∧ Below w.heap.size w w' := by
    intro h0
    rw [h0] at hln
    rw [h0, hln]
    clear hl hm hl1 HE HLN hok hokm hne hln h0
    go_enter Tryz.func36, Tryz.ntmps36
    go_wp2
    refine wp_loop_rounds 1 ?_
    rw [rounds_succ]
    go_wp2
    go_ret
    exact ⟨rfl, Below.refl _ _⟩
  rcases hl with rfl | ⟨ba, oa, rfl, hca⟩
  · exact hnil rfl
  rcases hm with rfl | ⟨bb, ob, rfl, hcb⟩
  · exact hnil (by rw [← hln]; rfl)
  clear hnil
  have HC := Lib.hid hca
  have HD := Lib.hid hcb
  have HOK := Lib.hid hok
  have HOKM := Lib.hid hokm
  clear hca hcb hln hok hokm
  go_enter Tryz.func36, Tryz.ntmps36
  go_wp2
  go_loopw [5] (fun i wr => ∃ k : Nat, k ≤ xs.length ∧ i = .int .i64 k ∧ Below w.heap.size w wr) (fun i _ => xs.length - (intOf i).toNat)
  case atStart => exact ⟨0, Nat.zero_le _, rfl, Below.refl _ _⟩
  case round =>
    obtain ⟨k, hk, rfl, hbel⟩ := hrel
    by_cases hlt : k < xs.length
    · have hlt2 : k < ys.length := by rw [HLN.out]; exact hlt
      obtain ⟨c0, c1, c2, c3, c4, c5, c6⟩ := cellsThing hbel HC.out k hlt
      obtain ⟨e0, e1, e2, e3, e4, e5, e6⟩ := cellsThing hbel HD.out k hlt2
      have he := HE.out k hlt hlt2
      rw [← he] at e0 e1 e2 e3 e4 e5 e6
      have HZ := Lib.hid ((HOK.out _ (List.getElem_mem hlt)).below hbel.drew)
      have HY := Lib.hid (show StrS wr.drew ys[k].1 xs[k].2.2.marks by rw [he]; exact ((HOKM.out _ (List.getElem_mem hlt2)).below hbel.drew).1)
      have hk1 : (k : Int) < (ys.length : Int) := by omega
      clear he
      go_wp2
      go_region_held3 (fun w' => (w'.cell? ⟨ba, oa + k * 7, none⟩ = some (.string xs[k].2.2.sp) ∧ w'.cell? ⟨ba, oa + k * 7 + 1, none⟩ = some (.string xs[k].2.2.nm) ∧ w'.cell? ⟨ba, oa + k * 7 + 2, none⟩ = some (.int .i64 xs[k].2.2.uid) ∧ w'.cell? ⟨ba, oa + k * 7 + 3, none⟩ = some (.int .i64 xs[k].2.2.rev) ∧
          w'.cell? ⟨ba, oa + k * 7 + 4, none⟩ = some (.bool xs[k].2.2.gone) ∧ w'.cell? ⟨ba, oa + k * 7 + 5, none⟩ = some (.slice xs[k].1 xs[k].2.2.marks.length xs[k].2.1) ∧ w'.cell? ⟨ba, oa + k * 7 + 6, none⟩ = some (.string xs[k].2.2.body)) ∧
          (w'.cell? ⟨bb, ob + k * 7, none⟩ = some (.string xs[k].2.2.sp) ∧ w'.cell? ⟨bb, ob + k * 7 + 1, none⟩ = some (.string xs[k].2.2.nm) ∧ w'.cell? ⟨bb, ob + k * 7 + 2, none⟩ = some (.int .i64 xs[k].2.2.uid) ∧ w'.cell? ⟨bb, ob + k * 7 + 3, none⟩ = some (.int .i64 xs[k].2.2.rev) ∧
          w'.cell? ⟨bb, ob + k * 7 + 4, none⟩ = some (.bool xs[k].2.2.gone) ∧ w'.cell? ⟨bb, ob + k * 7 + 5, none⟩ = some (.slice ys[k].1 xs[k].2.2.marks.length ys[k].2.1) ∧ w'.cell? ⟨bb, ob + k * 7 + 6, none⟩ = some (.string xs[k].2.2.body))) (first | exact ⟨⟨c0, c1, c2, c3, c4, c5, c6⟩, e0, e1, e2, e3, e4, e5, e6⟩ | exact ⟨⟨cc0, cc1, cc2, cc3, cc4, cc5, cc6⟩, ee0, ee1, ee2, ee3, ee4, ee5, ee6⟩)
        (first | (go_at_call 80; refine (eqThing_any xs[k].1 ys[k].1 xs[k].2.1 ys[k].2.1 xs[k].2.2 _ HZ.out.1 HY.out).mono ?_; rintro e w1 ⟨rfl, hb⟩; have hbel1 := hbel.drew.trans (hb.mono hbel.size); obtain ⟨cc0, cc1, cc2, cc3, cc4, cc5, cc6⟩ := cellsThing hbel1 HC.out k hlt; obtain ⟨ee0, ee1, ee2, ee3, ee4, ee5, ee6⟩ := cellsThing hbel1 HD.out k hlt2; rw [← HE.out k hlt hlt2] at ee0 ee1 ee2 ee3 ee4 ee5 ee6))
      go_wp2
      go_roundw
      case rel => exact ⟨k + 1, by omega, by go_num, hbel1⟩
      case measure => simp [intOf]; omega
    · go_wp2
      go_ret
      exact ⟨rfl, hbel⟩

theorem infoThing : (Tryz.prog.info? 57).map (fun i => (i.zero, i.size, i.bytes)) = some (some (.agg #[.string ⟨#[]⟩, .string ⟨#[]⟩, .int .i64 0, .int .i64 0, .bool false, .slice none 0 0, .string ⟨#[]⟩]), 7, 96) := by kernel_rfl
theorem blk_some {g n c k : Nat} (h : (Value.slice (some ⟨g, 0, none⟩) n c).ownBlock = some k) : k = g := (Option.some.inj h).symm
/-- the things made so far -/
structure Made (w wr : World) (l : List ThingD) (k : Nat) (ys : List Value) (zs : List ThX) : Prop where
  len : zs.length = k
  row : ys.take (k * 7) = zs.flatMap encT
  ths : thsOf zs = l.take k
  own : ∀ z ∈ zs, OwX wr (w.heap.size + 1) wr.heap.size z
  apart : Apart zs
theorem Made.next {w wr w1 : World} {l : List ThingD} {k : Nat} {ys : List Value} {zs : List ThX} (h : Made w wr l k ys zs) (hb : Below wr.heap.size wr w1) (hsz : w.heap.size < wr.heap.size) (hlt : k < l.length) (hyl : ys.length = l.length * 7) {z : ThX} (hz : OwX w1 wr.heap.size w1.heap.size z) (ht : z.2.2 = l[k])
    {w2 : World} (hs : w2.heap.size = w1.heap.size) (hk : KeptOut (fun b => b = w.heap.size) w1 w2) :
    Made w w2 l (k + 1) ((((((((ys.set (k * 7) (.string z.2.2.sp)).set (k * 7 + 1) (.string z.2.2.nm)).set (k * 7 + 2) (.int .i64 z.2.2.uid)).set (k * 7 + 3) (.int .i64 z.2.2.rev)).set (k * 7 + 4) (.bool z.2.2.gone)).set (k * 7 + 5) (.slice z.1 z.2.2.marks.length z.2.1)).set (k * 7 + 6) (.string z.2.2.body))) (zs ++ [z]) := by
  have hzb : ∀ b, blkX z = some b → wr.heap.size ≤ b := fun b hb => (hz.lt hb).1
  refine ⟨by rw [List.length_append, h.len]; rfl, ?_, ?_, ?_, ?_⟩
  · have t0 : ys.take (k * 7) = _ := h.row
    have hk7 : k * 7 + 7 ≤ l.length * 7 := by rw [← Nat.succ_mul]; exact Nat.mul_le_mul_right _ hlt
    have t1 := take_set_next (p := k * 7) (v := .string z.2.2.sp) (by rw [hyl]; omega) t0
    have t2 := take_set_next (p := k * 7 + 1) (v := .string z.2.2.nm) (by simp only [List.length_set]; rw [hyl]; omega) t1
    have t3 := take_set_next (p := k * 7 + 2) (v := .int .i64 z.2.2.uid) (by simp only [List.length_set]; rw [hyl]; omega) t2
    have t4 := take_set_next (p := k * 7 + 3) (v := .int .i64 z.2.2.rev) (by simp only [List.length_set]; rw [hyl]; omega) t3
    have t5 := take_set_next (p := k * 7 + 4) (v := .bool z.2.2.gone) (by simp only [List.length_set]; rw [hyl]; omega) t4
    have t6 := take_set_next (p := k * 7 + 5) (v := .slice z.1 z.2.2.marks.length z.2.1) (by simp only [List.length_set]; rw [hyl]; omega) t5
    have t7 := take_set_next (p := k * 7 + 6) (v := .string z.2.2.body) (by simp only [List.length_set]; rw [hyl]; omega) t6
    rw [show (k + 1) * 7 = k * 7 + 7 from Nat.succ_mul _ _]
    refine t7.trans ?_
    rw [List.flatMap_append]
    simp [encT, thingCells]
  · unfold thsOf
    rw [List.map_append, List.map_singleton, ht]
    show thsOf zs ++ [l[k]] = _
    rw [h.ths, List.take_succ_eq_append_getElem hlt]
  · intro x hx
    rcases List.mem_append.1 hx with hx | hx
    · have h1 := (h.own x hx).below hb
      refine (h1.kept hk (fun b hbx => by have := (h.own x hx).lt hbx; omega)).wide (Nat.le_refl _) (by have := hb.size; omega)
    · obtain rfl := List.mem_singleton.1 hx
      exact (hz.kept hk (fun b hbx => by have := hzb b hbx; omega)).wide (by omega) (by omega)
  · refine List.pairwise_append.2 ⟨h.apart, List.pairwise_singleton _ _, ?_⟩
    intro x hx y hy b hbx hby
    obtain rfl := List.mem_singleton.1 hy
    have h1 := (h.own x hx).lt hbx
    have h2 := hzb b hby
    omega
set_option maxRecDepth 100000 in
set_option maxHeartbeats 1000000 in
theorem toThingS_c {v : Value} {l : List ThingD} {w : World} (h : VwThingS w v l) (hb : (bulkThingS l : Int) ≤ 1048576) :
    Calls Tryz.prog 26 #[v] w fun e w' => ∃ v', e = .returned v' ∧ OwThingS w' w.heap.size w'.heap.size v' l ∧ Below w.heap.size w w' := by
  obtain ⟨i0, hi, hz0, hz1, hz2⟩ := info_parts infoThing
  obtain ⟨a, ca, xs, rfl, ⟨hl1, hl⟩, hx, hok⟩ := h
  unfold maxLen at hl1
  have hxl : xs.length = l.length := by rw [← hx, thsOf_len]
  have hln : xs.length ≤ 1048576 := by rw [hxl]; exact bulkThingS_len hb
  have HB := Lib.hid hb
  clear hb
  rcases hl with rfl | ⟨ba, oa, rfl, hca⟩
  · obtain rfl : l = [] := by rw [← hx]; rfl
    go_enter Tryz.func26, Tryz.ntmps26
    go_wp2_with (refine wpList_make_full _ rfl (.tmp 6) (.tmp 6) 32 rfl w.heap.size 57 i0 (.agg #[.string ⟨#[]⟩, .string ⟨#[]⟩, .int .i64 0, .int .i64 0, .bool false, .slice none 0 0, .string ⟨#[]⟩]) 7 Tryz.underlying32 hi hz0 hz1 .i64 .i64 0 0 0 rfl rfl rfl rfl (by omega) (by unfold maxLen; omega) (Nat.le_refl _) ?_; intro w1 hown hgrow)
    have hbel : Below w.heap.size w w1 := (Below.refl _ _).grown hgrow (Nat.le_refl _) (by simp)
    have HO := Lib.hid hown
    clear hown
    refine wp_loop_rounds 1 ?_
    rw [rounds_succ]
    go_wp2
    go_ret
    refine ⟨_, rfl, ⟨_, _, [], rfl, ⟨?_, fun k hk => by have := (HO.out.lt k hk).2; exact this⟩, by simp, rfl, by simp, List.Pairwise.nil, by simp⟩, hbel⟩
    have h := HO.out
    rw [List.eq_nil_of_length_eq_zero (h.1.trans (Nat.zero_mul _))] at h
    exact h
  have HC := Lib.hid hca
  have HOK := Lib.hid hok
  have HXE := Lib.hid (show ∀ k (hk : k < xs.length) (h2 : k < l.length), xs[k].2.2 = l[k] from fun k hk h2 => by
    rw [← thsOf_get xs k hk]; simp only [hx])
  have HXL := Lib.hid hxl
  clear hca hok hx hxl
  go_enter Tryz.func26, Tryz.ntmps26
  go_wp2_with (refine wpList_make_full _ rfl (.tmp 6) (.tmp 6) 32 rfl w.heap.size 57 i0 (.agg #[.string ⟨#[]⟩, .string ⟨#[]⟩, .int .i64 0, .int .i64 0, .bool false, .slice none 0 0, .string ⟨#[]⟩]) 7 Tryz.underlying32 hi hz0 hz1 .i64 .i64 xs.length xs.length xs.length rfl rfl rfl rfl (by rw [hz2]; omega) (by unfold maxLen; omega) (Nat.le_refl _) ?_; intro w1 hown hgrow)
  have hbel : Below w.heap.size w w1 := (Below.refl _ _).grown hgrow (Nat.le_refl _) (by simp)
  go_loopw [4] (fun i wr => ∃ k : Nat, k ≤ xs.length ∧ i = .int .i64 k ∧ ∃ ys zs, wr.ownsRow w.heap.size 57 7 (.slice (some ⟨w.heap.size, 0, none⟩) xs.length xs.length) xs.length ys ∧ Made w wr l k ys zs ∧ Below w.heap.size w wr) (fun i _ => xs.length - (intOf i).toNat)
  case atStart => exact ⟨0, Nat.zero_le _, rfl, _, [], hown, ⟨rfl, by simp, rfl, by simp, List.Pairwise.nil⟩, hbel⟩
  case round =>
    clear hown hgrow hbel w1
    obtain ⟨k, hk, rfl, ys, zs, hown, hmd, hbel⟩ := hrel
    have HM := Lib.hid hmd
    have HO := Lib.hid hown
    clear hmd
    by_cases hlt : k < xs.length
    · have hll : k < l.length := by rw [← HXL.out]; exact hlt
      obtain ⟨c0, c1, c2, c3, c4, c5, c6⟩ := cellsThing hbel HC.out k hlt
      have hsz : w.heap.size < wr.heap.size := (hown.lt _ rfl).2
      have HZ := Lib.hid ((HOK.out _ (List.getElem_mem hlt)).below hbel)
      have hm1 : xs[k].2.2.marks.length ≤ 1048576 := by rw [HXE.out k hlt hll]; exact bulkThing_le2 (List.getElem_mem _) HB.out
      have hyl : ys.length = xs.length * 7 := hown.1
      have hk1 : k * 7 + 7 ≤ xs.length * 7 := by rw [← Nat.succ_mul]; exact Nat.mul_le_mul_right _ hlt
      have HYL := Lib.hid hyl
      clear hown hyl
      go_wp2_with fail
      refine (toThing_any xs[k].1 xs[k].2.1 xs[k].2.2 _ HZ.out.1 hm1).mono ?_
      rintro e w1 ⟨u, rfl, ⟨am, cm, rfl, hnm, hom⟩, hb1⟩
      obtain ⟨⟨q0, d0⟩, f0⟩ := own_cells HO.out hb1 (k * 7) (by omega)
      obtain ⟨⟨q1, d1⟩, f1⟩ := own_cells HO.out hb1 (k * 7 + 1) (by omega)
      obtain ⟨⟨q2, d2⟩, f2⟩ := own_cells HO.out hb1 (k * 7 + 2) (by omega)
      obtain ⟨⟨q3, d3⟩, f3⟩ := own_cells HO.out hb1 (k * 7 + 3) (by omega)
      obtain ⟨⟨q4, d4⟩, f4⟩ := own_cells HO.out hb1 (k * 7 + 4) (by omega)
      obtain ⟨⟨q5, d5⟩, f5⟩ := own_cells HO.out hb1 (k * 7 + 5) (by omega)
      obtain ⟨⟨q6, d6⟩, f6⟩ := own_cells HO.out hb1 (k * 7 + 6) (by omega)
      have HOM := Lib.hid hom
      have h1 := own_below HO.out hb1
      have hbel1 := hbel.trans (hb1.mono hbel.size)
      have hz1 := hb1.size
      clear hom hnm
      unfold thingV
      go_wp2
      go_roundw
      case rel =>
        refine ⟨k + 1, by omega, by go_num, _, zs ++ [(am, cm, xs[k].2.2)], (((((((h1.stored (k * 7) (.string xs[k].2.2.sp)).1.stored (k * 7 + 1) (.string xs[k].2.2.nm)).1.stored (k * 7 + 2) (.int .i64 xs[k].2.2.uid)).1.stored (k * 7 + 3) (.int .i64 xs[k].2.2.rev)).1.stored (k * 7 + 4) (.bool xs[k].2.2.gone)).1.stored (k * 7 + 5) (.slice am xs[k].2.2.marks.length cm)).1.stored (k * 7 + 6) (.string xs[k].2.2.body)).1, ?_, ?_⟩
        · refine HM.out.next hb1 hsz hll (by rw [HYL.out, HXL.out]) (z := (am, cm, xs[k].2.2)) ⟨HOM.out, fun j hj => (HOM.out.lt j hj).2, ⟨HZ.out.2, hm1, HZ.out.1.2.1⟩⟩ (HXE.out k hlt hll) (by simp) ?_
          repeat (first | with_reducible exact KeptOut.refl _ _ | refine KeptOut.setCell ?_ (by exact rfl) _)
        · exact ((((((hbel1.setCell (Nat.le_refl _) _).setCell (Nat.le_refl _) _).setCell (Nat.le_refl _) _).setCell (Nat.le_refl _) _).setCell (Nat.le_refl _) _).setCell (Nat.le_refl _) _).setCell (Nat.le_refl _) _
      case measure => simp [intOf]; omega
    · clear hown
      go_wp2
      go_ret
      have hkl : k = xs.length := by omega
      subst hkl
      have h1 := HO.out
      have h2 := HM.out
      have hzl : zs.length = xs.length := h2.len
      have hys : ys = zs.flatMap encT := by
        have := h2.row
        rwa [List.take_of_length_le (by rw [h1.1]; exact Nat.le_refl _)] at this
      have hzt : thsOf zs = l := by rw [h2.ths, List.take_of_length_le (by rw [← HXL.out]; exact Nat.le_refl _)]
      have hsz : w.heap.size < wr.heap.size := (h1.lt _ rfl).2
      refine ⟨.slice (some ⟨w.heap.size, 0, none⟩) xs.length xs.length, rfl, ⟨some ⟨w.heap.size, 0, none⟩, xs.length, zs, by rw [hzl], ⟨by rw [hzl, ← hys]; exact h1, fun k hk => by rw [blk_some hk]; exact hsz⟩, by rw [hzl]; unfold maxLen; omega, hzt, fun z hz => (h2.own z hz).wide (Nat.le_succ _) (Nat.le_refl _), h2.apart, ?_⟩, hbel⟩
      intro z hz k hk he
      have := ((h2.own z hz).lt he).1
      have := blk_some hk
      omega
end Go.Proofs.YtbioljpjpflboaaGreatDoor
