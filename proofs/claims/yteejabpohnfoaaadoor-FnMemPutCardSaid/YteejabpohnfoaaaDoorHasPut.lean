import Derived.Test.YteejabpohnfoaaaDoorPutP
import Derived.Test.YteejabpohnfoaaaDoorScanJ
import Derived.Test.YteejabpohnfoaaaDoorApp
/- Entries with one more, by the specification. -/
namespace Go.Proofs.YteejabpohnfoaaaDoor
open Go Go.RowKit

theorem below_app {B : Nat} {w0 W w1 : World} {g n c : Nat} (h : Below B w0 W) (hB : B ≤ W.heap.size) (hg : W.grownBy w1 (Value.slice (some ⟨g, 0, none⟩) n c).ownBlock) (hk : B ≤ g) : Below B w0 w1 :=
  h.grown hg hB (fun k e => by
    have e2 : g = k := Option.some.inj e
    omega)
theorem own_lit0 {base : Nat} (W : World) (e : TypeId) (size g : Nat) (hg : g = W.heap.size) (h : base ≤ W.heap.size) : (W.alloc (.cells #[] e)).ownsRow base e size (.slice (some ⟨g, 0, none⟩) 0 0) 0 [] := by
  subst hg
  exact World.ownsRow_lit W #[] 0 h (by unfold maxLen; omega) (by simp)
theorem src_lit' (W : World) (cs : List Value) (e : TypeId) (m size g : Nat) (hg : g = W.heap.size) (h : cs.length = m * size) : SrcS (W.alloc (.cells cs.toArray e)) size (some ⟨g, 0, none⟩) m cs := by
  subst hg
  exact ⟨h, .inr ⟨W.heap.size, 0, rfl, fun j u hu => by have := cellsNew W cs e j u hu; rwa [addr_add] at this⟩⟩
theorem one_ents {l : List EntryD} {u : Value} (hu : u ∈ l.flatMap encEntry) : u.oneCell' = true := by
  rw [List.mem_flatMap] at hu
  obtain ⟨x, _, hx⟩ := hu
  simp only [encEntry, List.mem_cons, List.not_mem_nil, or_false] at hx
  rcases hx with rfl | rfl | rfl | rfl <;> rfl
theorem els_take {w : World} {a : Option Addr} {l : List EntryD} (p : Nat) (h : ElS 4 encEntry w a l) : ElS 4 encEntry w a (l.take p) := by
  refine ⟨Nat.le_trans (by rw [List.length_take]; omega) h.1, ?_⟩
  rcases h.2 with rfl | ⟨b, o, rfl, hc⟩
  · exact .inl (by simp)
  · refine .inr ⟨b, o, rfl, fun j hj i v hv => ?_⟩
    rw [List.length_take] at hj
    exact hc j (by omega) i v (by rwa [List.getElem_take] at hv)
theorem els_nil_of {w : World} {a : Option Addr} {l : List EntryD} (h : l = []) : ElS 4 encEntry w a l := by
  subst h
  exact ⟨by simp, .inl rfl⟩

set_option maxRecDepth 100000 in
set_option maxHeartbeats 800000 in
theorem specHas_any (a : Option Addr) (ca : Nat) (l : List EntryD) (x0 : ByteArray) (x1 : Int) (x2 : Bool) (x3 : ByteArray) (w : World) (hl : ElS 4 encEntry w a l) :
    Calls Tryd.prog 26 #[.slice a l.length ca, .agg #[.string x0, .int .i64 x1, .bool x2, .string x3]] w fun e w' => e = .returned (.bool (hasE l (x0, x1, x2, x3))) ∧ Below w.heap.size w w' := by
  obtain ⟨hl1, hl⟩ := hl
  unfold maxLen at hl1
  rcases hl with rfl | ⟨ba, oa, rfl, hca⟩
  · go_enter Tryd.func26, Tryd.ntmps26
    go_wp2
    refine wp_loop_rounds 1 ?_
    rw [rounds_succ]
    go_wp2
    go_ret
    exact ⟨rfl, (by repeat (first | exact Below.refl _ _ | (refine Below.alloc ?_ (by first | (simp; done) | (simp; omega)) _) | (refine Below.setCell ?_ (by first | (simp; done) | (simp; omega)) _) | (refine Below.drew ?_)))⟩
  · have HC := Lib.hid hca
    clear hca
    obtain ⟨E, hE⟩ : ∃ E : EntryD, E = (x0, x1, x2, x3) := ⟨_, rfl⟩
    rw [← hE]
    have HE := Lib.hid hE
    clear hE
    go_enter Tryd.func26, Tryd.ntmps26
    go_wp2
    go_loopw [5] (fun i wr => ∃ k : Nat, k ≤ l.length ∧ i = .int .i64 k ∧ (l.take k).any (isE E) = false ∧ Box wr w.heap.size [.string x0, .int .i64 x1, .bool x2, .string x3] ∧ Below w.heap.size w wr) (fun i _ => l.length - (intOf i).toNat)
    case atStart => exact ⟨0, Nat.zero_le _, rfl, by simp, Box.alloc _ _ _, (by repeat (first | exact Below.refl _ _ | (refine Below.alloc ?_ (by first | (simp; done) | (simp; omega)) _) | (refine Below.setCell ?_ (by first | (simp; done) | (simp; omega)) _) | (refine Below.drew ?_)))⟩
    case round =>
      obtain ⟨k, hk, rfl, hto, hbx, hbel⟩ := hrel
      have HT := Lib.hid hto
      have HX := Lib.hid hbx
      obtain ⟨⟨y0, f0⟩, ⟨y1, f1⟩, ⟨y2, f2⟩, y3, f3⟩ := show _ ∧ _ ∧ _ ∧ _ from ⟨hbx 0 _ rfl, hbx 1 _ rfl, hbx 2 _ rfl, hbx 3 _ rfl⟩
      clear hto hbx
      by_cases hlt : k < l.length
      · obtain ⟨c0, c1, c2, c3⟩ := cellsEntry hbel HC.out k hlt
        have hk0 : (0 : Int) ≤ (k : Int) := by omega
        have hkn : (k : Int) < (l.length : Int) := by omega
        by_cases e : l[k].1 = x0
        · have q1 : (l[k].1.toList == x0.toList) = true := by rw [e]; simp
          by_cases g : l[k].2.1 = x1
          · have g1 : (l[k].2.1 == x1) = true := by rw [g]; simp
            have HN := Lib.hid (show hasE l E = true from hasE_yes hlt (by rw [HE.out]; simp [isE, e, g]))
            clear e g
            go_wp2
            go_quiet (fail)
            go_wp2
            go_ret
            exact ⟨ret_bool (by rw [HN.out]), bel_drewN hbel _⟩
          · have g1 : (l[k].2.1 == x1) = false := by simp [g]
            have HN := Lib.hid (any_take_succ hlt HT.out (show isE E l[k] = false by rw [HE.out]; simp [isE, g]))
            clear e g
            go_wp2
            go_quiet (fail)
            go_wp2
            go_roundw
            case rel => exact ⟨k + 1, by omega, by go_num, HN.out, HX.out.below (bel_drewN (Below.refl _ _) _), bel_drewN hbel _⟩
            case measure => simp [intOf]; omega
        · have q1 := eqL_no e
          have HN := Lib.hid (any_take_succ hlt HT.out (show isE E l[k] = false by rw [HE.out]; simp [isE, e]))
          clear e
          go_wp2
          go_quiet (fail)
          go_wp2
          go_roundw
          case rel => exact ⟨k + 1, by omega, by go_num, HN.out, HX.out.below (bel_drewN (Below.refl _ _) _), bel_drewN hbel _⟩
          case measure => simp [intOf]; omega
      · have HN := Lib.hid (show hasE l E = false from hasE_no (k := k) (by omega) HT.out)
        go_wp2
        go_ret
        exact ⟨ret_bool (by rw [HN.out]), hbel⟩

set_option maxRecDepth 100000 in
set_option maxHeartbeats 1600000 in
theorem specPut_any (a : Option Addr) (ca : Nat) (l : List EntryD) (x0 : ByteArray) (x1 : Int) (x2 : Bool) (x3 : ByteArray) (w : World) (hn : l.length ≤ 1048576) (hcap : l.length ≤ ca) (hl : ElS 4 encEntry w a l) :
    Calls Tryd.prog 27 #[.slice a l.length ca, .agg #[.string x0, .int .i64 x1, .bool x2, .string x3]] w (OwnE w (putE l (x0, x1, x2, x3))) := by
  obtain ⟨i0, hi, hz0, hz1, hz2⟩ := info_parts infoEntry
  have HX := Lib.hid hl
  clear hl
  obtain ⟨E, hE⟩ : ∃ E : EntryD, E = (x0, x1, x2, x3) := ⟨_, rfl⟩
  rw [← hE]
  have HE := Lib.hid hE
  clear hE
  go_enter Tryd.func27, Tryd.ntmps27
  go_wp2
  go_loopw [5] (fun i wr => ∃ k : Nat, k ≤ l.length ∧ i = .int .i64 k ∧ (∀ x ∈ l.take k, lessB x E = true) ∧ Box wr w.heap.size [.string x0, .int .i64 x1, .bool x2, .string x3] ∧ Below w.heap.size w wr) (fun i _ => l.length - (intOf i).toNat)
  case atStart => exact ⟨0, Nat.zero_le _, rfl, by simp, Box.alloc _ _ _, (by repeat (first | exact Below.refl _ _ | (refine Below.alloc ?_ (by first | (simp; done) | (simp; omega)) _) | (refine Below.setCell ?_ (by first | (simp; done) | (simp; omega)) _) | (refine Below.drew ?_)))⟩
  case round =>
    obtain ⟨k, hk, rfl, hto, hbx, hbel⟩ := hrel
    have HT := Lib.hid hto
    have HBX := Lib.hid hbx
    obtain ⟨⟨y0, f0⟩, ⟨y1, f1⟩, ⟨y2, f2⟩, y3, f3⟩ := show _ ∧ _ ∧ _ ∧ _ from ⟨hbx 0 _ rfl, hbx 1 _ rfl, hbx 2 _ rfl, hbx 3 _ rfl⟩
    clear hto hbx
    by_cases hgo : ∃ h : k < l.length, lessB l[k] E = true
    · obtain ⟨hlt, hle⟩ := hgo
      obtain ⟨ba, oa, rfl, hca⟩ := HX.out.2.resolve_left (by intro e; subst e; simp at hlt)
      have HC := Lib.hid hca
      clear hca
      obtain ⟨c0, c1, c2, c3⟩ := cellsEntry hbel HC.out k hlt
      have hk0 : (0 : Int) ≤ (k : Int) := by omega
      have hkn : (k : Int) < (l.length : Int) := by omega
      have hd : decide (k < l.length) = true := decide_eq_true hlt
      have HN := Lib.hid (all_take_succ hlt HT.out hle)
      have HL := Lib.hid (show lessB (l[k].1, l[k].2.1, l[k].2.2.1, l[k].2.2.2) (x0, x1, x2, x3) = true by rw [← HE.out]; exact hle)
      clear hle
      go_wp2
      go_region_held3 (fun w' => w'.cell? ⟨ba, oa + k * 4, none⟩ = some (.string l[k].1) ∧ w'.cell? ⟨ba, oa + k * 4 + 1, none⟩ = some (.int .i64 l[k].2.1) ∧ w'.cell? ⟨ba, oa + k * 4 + 2, none⟩ = some (.bool l[k].2.2.1) ∧ w'.cell? ⟨ba, oa + k * 4 + 3, none⟩ = some (.string l[k].2.2.2) ∧ w'.cell? ⟨w.heap.size, 0, none⟩ = some (.string x0) ∧ w'.cell? ⟨w.heap.size, 1, none⟩ = some (.int .i64 x1) ∧ w'.cell? ⟨w.heap.size, 2, none⟩ = some (.bool x2) ∧ w'.cell? ⟨w.heap.size, 3, none⟩ = some (.string x3)) (first | exact ⟨c0, c1, c2, c3, y0, y1, y2, y3⟩ | exact ⟨(cellsEntry bel1 HC.out k hlt).1, (cellsEntry bel1 HC.out k hlt).2.1, (cellsEntry bel1 HC.out k hlt).2.2.1, (cellsEntry bel1 HC.out k hlt).2.2.2, (HX1.out 0 _ rfl).1, (HX1.out 1 _ rfl).1, (HX1.out 2 _ rfl).1, (HX1.out 3 _ rfl).1⟩)
        (first | (go_at_call 48; refine (specLess_any l[k].1 l[k].2.1 l[k].2.2.1 l[k].2.2.2 x0 x1 x2 x3 _).mono ?_; rintro e w1 ⟨rfl, hb1⟩; rw [HL.out]; have bel1 : Below w.heap.size w w1 := hbel.drew.trans (hb1.mono hbel.size); have HX1 := Lib.hid ((HBX.out.below ((Below.refl _ _).drew.trans hb1)) : Box w1 w.heap.size [.string x0, .int .i64 x1, .bool x2, .string x3])))
      go_wp2
      go_roundw
      case rel => exact ⟨k + 1, by omega, by go_num, HN.out, HX1.out, bel1⟩
      case measure => simp [intOf]; omega
    · have HP := Lib.hid (putE_at HT.out (fun h => by cases hc : lessB l[k] E with
        | false => rfl
        | true => exact absurd ⟨h, hc⟩ hgo))
      by_cases hlt : k < l.length
      · have hle : lessB l[k] E = false := by cases hc : lessB l[k] E with
          | false => rfl
          | true => exact absurd ⟨hlt, hc⟩ hgo
        obtain ⟨ba, oa, rfl, hca⟩ := HX.out.2.resolve_left (by intro e; subst e; simp at hlt)
        have HC := Lib.hid hca
        clear hca
        obtain ⟨c0, c1, c2, c3⟩ := cellsEntry hbel HC.out k hlt
        have hk0 : (0 : Int) ≤ (k : Int) := by omega
        have hkn : (k : Int) < (l.length : Int) := by omega
        have hd : decide (k < l.length) = true := decide_eq_true hlt
        have HL := Lib.hid (show lessB (l[k].1, l[k].2.1, l[k].2.2.1, l[k].2.2.2) (x0, x1, x2, x3) = false by rw [← HE.out]; exact hle)
        clear hle hgo
        go_wp2
        go_region_held3 (fun w' => w'.cell? ⟨ba, oa + k * 4, none⟩ = some (.string l[k].1) ∧ w'.cell? ⟨ba, oa + k * 4 + 1, none⟩ = some (.int .i64 l[k].2.1) ∧ w'.cell? ⟨ba, oa + k * 4 + 2, none⟩ = some (.bool l[k].2.2.1) ∧ w'.cell? ⟨ba, oa + k * 4 + 3, none⟩ = some (.string l[k].2.2.2) ∧ w'.cell? ⟨w.heap.size, 0, none⟩ = some (.string x0) ∧ w'.cell? ⟨w.heap.size, 1, none⟩ = some (.int .i64 x1) ∧ w'.cell? ⟨w.heap.size, 2, none⟩ = some (.bool x2) ∧ w'.cell? ⟨w.heap.size, 3, none⟩ = some (.string x3)) (first | exact ⟨c0, c1, c2, c3, y0, y1, y2, y3⟩ | exact ⟨(cellsEntry bel1 HC.out k hlt).1, (cellsEntry bel1 HC.out k hlt).2.1, (cellsEntry bel1 HC.out k hlt).2.2.1, (cellsEntry bel1 HC.out k hlt).2.2.2, (HX1.out 0 _ rfl).1, (HX1.out 1 _ rfl).1, (HX1.out 2 _ rfl).1, (HX1.out 3 _ rfl).1⟩)
          (first | (go_at_call 48; refine (specLess_any l[k].1 l[k].2.1 l[k].2.2.1 l[k].2.2.2 x0 x1 x2 x3 _).mono ?_; rintro e w1 ⟨rfl, hb1⟩; rw [HL.out]; have bel1 : Below w.heap.size w w1 := hbel.drew.trans (hb1.mono hbel.size); have HX1 := Lib.hid ((HBX.out.below ((Below.refl _ _).drew.trans hb1)) : Box w1 w.heap.size [.string x0, .int .i64 x1, .bool x2, .string x3])))
        go_wp2
        have B00 := bel1
        have HB0 := HX1
        obtain ⟨w0, hw0⟩ : ∃ w0, w0 = w1 := ⟨_, rfl⟩
        rw [← hw0] at B00 HB0 ⊢
        clear y0 y1 y2 y3 f0 f1 f2 f3 c0 c1 c2 c3 bel1 HX1 hb1 hw0
        have hkt : (l.take k).length = k := by rw [List.length_take]; omega
        have HS1 := Lib.hid (show SrcS w0 4 ((some ⟨ba, oa, none⟩)) k ((l.take k).flatMap encEntry) from by
          have h := src_el encEntry_len (by decide) (els_take k (HX.out.below B00))
          rwa [hkt] at h)
        have l0 : w.heap.size < w0.heap.size := HB0.out.lt
        have KS : ∀ w' : World, KeptOut (fun _ => False) w0 w' → w'.cell? ⟨w.heap.size, 0, none⟩ = some (.string x0) ∧ w'.cell? ⟨w.heap.size, 1, none⟩ = some (.int .i64 x1) ∧ w'.cell? ⟨w.heap.size, 2, none⟩ = some (.bool x2) ∧ w'.cell? ⟨w.heap.size, 3, none⟩ = some (.string x3) :=
          fun w' h => by
            have hb := HB0.out.kept h (fun h => h)
            exact ⟨(hb 0 _ rfl).1, (hb 1 _ rfl).1, (hb 2 _ rfl).1, (hb 3 _ rfl).1⟩
        have hnk : k ≤ l.length := hk
        have ik0 : (0 : Int) ≤ (k : Int) := by omega
        have ikn : (k : Int) ≤ (l.length : Int) := by omega
        have ikc : (k : Int) ≤ (ca : Int) := by omega
        have inc : (l.length : Int) ≤ (ca : Int) := by omega
        by_cases hck : k = ca
        · subst hck
          omega
        · have hck2 : ¬ ca = k := fun h => hck h.symm
          have HS2 := Lib.hid (show SrcS w0 4 (some ⟨ba, oa + k * 4, none⟩) (l.length - k) ((l.drop k).flatMap encEntry) from by
            have h := src_el encEntry_len (by decide) (by have h := els_drop k (HX.out.below B00); first | exact h | simpa [addr_add] using h : ElS 4 encEntry w0 (some ⟨ba, oa + k * 4, none⟩) (l.drop k))
            rw [List.length_drop] at h; exact h)
          go_region_held3 (fun w' => w'.cell? ⟨w.heap.size, 0, none⟩ = some (.string x0) ∧ w'.cell? ⟨w.heap.size, 1, none⟩ = some (.int .i64 x1) ∧ w'.cell? ⟨w.heap.size, 2, none⟩ = some (.bool x2) ∧ w'.cell? ⟨w.heap.size, 3, none⟩ = some (.string x3))
            ((refine KS _ ?_; (repeat (first | exact KeptOut.refl _ _ | exact b1 | exact b2 | exact b3 | refine KeptOut.drew ?_ | refine KeptOut.alloc ?_ _))))
            (first
              | (refine step_append_src _ rfl (.tmp 20) (.tmp 23) 27 rfl w0.heap.size 31 i0 (.agg #[.string ⟨#[]⟩, .int .i64 0, .bool false, .string ⟨#[]⟩]) 4 48 Tryd.underlying27 hi hz0 hz1 hz2 rfl (by decide) (.slice (some ⟨_, 0, none⟩) 0 0) 0 [] rfl (own_lit0 w0 31 4 _ rfl (Nat.le_refl _)) (some ⟨ba, oa, none⟩) k ca ((l.take k).flatMap encEntry) rfl (HS1.out.below (below_alloc w0 _)) (by intro u hu; exact one_ents hu) (by unfold maxLen; omega) (by omega) (by simp; try omega) ?_; intro v1 w1 o1 g1 at1; rw [Nat.zero_add, List.nil_append] at o1; obtain ⟨a1, c1, rfl⟩ := own_shape o1; have B1 : Below w0.heap.size w0 w1 := below_app (below_alloc w0 _) (by simp; try omega) g1 (by omega); have b1 : KeptOut (fun _ => False) w0 w1 := .of_below B1; have z1 := B1.size)
              | (refine step_append_src _ rfl (.tmp 20) (.tmp 23) 27 rfl w0.heap.size 31 i0 (.agg #[.string ⟨#[]⟩, .int .i64 0, .bool false, .string ⟨#[]⟩]) 4 48 Tryd.underlying27 hi hz0 hz1 hz2 rfl (by decide) (.slice (some ⟨_, 0, none⟩) 0 0) 0 [] rfl ((own_lit0 w0 31 4 _ rfl (Nat.le_refl _)).drew) (some ⟨ba, oa, none⟩) k ca ((l.take k).flatMap encEntry) rfl (HS1.out.below ((below_alloc w0 _).drew)) (by intro u hu; exact one_ents hu) (by unfold maxLen; omega) (by omega) (by simp; try omega) ?_; intro v1 w1 o1 g1 at1; rw [Nat.zero_add, List.nil_append] at o1; obtain ⟨a1, c1, rfl⟩ := own_shape o1; have B1 : Below w0.heap.size w0 w1 := below_app ((below_alloc w0 _).drew) (by simp; try omega) g1 (by omega); have b1 : KeptOut (fun _ => False) w0 w1 := .of_below B1; have z1 := B1.size)
              | (refine step_append_src _ rfl (.tmp 20) (.tmp 23) 27 rfl w0.heap.size 31 i0 (.agg #[.string ⟨#[]⟩, .int .i64 0, .bool false, .string ⟨#[]⟩]) 4 48 Tryd.underlying27 hi hz0 hz1 hz2 rfl (by decide) (.slice (some ⟨_, 0, none⟩) 0 0) 0 [] rfl (((own_lit0 w0 31 4 _ rfl (Nat.le_refl _)).alloc _).drew) (some ⟨ba, oa, none⟩) k ca ((l.take k).flatMap encEntry) rfl (HS1.out.below (((below_alloc w0 _).alloc (by simp) _).drew)) (by intro u hu; exact one_ents hu) (by unfold maxLen; omega) (by omega) (by simp; try omega) ?_; intro v1 w1 o1 g1 at1; rw [Nat.zero_add, List.nil_append] at o1; obtain ⟨a1, c1, rfl⟩ := own_shape o1; have B1 : Below w0.heap.size w0 w1 := below_app (((below_alloc w0 _).alloc (by simp) _).drew) (by simp; try omega) g1 (by omega); have b1 : KeptOut (fun _ => False) w0 w1 := .of_below B1; have z1 := B1.size; have SE : SrcS w1 4 (some ⟨w0.heap.size + 1, 0, none⟩) 1 [.string x0, .int .i64 x1, .bool x2, .string x3] := ((src_lit' (w0.alloc (.cells #[] 31)) [.string x0, .int .i64 x1, .bool x2, .string x3] 31 1 4 (w0.heap.size + 1) (by simp) rfl).kept (KeptOut.drew (KeptOut.refl (fun _ => False) _)) (fun _ _ h => h)).kept (kept_of_grown g1) (fun q hq e => by simp at hq; have := own_blk e; omega))
              | (refine step_append_src _ rfl (.tmp 20) (.tmp 23) 27 rfl w0.heap.size 31 i0 (.agg #[.string ⟨#[]⟩, .int .i64 0, .bool false, .string ⟨#[]⟩]) 4 48 Tryd.underlying27 hi hz0 hz1 hz2 rfl (by decide) (.slice (some ⟨_, 0, none⟩) 0 0) 0 [] rfl ((own_lit0 (w0.alloc _) 31 4 (w0.heap.size + 1) (by simp) (by simp)).drew) (some ⟨ba, oa, none⟩) k ca ((l.take k).flatMap encEntry) rfl (HS1.out.below (((below_alloc w0 _).alloc (by simp) _).drew)) (by intro u hu; exact one_ents hu) (by unfold maxLen; omega) (by omega) (by simp; try omega) ?_; intro v1 w1 o1 g1 at1; rw [Nat.zero_add, List.nil_append] at o1; obtain ⟨a1, c1, rfl⟩ := own_shape o1; have B1 : Below w0.heap.size w0 w1 := below_app (((below_alloc w0 _).alloc (by simp) _).drew) (by simp; try omega) g1 (by omega); have b1 : KeptOut (fun _ => False) w0 w1 := .of_below B1; have z1 := B1.size; have SE : SrcS w1 4 (some ⟨w0.heap.size, 0, none⟩) 1 [.string x0, .int .i64 x1, .bool x2, .string x3] := (((src_lit' w0 [.string x0, .int .i64 x1, .bool x2, .string x3] 31 1 4 w0.heap.size rfl rfl).below (below_alloc _ (.cells #[] 31))).kept (KeptOut.drew (KeptOut.refl (fun _ => False) _)) (fun _ _ h => h)).kept (kept_of_grown g1) (fun q hq e => by simp at hq; have := own_blk e; omega))
              | (refine step_append_src _ rfl (.tmp 24) (.tmp 26) 27 rfl w0.heap.size 31 i0 (.agg #[.string ⟨#[]⟩, .int .i64 0, .bool false, .string ⟨#[]⟩]) 4 48 Tryd.underlying27 hi hz0 hz1 hz2 rfl (by decide) (.slice a1 k c1) k ((l.take k).flatMap encEntry) rfl (o1) (some ⟨_, 0, none⟩) 1 1 [.string x0, .int .i64 x1, .bool x2, .string x3] rfl (SE) (by simp [Value.oneCell']) (by unfold maxLen; omega) (by omega) (by first | omega | (simp; omega)) ?_; intro v2 w2 o2 g2 at2; obtain ⟨a2, c2, rfl⟩ := own_shape o2; have B2 : Below w0.heap.size w0 w2 := (B1).grown g2 (by first | omega | (simp; omega)) (fun q hq => (o1.lt q hq).1); have b2 : KeptOut (fun _ => False) w0 w2 := .of_below B2; have z2 := B2.size)
              | (refine step_append_src _ rfl (.tmp 24) (.tmp 26) 27 rfl w0.heap.size 31 i0 (.agg #[.string ⟨#[]⟩, .int .i64 0, .bool false, .string ⟨#[]⟩]) 4 48 Tryd.underlying27 hi hz0 hz1 hz2 rfl (by decide) (.slice a1 k c1) k ((l.take k).flatMap encEntry) rfl (o1.alloc _) (some ⟨_, 0, none⟩) 1 1 [.string x0, .int .i64 x1, .bool x2, .string x3] rfl (src_lit' w1 [.string x0, .int .i64 x1, .bool x2, .string x3] 31 1 4 _ rfl rfl) (by simp [Value.oneCell']) (by unfold maxLen; omega) (by omega) (by first | omega | (simp; omega)) ?_; intro v2 w2 o2 g2 at2; obtain ⟨a2, c2, rfl⟩ := own_shape o2; have B2 : Below w0.heap.size w0 w2 := (B1.alloc z1 _).grown g2 (by first | omega | (simp; omega)) (fun q hq => (o1.lt q hq).1); have b2 : KeptOut (fun _ => False) w0 w2 := .of_below B2; have z2 := B2.size)
              | (refine step_append_src _ rfl (.tmp 27) (.tmp 30) 27 rfl w0.heap.size 31 i0 (.agg #[.string ⟨#[]⟩, .int .i64 0, .bool false, .string ⟨#[]⟩]) 4 48 Tryd.underlying27 hi hz0 hz1 hz2 rfl (by decide) (.slice a2 (k + 1) c2) (k + 1) ((l.take k).flatMap encEntry ++ [.string x0, .int .i64 x1, .bool x2, .string x3]) rfl o2 (some ⟨ba, oa + k * 4, none⟩) (l.length - k) ((ca - k)) ((l.drop k).flatMap encEntry) rfl (HS2.out.below B2) (by intro u hu; exact one_ents hu) (by unfold maxLen; omega) (by omega) (by first | omega | (simp; omega)) ?_; intro v3 w3 o3 g3 at3; have B3 : Below w0.heap.size w0 w3 := B2.grown g3 (by first | omega | (simp; omega)) (fun q hq => (o2.lt q hq).1); have b3 : KeptOut (fun _ => False) w0 w3 := .of_below B3))
          all_goals
            go_wp2
            go_ret
            exact ⟨_, rfl, by rw [HP.out, HE.out, List.length_append, List.length_append, List.flatMap_append, List.flatMap_append, hkt, List.length_drop]; exact own_mono B00.size o3, B00.trans (B3.mono B00.size)⟩
      · have hd : decide (k < l.length) = false := decide_eq_false hlt
        clear hgo
        go_wp2
        go_quiet (fail)
        go_wp2
        have B00 := bel_drewN hbel nq
        have HB0 := Lib.hid (HBX.out.below (bel_drewN (Below.refl _ _) nq))
        generalize World.drewN wr nq = w0 at B00 HB0 ⊢
        clear y0 y1 y2 y3 f0 f1 f2 f3
        have hkt : (l.take k).length = k := by rw [List.length_take]; omega
        have HS1 := Lib.hid (show SrcS w0 4 (a) k ((l.take k).flatMap encEntry) from by
          have h := src_el encEntry_len (by decide) (els_take k (HX.out.below B00))
          rwa [hkt] at h)
        have l0 : w.heap.size < w0.heap.size := HB0.out.lt
        have KS : ∀ w' : World, KeptOut (fun _ => False) w0 w' → w'.cell? ⟨w.heap.size, 0, none⟩ = some (.string x0) ∧ w'.cell? ⟨w.heap.size, 1, none⟩ = some (.int .i64 x1) ∧ w'.cell? ⟨w.heap.size, 2, none⟩ = some (.bool x2) ∧ w'.cell? ⟨w.heap.size, 3, none⟩ = some (.string x3) :=
          fun w' h => by
            have hb := HB0.out.kept h (fun h => h)
            exact ⟨(hb 0 _ rfl).1, (hb 1 _ rfl).1, (hb 2 _ rfl).1, (hb 3 _ rfl).1⟩
        have hnk : k ≤ l.length := hk
        have ik0 : (0 : Int) ≤ (k : Int) := by omega
        have ikn : (k : Int) ≤ (l.length : Int) := by omega
        have ikc : (k : Int) ≤ (ca : Int) := by omega
        have inc : (l.length : Int) ≤ (ca : Int) := by omega
        by_cases hck : k = ca
        · subst hck
          have hdk : l.drop k = [] := List.drop_of_length_le (by omega)
          go_region_held3 (fun w' => w'.cell? ⟨w.heap.size, 0, none⟩ = some (.string x0) ∧ w'.cell? ⟨w.heap.size, 1, none⟩ = some (.int .i64 x1) ∧ w'.cell? ⟨w.heap.size, 2, none⟩ = some (.bool x2) ∧ w'.cell? ⟨w.heap.size, 3, none⟩ = some (.string x3))
            ((refine KS _ ?_; (repeat (first | exact KeptOut.refl _ _ | exact b1 | exact b2 | exact b3 | refine KeptOut.drew ?_ | refine KeptOut.alloc ?_ _))))
            (first
              | (refine step_append_src _ rfl (.tmp 20) (.tmp 23) 27 rfl w0.heap.size 31 i0 (.agg #[.string ⟨#[]⟩, .int .i64 0, .bool false, .string ⟨#[]⟩]) 4 48 Tryd.underlying27 hi hz0 hz1 hz2 rfl (by decide) (.slice (some ⟨_, 0, none⟩) 0 0) 0 [] rfl (own_lit0 w0 31 4 _ rfl (Nat.le_refl _)) a k k ((l.take k).flatMap encEntry) rfl (HS1.out.below (below_alloc w0 _)) (by intro u hu; exact one_ents hu) (by unfold maxLen; omega) (by omega) (by simp; try omega) ?_; intro v1 w1 o1 g1 at1; rw [Nat.zero_add, List.nil_append] at o1; obtain ⟨a1, c1, rfl⟩ := own_shape o1; have B1 : Below w0.heap.size w0 w1 := below_app (below_alloc w0 _) (by simp; try omega) g1 (by omega); have b1 : KeptOut (fun _ => False) w0 w1 := .of_below B1; have z1 := B1.size)
              | (refine step_append_src _ rfl (.tmp 20) (.tmp 23) 27 rfl w0.heap.size 31 i0 (.agg #[.string ⟨#[]⟩, .int .i64 0, .bool false, .string ⟨#[]⟩]) 4 48 Tryd.underlying27 hi hz0 hz1 hz2 rfl (by decide) (.slice (some ⟨_, 0, none⟩) 0 0) 0 [] rfl ((own_lit0 w0 31 4 _ rfl (Nat.le_refl _)).drew) a k k ((l.take k).flatMap encEntry) rfl (HS1.out.below ((below_alloc w0 _).drew)) (by intro u hu; exact one_ents hu) (by unfold maxLen; omega) (by omega) (by simp; try omega) ?_; intro v1 w1 o1 g1 at1; rw [Nat.zero_add, List.nil_append] at o1; obtain ⟨a1, c1, rfl⟩ := own_shape o1; have B1 : Below w0.heap.size w0 w1 := below_app ((below_alloc w0 _).drew) (by simp; try omega) g1 (by omega); have b1 : KeptOut (fun _ => False) w0 w1 := .of_below B1; have z1 := B1.size)
              | (refine step_append_src _ rfl (.tmp 20) (.tmp 23) 27 rfl w0.heap.size 31 i0 (.agg #[.string ⟨#[]⟩, .int .i64 0, .bool false, .string ⟨#[]⟩]) 4 48 Tryd.underlying27 hi hz0 hz1 hz2 rfl (by decide) (.slice (some ⟨_, 0, none⟩) 0 0) 0 [] rfl (((own_lit0 w0 31 4 _ rfl (Nat.le_refl _)).alloc _).drew) a k k ((l.take k).flatMap encEntry) rfl (HS1.out.below (((below_alloc w0 _).alloc (by simp) _).drew)) (by intro u hu; exact one_ents hu) (by unfold maxLen; omega) (by omega) (by simp; try omega) ?_; intro v1 w1 o1 g1 at1; rw [Nat.zero_add, List.nil_append] at o1; obtain ⟨a1, c1, rfl⟩ := own_shape o1; have B1 : Below w0.heap.size w0 w1 := below_app (((below_alloc w0 _).alloc (by simp) _).drew) (by simp; try omega) g1 (by omega); have b1 : KeptOut (fun _ => False) w0 w1 := .of_below B1; have z1 := B1.size; have SE : SrcS w1 4 (some ⟨w0.heap.size + 1, 0, none⟩) 1 [.string x0, .int .i64 x1, .bool x2, .string x3] := ((src_lit' (w0.alloc (.cells #[] 31)) [.string x0, .int .i64 x1, .bool x2, .string x3] 31 1 4 (w0.heap.size + 1) (by simp) rfl).kept (KeptOut.drew (KeptOut.refl (fun _ => False) _)) (fun _ _ h => h)).kept (kept_of_grown g1) (fun q hq e => by simp at hq; have := own_blk e; omega))
              | (refine step_append_src _ rfl (.tmp 20) (.tmp 23) 27 rfl w0.heap.size 31 i0 (.agg #[.string ⟨#[]⟩, .int .i64 0, .bool false, .string ⟨#[]⟩]) 4 48 Tryd.underlying27 hi hz0 hz1 hz2 rfl (by decide) (.slice (some ⟨_, 0, none⟩) 0 0) 0 [] rfl ((own_lit0 (w0.alloc _) 31 4 (w0.heap.size + 1) (by simp) (by simp)).drew) a k k ((l.take k).flatMap encEntry) rfl (HS1.out.below (((below_alloc w0 _).alloc (by simp) _).drew)) (by intro u hu; exact one_ents hu) (by unfold maxLen; omega) (by omega) (by simp; try omega) ?_; intro v1 w1 o1 g1 at1; rw [Nat.zero_add, List.nil_append] at o1; obtain ⟨a1, c1, rfl⟩ := own_shape o1; have B1 : Below w0.heap.size w0 w1 := below_app (((below_alloc w0 _).alloc (by simp) _).drew) (by simp; try omega) g1 (by omega); have b1 : KeptOut (fun _ => False) w0 w1 := .of_below B1; have z1 := B1.size; have SE : SrcS w1 4 (some ⟨w0.heap.size, 0, none⟩) 1 [.string x0, .int .i64 x1, .bool x2, .string x3] := (((src_lit' w0 [.string x0, .int .i64 x1, .bool x2, .string x3] 31 1 4 w0.heap.size rfl rfl).below (below_alloc _ (.cells #[] 31))).kept (KeptOut.drew (KeptOut.refl (fun _ => False) _)) (fun _ _ h => h)).kept (kept_of_grown g1) (fun q hq e => by simp at hq; have := own_blk e; omega))
              | (refine step_append_src _ rfl (.tmp 24) (.tmp 26) 27 rfl w0.heap.size 31 i0 (.agg #[.string ⟨#[]⟩, .int .i64 0, .bool false, .string ⟨#[]⟩]) 4 48 Tryd.underlying27 hi hz0 hz1 hz2 rfl (by decide) (.slice a1 k c1) k ((l.take k).flatMap encEntry) rfl (o1) (some ⟨_, 0, none⟩) 1 1 [.string x0, .int .i64 x1, .bool x2, .string x3] rfl (SE) (by simp [Value.oneCell']) (by unfold maxLen; omega) (by omega) (by first | omega | (simp; omega)) ?_; intro v2 w2 o2 g2 at2; obtain ⟨a2, c2, rfl⟩ := own_shape o2; have B2 : Below w0.heap.size w0 w2 := (B1).grown g2 (by first | omega | (simp; omega)) (fun q hq => (o1.lt q hq).1); have b2 : KeptOut (fun _ => False) w0 w2 := .of_below B2; have z2 := B2.size)
              | (refine step_append_src _ rfl (.tmp 24) (.tmp 26) 27 rfl w0.heap.size 31 i0 (.agg #[.string ⟨#[]⟩, .int .i64 0, .bool false, .string ⟨#[]⟩]) 4 48 Tryd.underlying27 hi hz0 hz1 hz2 rfl (by decide) (.slice a1 k c1) k ((l.take k).flatMap encEntry) rfl (o1.alloc _) (some ⟨_, 0, none⟩) 1 1 [.string x0, .int .i64 x1, .bool x2, .string x3] rfl (src_lit' w1 [.string x0, .int .i64 x1, .bool x2, .string x3] 31 1 4 _ rfl rfl) (by simp [Value.oneCell']) (by unfold maxLen; omega) (by omega) (by first | omega | (simp; omega)) ?_; intro v2 w2 o2 g2 at2; obtain ⟨a2, c2, rfl⟩ := own_shape o2; have B2 : Below w0.heap.size w0 w2 := (B1.alloc z1 _).grown g2 (by first | omega | (simp; omega)) (fun q hq => (o1.lt q hq).1); have b2 : KeptOut (fun _ => False) w0 w2 := .of_below B2; have z2 := B2.size)
              | (refine step_append_src _ rfl (.tmp 27) (.tmp 30) 27 rfl w0.heap.size 31 i0 (.agg #[.string ⟨#[]⟩, .int .i64 0, .bool false, .string ⟨#[]⟩]) 4 48 Tryd.underlying27 hi hz0 hz1 hz2 rfl (by decide) (.slice a2 (k + 1) c2) (k + 1) ((l.take k).flatMap encEntry ++ [.string x0, .int .i64 x1, .bool x2, .string x3]) rfl o2 (a) 0 0 [] rfl ⟨rfl, .inl rfl⟩ (by simp) (by unfold maxLen; omega) (by omega) (by first | omega | (simp; omega)) ?_; intro v3 w3 o3 g3 at3; have B3 : Below w0.heap.size w0 w3 := B2.grown g3 (by first | omega | (simp; omega)) (fun q hq => (o2.lt q hq).1); have b3 : KeptOut (fun _ => False) w0 w3 := .of_below B3))
          all_goals
            go_wp2
            go_ret
            exact ⟨_, rfl, by rw [HP.out, HE.out, List.length_append, List.length_append, List.flatMap_append, List.flatMap_append, hkt, hdk]; exact own_mono B00.size o3, B00.trans (B3.mono B00.size)⟩
        · have hck2 : ¬ ca = k := fun h => hck h.symm
          have HS2 := Lib.hid (show SrcS w0 4 (Option.map (fun x => x.add (k * 4)) (a)) (l.length - k) ((l.drop k).flatMap encEntry) from by
            have h := src_el encEntry_len (by decide) (by have h := els_drop k (HX.out.below B00); first | exact h | simpa [addr_add] using h : ElS 4 encEntry w0 (Option.map (fun x => x.add (k * 4)) (a)) (l.drop k))
            rw [List.length_drop] at h; exact h)
          go_region_held3 (fun w' => w'.cell? ⟨w.heap.size, 0, none⟩ = some (.string x0) ∧ w'.cell? ⟨w.heap.size, 1, none⟩ = some (.int .i64 x1) ∧ w'.cell? ⟨w.heap.size, 2, none⟩ = some (.bool x2) ∧ w'.cell? ⟨w.heap.size, 3, none⟩ = some (.string x3))
            ((refine KS _ ?_; (repeat (first | exact KeptOut.refl _ _ | exact b1 | exact b2 | exact b3 | refine KeptOut.drew ?_ | refine KeptOut.alloc ?_ _))))
            (first
              | (refine step_append_src _ rfl (.tmp 20) (.tmp 23) 27 rfl w0.heap.size 31 i0 (.agg #[.string ⟨#[]⟩, .int .i64 0, .bool false, .string ⟨#[]⟩]) 4 48 Tryd.underlying27 hi hz0 hz1 hz2 rfl (by decide) (.slice (some ⟨_, 0, none⟩) 0 0) 0 [] rfl (own_lit0 w0 31 4 _ rfl (Nat.le_refl _)) a k ca ((l.take k).flatMap encEntry) rfl (HS1.out.below (below_alloc w0 _)) (by intro u hu; exact one_ents hu) (by unfold maxLen; omega) (by omega) (by simp; try omega) ?_; intro v1 w1 o1 g1 at1; rw [Nat.zero_add, List.nil_append] at o1; obtain ⟨a1, c1, rfl⟩ := own_shape o1; have B1 : Below w0.heap.size w0 w1 := below_app (below_alloc w0 _) (by simp; try omega) g1 (by omega); have b1 : KeptOut (fun _ => False) w0 w1 := .of_below B1; have z1 := B1.size)
              | (refine step_append_src _ rfl (.tmp 20) (.tmp 23) 27 rfl w0.heap.size 31 i0 (.agg #[.string ⟨#[]⟩, .int .i64 0, .bool false, .string ⟨#[]⟩]) 4 48 Tryd.underlying27 hi hz0 hz1 hz2 rfl (by decide) (.slice (some ⟨_, 0, none⟩) 0 0) 0 [] rfl ((own_lit0 w0 31 4 _ rfl (Nat.le_refl _)).drew) a k ca ((l.take k).flatMap encEntry) rfl (HS1.out.below ((below_alloc w0 _).drew)) (by intro u hu; exact one_ents hu) (by unfold maxLen; omega) (by omega) (by simp; try omega) ?_; intro v1 w1 o1 g1 at1; rw [Nat.zero_add, List.nil_append] at o1; obtain ⟨a1, c1, rfl⟩ := own_shape o1; have B1 : Below w0.heap.size w0 w1 := below_app ((below_alloc w0 _).drew) (by simp; try omega) g1 (by omega); have b1 : KeptOut (fun _ => False) w0 w1 := .of_below B1; have z1 := B1.size)
              | (refine step_append_src _ rfl (.tmp 20) (.tmp 23) 27 rfl w0.heap.size 31 i0 (.agg #[.string ⟨#[]⟩, .int .i64 0, .bool false, .string ⟨#[]⟩]) 4 48 Tryd.underlying27 hi hz0 hz1 hz2 rfl (by decide) (.slice (some ⟨_, 0, none⟩) 0 0) 0 [] rfl (((own_lit0 w0 31 4 _ rfl (Nat.le_refl _)).alloc _).drew) a k ca ((l.take k).flatMap encEntry) rfl (HS1.out.below (((below_alloc w0 _).alloc (by simp) _).drew)) (by intro u hu; exact one_ents hu) (by unfold maxLen; omega) (by omega) (by simp; try omega) ?_; intro v1 w1 o1 g1 at1; rw [Nat.zero_add, List.nil_append] at o1; obtain ⟨a1, c1, rfl⟩ := own_shape o1; have B1 : Below w0.heap.size w0 w1 := below_app (((below_alloc w0 _).alloc (by simp) _).drew) (by simp; try omega) g1 (by omega); have b1 : KeptOut (fun _ => False) w0 w1 := .of_below B1; have z1 := B1.size; have SE : SrcS w1 4 (some ⟨w0.heap.size + 1, 0, none⟩) 1 [.string x0, .int .i64 x1, .bool x2, .string x3] := ((src_lit' (w0.alloc (.cells #[] 31)) [.string x0, .int .i64 x1, .bool x2, .string x3] 31 1 4 (w0.heap.size + 1) (by simp) rfl).kept (KeptOut.drew (KeptOut.refl (fun _ => False) _)) (fun _ _ h => h)).kept (kept_of_grown g1) (fun q hq e => by simp at hq; have := own_blk e; omega))
              | (refine step_append_src _ rfl (.tmp 20) (.tmp 23) 27 rfl w0.heap.size 31 i0 (.agg #[.string ⟨#[]⟩, .int .i64 0, .bool false, .string ⟨#[]⟩]) 4 48 Tryd.underlying27 hi hz0 hz1 hz2 rfl (by decide) (.slice (some ⟨_, 0, none⟩) 0 0) 0 [] rfl ((own_lit0 (w0.alloc _) 31 4 (w0.heap.size + 1) (by simp) (by simp)).drew) a k ca ((l.take k).flatMap encEntry) rfl (HS1.out.below (((below_alloc w0 _).alloc (by simp) _).drew)) (by intro u hu; exact one_ents hu) (by unfold maxLen; omega) (by omega) (by simp; try omega) ?_; intro v1 w1 o1 g1 at1; rw [Nat.zero_add, List.nil_append] at o1; obtain ⟨a1, c1, rfl⟩ := own_shape o1; have B1 : Below w0.heap.size w0 w1 := below_app (((below_alloc w0 _).alloc (by simp) _).drew) (by simp; try omega) g1 (by omega); have b1 : KeptOut (fun _ => False) w0 w1 := .of_below B1; have z1 := B1.size; have SE : SrcS w1 4 (some ⟨w0.heap.size, 0, none⟩) 1 [.string x0, .int .i64 x1, .bool x2, .string x3] := (((src_lit' w0 [.string x0, .int .i64 x1, .bool x2, .string x3] 31 1 4 w0.heap.size rfl rfl).below (below_alloc _ (.cells #[] 31))).kept (KeptOut.drew (KeptOut.refl (fun _ => False) _)) (fun _ _ h => h)).kept (kept_of_grown g1) (fun q hq e => by simp at hq; have := own_blk e; omega))
              | (refine step_append_src _ rfl (.tmp 24) (.tmp 26) 27 rfl w0.heap.size 31 i0 (.agg #[.string ⟨#[]⟩, .int .i64 0, .bool false, .string ⟨#[]⟩]) 4 48 Tryd.underlying27 hi hz0 hz1 hz2 rfl (by decide) (.slice a1 k c1) k ((l.take k).flatMap encEntry) rfl (o1) (some ⟨_, 0, none⟩) 1 1 [.string x0, .int .i64 x1, .bool x2, .string x3] rfl (SE) (by simp [Value.oneCell']) (by unfold maxLen; omega) (by omega) (by first | omega | (simp; omega)) ?_; intro v2 w2 o2 g2 at2; obtain ⟨a2, c2, rfl⟩ := own_shape o2; have B2 : Below w0.heap.size w0 w2 := (B1).grown g2 (by first | omega | (simp; omega)) (fun q hq => (o1.lt q hq).1); have b2 : KeptOut (fun _ => False) w0 w2 := .of_below B2; have z2 := B2.size)
              | (refine step_append_src _ rfl (.tmp 24) (.tmp 26) 27 rfl w0.heap.size 31 i0 (.agg #[.string ⟨#[]⟩, .int .i64 0, .bool false, .string ⟨#[]⟩]) 4 48 Tryd.underlying27 hi hz0 hz1 hz2 rfl (by decide) (.slice a1 k c1) k ((l.take k).flatMap encEntry) rfl (o1.alloc _) (some ⟨_, 0, none⟩) 1 1 [.string x0, .int .i64 x1, .bool x2, .string x3] rfl (src_lit' w1 [.string x0, .int .i64 x1, .bool x2, .string x3] 31 1 4 _ rfl rfl) (by simp [Value.oneCell']) (by unfold maxLen; omega) (by omega) (by first | omega | (simp; omega)) ?_; intro v2 w2 o2 g2 at2; obtain ⟨a2, c2, rfl⟩ := own_shape o2; have B2 : Below w0.heap.size w0 w2 := (B1.alloc z1 _).grown g2 (by first | omega | (simp; omega)) (fun q hq => (o1.lt q hq).1); have b2 : KeptOut (fun _ => False) w0 w2 := .of_below B2; have z2 := B2.size)
              | (refine step_append_src _ rfl (.tmp 27) (.tmp 30) 27 rfl w0.heap.size 31 i0 (.agg #[.string ⟨#[]⟩, .int .i64 0, .bool false, .string ⟨#[]⟩]) 4 48 Tryd.underlying27 hi hz0 hz1 hz2 rfl (by decide) (.slice a2 (k + 1) c2) (k + 1) ((l.take k).flatMap encEntry ++ [.string x0, .int .i64 x1, .bool x2, .string x3]) rfl o2 (Option.map (fun x => x.add (k * 4)) (a)) (l.length - k) ((ca - k)) ((l.drop k).flatMap encEntry) rfl (HS2.out.below B2) (by intro u hu; exact one_ents hu) (by unfold maxLen; omega) (by omega) (by first | omega | (simp; omega)) ?_; intro v3 w3 o3 g3 at3; have B3 : Below w0.heap.size w0 w3 := B2.grown g3 (by first | omega | (simp; omega)) (fun q hq => (o2.lt q hq).1); have b3 : KeptOut (fun _ => False) w0 w3 := .of_below B3))
          all_goals
            go_wp2
            go_ret
            exact ⟨_, rfl, by rw [HP.out, HE.out, List.length_append, List.length_append, List.flatMap_append, List.flatMap_append, hkt, List.length_drop]; exact own_mono B00.size o3, B00.trans (B3.mono B00.size)⟩
end Go.Proofs.YteejabpohnfoaaaDoor
