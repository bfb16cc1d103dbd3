import Derived.Test.YtlaehhdbagiciabUseMayS
import Derived.Test.YtlaehhdbagiciabSpaceL
import Derived.Test.YtlaehhdbagiciabCloneUse
import Derived.Test.YtlaehhdbagiciabKitUseS
/- UseAdd: what it is, and the model's. -/
namespace Go.Proofs.Ytlaehhdbagiciab
open Go Go.RowKit

def addN (l : List SpaceD) (name : ByteArray) (more : Int) (x : UseD) : UseD := if inSp l name x.1 then (x.1, x.2 + more) else x
def addU (l : List SpaceD) (u : List UseD) (name : ByteArray) (more : Int) : List UseD := u.map (addN l name more)
def addOk (l : List SpaceD) (u : List UseD) (name : ByteArray) (more : Int) : Bool := spsOk l && (usesB l u && (inB more (-99999) 99999 && usesB l (addU l u name more)))
def addO (l : List SpaceD) (u : List UseD) (name : ByteArray) (more : Int) : List UseD := if addOk l u name more then addU l u name more else []
theorem addO_no {l : List SpaceD} {u : List UseD} {name : ByteArray} {more : Int} (h : addOk l u name more = false) : addO l u name more = [] := by unfold addO; rw [h]; rfl
theorem addO_yes {l : List SpaceD} {u : List UseD} {name : ByteArray} {more : Int} (h : addOk l u name more = true) : addO l u name more = addU l u name more := by unfold addO; rw [h]; rfl
/-- as far as it is done -/
def mixU (f : UseD → UseD) (u : List UseD) (k : Nat) : List UseD := (u.take k).map f ++ u.drop k
theorem mixU_len (f : UseD → UseD) (u : List UseD) (k : Nat) : (mixU f u k).length = u.length := by simp [mixU]; omega
theorem mixU_zero (f : UseD → UseD) (u : List UseD) : mixU f u 0 = u := by simp [mixU]
theorem mixU_full (f : UseD → UseD) (u : List UseD) (k : Nat) (h : u.length ≤ k) : mixU f u k = u.map f := by simp [mixU, List.take_of_length_le h, List.drop_of_length_le h]
theorem mixU_get (f : UseD → UseD) (u : List UseD) (k j : Nat) (h : j < (mixU f u k).length) (hj : j < u.length) : (mixU f u k)[j] = if j < k then f u[j] else u[j] := by
  have : (mixU f u k)[j]? = some (if j < k then f u[j] else u[j]) := by
    unfold mixU
    by_cases e : j < k
    · rw [if_pos e, List.getElem?_append_left (by simp; omega)]
      simp [e, hj]
    · rw [if_neg e, List.getElem?_append_right (by simp; omega)]
      simp only [List.length_map, List.length_take, List.getElem?_drop]
      rw [show k + (j - min k u.length) = j by omega, List.getElem?_eq_getElem hj]
  rw [List.getElem?_eq_getElem h] at this
  exact Option.some.inj this
theorem mixU_at (f : UseD → UseD) (u : List UseD) (k : Nat) (h : k < u.length) : (mixU f u k)[k]'(by rw [mixU_len]; exact h) = u[k] := by rw [mixU_get f u k k _ h, if_neg (Nat.lt_irrefl k)]
theorem mixU_succ (f : UseD → UseD) (u : List UseD) (k : Nat) (h : k < u.length) : (mixU f u k).set k (f u[k]) = mixU f u (k + 1) := by
  refine List.ext_getElem (by rw [List.length_set, mixU_len, mixU_len]) fun j h1 h2 => ?_
  have hj : j < u.length := by rw [mixU_len] at h2; exact h2
  rw [List.getElem_set, mixU_get _ _ _ _ h2 hj]
  by_cases e : k = j
  · subst e; simp
  · rw [if_neg e, mixU_get _ _ _ _ (by rw [mixU_len]; exact hj) hj]
    by_cases e2 : j < k
    · rw [if_pos e2, if_pos (by omega)]
    · rw [if_neg e2, if_neg (by omega)]
theorem mixU_stay (f : UseD → UseD) (u : List UseD) (k : Nat) (h : k < u.length) (hf : f u[k] = u[k]) : mixU f u k = mixU f u (k + 1) := by
  rw [← mixU_succ f u k h, hf, ← mixU_at f u k h, List.set_getElem_self]
/-- one cell of a row of uses is set -/
theorem flat_set : ∀ (xs : List UseD) (k : Nat) (h : k < xs.length) (z : Int), (xs.flatMap encUse).set (k * 2 + 1) (.int .i64 z) = (xs.set k (xs[k].1, z)).flatMap encUse
  | x :: xs, 0, _, z => rfl
  | x :: xs, k + 1, h, z => by
    have := flat_set xs k (by simpa using h) z
    rw [List.flatMap_cons, List.set_cons_succ, List.flatMap_cons, List.getElem_cons_succ, ← this]
    rw [show (k + 1) * 2 + 1 = (k * 2 + 1) + 1 + 1 by omega]
    rfl
theorem addU_ok {l : List SpaceD} {u : List UseD} {name : ByteArray} {more : Int} (h : ∀ x ∈ u, OkUse x) : ∀ x ∈ addU l u name more, OkUse x := by
  intro x hx
  obtain ⟨y, hy, rfl⟩ := List.mem_map.1 hx
  unfold addN
  split
  · exact h y hy
  · exact h y hy

set_option maxRecDepth 100000 in
set_option maxHeartbeats 2000000 in
theorem l8Add_any (a b : Option Addr) (ca cb : Nat) (l : List SpaceD) (u : List UseD) (name : ByteArray) (more : Int) (w : World) (hl : ElS 5 encSpace w a l) (hok : ∀ x ∈ l, OkSpace x) (hu : ElS 2 encUse w b u) (hub : UsB u) (hu7 : u.length ≤ 1048576) (hu1 : 0 < u.length) (hm0 : -99999 ≤ more) (hm1 : more ≤ 99999) :
    Calls Try.prog 70 #[.slice a l.length ca, .slice b u.length cb, .string name, .int .i64 more] w fun e w' => ∃ v, e = .returned v ∧ w'.ownsRow w.heap.size 69 2 v u.length ((addU l u name more).flatMap encUse) ∧ Below w.heap.size w w' := by
  obtain ⟨i0, hi, hz0, hz1, hz2⟩ := info_parts infoCUse
  have HL := Lib.hid hl
  have HK := Lib.hid hok
  have HX := Lib.hid (src_el encUse_len (by decide) hu)
  have HUB := Lib.hid hub
  clear hl hok hu hub
  have O0 := Lib.hid (World.ownsRow_made (e := 69) (size := 2) w #[] 0 (Nat.le_refl _) (by unfold maxLen; omega) rfl)
  go_enter Try.func70, Try.ntmps70
  go_wp2_with (at_builtin; refine wpList_append_src _ rfl _ _ 37 rfl w.heap.size 69 i0 (.agg #[.string ⟨#[]⟩, .int .i64 0]) 2 24 Try.underlying37 hi hz0 hz1 hz2 rfl (by decide) _ 0 [] rfl O0.out b u.length cb (u.flatMap encUse) rfl (HX.out.below (below_alloc w _)) oneUse (by unfold maxLen; omega) (by omega) (by simp) ?_; intro v2 w2 o2 g2 _)
  have B2 := Lib.hid (show Below w.heap.size w w2 from (below_alloc w _).grown g2 (by simp) (fun k hk => (O0.out.lt k hk).1))
  have o3 : w2.ownsRow w.heap.size 69 2 v2 u.length (u.flatMap encUse) := by have h := o2; rwa [Nat.zero_add, List.nil_append] at h
  obtain ⟨g, cap, rfl⟩ : ∃ g cap, v2 = .slice (some ⟨g, 0, none⟩) u.length cap := by
    rcases o3.2 with ⟨_, hn⟩ | ⟨g, cap, cur, hv, _⟩
    · omega
    · exact ⟨g, cap, hv⟩
  have O3 := Lib.hid o3
  have hgl := (o3.lt g rfl)
  clear o2 o3 g2 O0
  go_loopw [10] (fun i wr => ∃ k : Nat, k ≤ u.length ∧ i = .int .i64 k ∧ wr.ownsRow w.heap.size 69 2 (.slice (some ⟨g, 0, none⟩) u.length cap) u.length ((mixU (addN l name more) u k).flatMap encUse) ∧ Below w.heap.size w wr) (fun i _ => u.length - (intOf i).toNat)
  case atStart => exact ⟨0, Nat.zero_le _, rfl, by rw [mixU_zero]; exact O3.out, B2.out⟩
  case round =>
    obtain ⟨k, hk, rfl, hown, hbel⟩ := hrel
    have HO := Lib.hid hown
    have HB := Lib.hid hbel
    by_cases hlt : k < u.length
    · have hml := mixU_len (addN l name more) u k
      have HE := Lib.hid (own_el encUse_len (by rw [hml]; unfold maxLen; omega) (by rw [hml]; exact hown))
      obtain ⟨-, hcm⟩ := HE.out
      obtain ⟨b1, o1, e1, hcm⟩ := hcm.resolve_left (fun e => by rw [e] at hml; simp at hml; omega)
      obtain ⟨rfl, rfl⟩ : b1 = g ∧ o1 = 0 := by cases e1; exact ⟨rfl, rfl⟩
      obtain ⟨c0, c1⟩ := cellsUse (Below.refl _ _) hcm k (by rw [hml]; exact hlt)
      rw [mixU_at _ _ _ hlt] at c0 c1
      simp only [Nat.zero_add] at c0 c1
      clear e1 hcm
      have hub1 := HUB.out _ (List.getElem_mem hlt)
      obtain ⟨hub2, hub3⟩ := hub1
      cases hq : inSp l name u[k].1 with
      | true =>
        have HQ := Lib.hid hq
        have HN := Lib.hid (show addN l name more u[k] = (u[k].1, u[k].2 + more) by unfold addN; rw [hq]; rfl)
        clear hq hown hbel hml
        go_wp2_with (go_at_call 78; refine (l8In_any _ ca l name u[k].1 _ (HL.out.below HB.out) HK.out).mono ?_; rintro e w4 ⟨rfl, b4⟩; rw [HQ.out]; have f0 := (own_cells HO.out b4 (k * 2 + 1) (by omega)).2; have c2 := (b4.cell (p := ⟨b1, k * 2 + 1, none⟩) (by have := World.block_lt_of_cell? wr _ c1; simpa using this)).trans c1)
        have h1 := own_below HO.out b4
        have B4 := HB.out.trans (b4.mono HB.out.size)
        go_roundw
        case rel =>
          refine ⟨k + 1, by omega, by go_num, ?_, B4.setCell (p := ⟨b1, k * 2 + 1, none⟩) hgl.1 _⟩
          have h2 := (h1.stored (k * 2 + 1) (.int .i64 (u[k].2 + more))).1
          rw [flat_set _ k (by rw [mixU_len]; exact hlt)] at h2
          have e : (mixU (addN l name more) u k).set k (((mixU (addN l name more) u k)[k]'(by rw [mixU_len]; exact hlt)).1, u[k].2 + more) = mixU (addN l name more) u (k + 1) := by
            rw [mixU_at _ _ _ hlt, ← mixU_succ _ _ _ hlt, HN.out]
          rw [e] at h2
          exact h2
        case measure => simp [intOf]; omega
      | false =>
        have HQ := Lib.hid hq
        have HN := Lib.hid (show addN l name more u[k] = u[k] by unfold addN; rw [hq]; rfl)
        clear hq hown hbel hml
        go_wp2_with (go_at_call 78; refine (l8In_any _ ca l name u[k].1 _ (HL.out.below HB.out) HK.out).mono ?_; rintro e w4 ⟨rfl, b4⟩; rw [HQ.out])
        go_roundw
        case rel => exact ⟨k + 1, by omega, by go_num, by rw [← mixU_stay _ _ _ hlt HN.out]; exact own_below HO.out b4, HB.out.trans (b4.mono HB.out.size)⟩
        case measure => simp [intOf]; omega
    · clear hown hbel
      go_wp2
      go_ret
      exact ⟨_, rfl, by have h := HO.out; rwa [mixU_full _ _ _ (by omega)] at h, HB.out⟩
/-- the empty list that is made -/
theorem own_empty (w : World) (base : Nat) (hb : base ≤ w.heap.size) (T : TypeId) : (w.alloc (.cells #[] T)).ownsRow base T 2 (.slice (some ⟨w.heap.size, 0, none⟩) 0 0) 0 [] :=
  World.ownsRow_made (e := T) (size := 2) w #[] 0 hb (by unfold maxLen; omega) rfl
def AddPost (w : World) (R : List UseD) (e : Ending) (w' : World) : Prop := ∃ v, e = .returned v ∧ OwUseS w' w.heap.size w'.heap.size v R ∧ Below w.heap.size w w'
theorem addPost_empty {w w1 : World} {R : List UseD} (h : R = []) (b : Below w.heap.size w w1) : AddPost w R (.returned (.slice (some ⟨w1.heap.size, 0, none⟩) 0 0)) (w1.alloc (.cells #[] 69)) := by
  subst h
  exact ⟨_, rfl, owUseS_of (own_empty w1 _ b.size _) (by simp) (by simp), b.alloc b.size _⟩
theorem bool_of {b : Bool} {p : Bool} (h : b = p) : Value.bool b = .bool p := by rw [h]
set_option maxRecDepth 100000 in
set_option maxHeartbeats 2000000 in
theorem specUseAdd_any (a b : Option Addr) (ca cb : Nat) (l : List SpaceD) (u : List UseD) (name : ByteArray) (more : Int) (w : World) (hl : ElS 5 encSpace w a l) (hok : ∀ x ∈ l, OkSpace x) (hlen : l.length ≤ 1048576) (hu : ElS 2 encUse w b u) (huk : ∀ x ∈ u, OkUse x) :
    Calls Try.prog 25 #[.slice a l.length ca, .slice b u.length cb, .string name, .int .i64 more] w (AddPost w (addO l u name more)) := by
  have HX := Lib.hid hl
  have HY := Lib.hid hu
  have HK := Lib.hid hok
  have HUK := Lib.hid huk
  clear hl hu hok huk
  cases h0 : spsOk l with
  | false =>
    have H0 := Lib.hid h0
    have HF := Lib.hid (addO_no (show addOk l u name more = false by unfold addOk; rw [h0]; rfl))
    clear h0
    go_enter Try.func25, Try.ntmps25
    go_wp2_with (go_at_call 35; refine (specSpaces_is (HX.out.below (by repeat (first | exact Below.refl _ _ | (refine Below.alloc ?_ (by first | (simp; done) | (simp; omega)) _) | (refine Below.setCell ?_ (by first | (simp; done) | (simp; omega)) _) | (refine Below.drew ?_)))) HK.out hlen H0.out ca).mono ?_; rintro e w1 ⟨rfl, b1⟩)
    go_ret
    exact addPost_empty HF.out b1
  | true =>
    have H0 := Lib.hid h0
    clear h0
    cases h1 : usesB l u with
    | false =>
      have H1 := Lib.hid h1
      have HF := Lib.hid (addO_no (show addOk l u name more = false by unfold addOk; rw [H0.out, h1]; rfl))
      clear h1
      go_enter Try.func25, Try.ntmps25
      go_wp2_with (first
        | (go_at_call 35; refine (specSpaces_is (HX.out.below (by repeat (first | exact Below.refl _ _ | (refine Below.alloc ?_ (by first | (simp; done) | (simp; omega)) _) | (refine Below.setCell ?_ (by first | (simp; done) | (simp; omega)) _) | (refine Below.drew ?_)))) HK.out hlen H0.out ca).mono ?_; rintro e w1 ⟨rfl, b1⟩)
        | (go_at_call 61; refine (l8Uses_is (HX.out.below b1) (HY.out.below b1) H1.out ca cb).mono ?_; rintro e w2 ⟨rfl, b2⟩; have B2 := b1.trans (b2.mono b1.size)))
      go_ret
      exact addPost_empty HF.out B2
    | true =>
      have H1 := Lib.hid h1
      obtain ⟨hub, hul, -⟩ := usesB_ub h1
      have h7 := (sps_len H0.out).2.1
      have h71 := (sps_len H0.out).1
      have HUB := Lib.hid hub
      have hu7 : u.length ≤ 1048576 := by omega
      have hu1 : 0 < u.length := by omega
      have HUL := Lib.hid hul
      clear h1 hub hul h7 h71
      cases h3 : inB more (-99999) 99999 with
      | false =>
        have H3 := Lib.hid h3
        have HF := Lib.hid (addO_no (show addOk l u name more = false by unfold addOk; rw [H0.out, H1.out, h3]; rfl))
        clear h3
        go_enter Try.func25, Try.ntmps25
        go_wp2_with (first
          | (go_at_call 35; refine (specSpaces_is (HX.out.below (by repeat (first | exact Below.refl _ _ | (refine Below.alloc ?_ (by first | (simp; done) | (simp; omega)) _) | (refine Below.setCell ?_ (by first | (simp; done) | (simp; omega)) _) | (refine Below.drew ?_)))) HK.out hlen H0.out ca).mono ?_; rintro e w1 ⟨rfl, b1⟩)
          | (go_at_call 61; refine (l8Uses_is (HX.out.below b1) (HY.out.below b1) H1.out ca cb).mono ?_; rintro e w2 ⟨rfl, b2⟩; have B2 := b1.trans (b2.mono b1.size))
          | (go_at_call 63; refine (in_is H3.out _).mono ?_; rintro e wq ⟨rfl, rfl⟩))
        go_ret
        exact addPost_empty HF.out B2
      | true =>
        have H3 := Lib.hid h3
        obtain ⟨hm0, hm1⟩ := of_decide_eq_true h3
        clear h3
        obtain ⟨x, hx⟩ : ∃ x, addU l u name more = x := ⟨_, rfl⟩
        have hxl : x.length = u.length := by rw [← hx]; simp [addU]
        have HXE := Lib.hid hx
        have HXK := Lib.hid (show ∀ y ∈ x, OkUse y by rw [← hx]; exact addU_ok HUK.out)
        have HXL := Lib.hid hxl
        clear hx
        cases h4 : usesB l x with
        | false =>
          have H4 := Lib.hid h4
          have HF := Lib.hid (addO_no (show addOk l u name more = false by unfold addOk; rw [H0.out, H1.out, H3.out, HXE.out, h4]; rfl))
          clear h4 hxl
          go_enter Try.func25, Try.ntmps25
          go_wp2_with (first
            | (go_at_call 35; refine (specSpaces_is (HX.out.below (by repeat (first | exact Below.refl _ _ | (refine Below.alloc ?_ (by first | (simp; done) | (simp; omega)) _) | (refine Below.setCell ?_ (by first | (simp; done) | (simp; omega)) _) | (refine Below.drew ?_)))) HK.out hlen H0.out ca).mono ?_; rintro e w1 ⟨rfl, b1⟩)
            | (go_at_call 70; refine (l8Add_any _ _ ca cb l u name more _ (HX.out.below B2) HK.out (HY.out.below B2) HUB.out hu7 hu1 hm0 hm1).mono ?_; rintro e w3 ⟨v3, rfl, o3, b3⟩; rw [HXE.out, ← HXL.out] at o3; obtain ⟨a3, c3, rfl⟩ := own_shape o3; have E3 := Lib.hid (own_el encUse_len (by rw [HXL.out]; unfold maxLen; omega) o3); have B3 := B2.trans (b3.mono B2.size); clear o3)
            | (go_at_call 61; refine (l8Uses_is (HX.out.below B3) E3.out H4.out ca c3).mono ?_; rintro e w4 ⟨rfl, b4⟩; have B4 := B3.trans (b4.mono B3.size))
            | (go_at_call 61; refine (l8Uses_is (HX.out.below b1) (HY.out.below b1) H1.out ca cb).mono ?_; rintro e w2 ⟨rfl, b2⟩; have B2 := b1.trans (b2.mono b1.size))
            | (go_at_call 63; refine (in_is H3.out _).mono ?_; rintro e wq ⟨rfl, rfl⟩))
          go_ret
          exact addPost_empty HF.out B4
        | true =>
          have H4 := Lib.hid h4
          have HF := Lib.hid (show addO l u name more = x by rw [addO_yes (show addOk l u name more = true by unfold addOk; rw [H0.out, H1.out, H3.out, HXE.out, h4]; rfl), HXE.out])
          clear h4 hxl
          go_enter Try.func25, Try.ntmps25
          go_wp2_with (first
            | (go_at_call 35; refine (specSpaces_is (HX.out.below (by repeat (first | exact Below.refl _ _ | (refine Below.alloc ?_ (by first | (simp; done) | (simp; omega)) _) | (refine Below.setCell ?_ (by first | (simp; done) | (simp; omega)) _) | (refine Below.drew ?_)))) HK.out hlen H0.out ca).mono ?_; rintro e w1 ⟨rfl, b1⟩)
            | (go_at_call 70; refine (l8Add_any _ _ ca cb l u name more _ (HX.out.below B2) HK.out (HY.out.below B2) HUB.out hu7 hu1 hm0 hm1).mono ?_; rintro e w3 ⟨v3, rfl, o3, b3⟩; rw [HXE.out, ← HXL.out] at o3; obtain ⟨a3, c3, rfl⟩ := own_shape o3; have E3 := Lib.hid (own_el encUse_len (by rw [HXL.out]; unfold maxLen; omega) o3); have OO3 := Lib.hid o3; have B3 := B2.trans (b3.mono B2.size); clear o3)
            | (go_at_call 61; refine (l8Uses_is (HX.out.below B3) E3.out H4.out ca c3).mono ?_; rintro e w4 ⟨rfl, b4⟩; have B4 := B3.trans (b4.mono B3.size))
            | (go_at_call 61; refine (l8Uses_is (HX.out.below b1) (HY.out.below b1) H1.out ca cb).mono ?_; rintro e w2 ⟨rfl, b2⟩; have B2 := b1.trans (b2.mono b1.size))
            | (go_at_call 63; refine (in_is H3.out _).mono ?_; rintro e wq ⟨rfl, rfl⟩))
          go_ret
          rw [HF.out]
          exact ⟨_, rfl, owUseS_of (own_mono B2.size (own_below OO3.out b4)) (by rw [HXL.out]; unfold maxLen; omega) HXK.out, B4⟩
end Go.Proofs.Ytlaehhdbagiciab
