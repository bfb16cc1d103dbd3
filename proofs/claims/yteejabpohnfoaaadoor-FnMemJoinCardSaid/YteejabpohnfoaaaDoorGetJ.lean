import Derived.Test.YteejabpohnfoaaaDoorGetI
/- MemGet of the program and of the specification. -/
namespace Go.Proofs.YteejabpohnfoaaaDoor
open Go Go.RowKit

theorem bel_drewN {B : Nat} {w w' : World} (h : Below B w w') (n : Nat) : Below B w (w'.drewN n) := h.trans ⟨rfl, rfl, rfl, Nat.le_refl _, fun _ _ => rfl⟩

set_option maxRecDepth 100000 in
set_option maxHeartbeats 800000 in
theorem at_any (a : Option Addr) (ca : Nat) (l : List EntryD) (key : ByteArray) (seq : Int) (w : World) (hn : l.length ≤ 1048576) (hl : ElS 4 encEntry w a l)
    (hs : ∀ j (hj : j + 1 < l.length), lessB (l[j]'(by omega)) l[j+1] = true) :
    Calls Tryd.prog 43 #[.slice a l.length ca, .string key, .int .i64 seq] w fun e w' => e = .returned (.tuple #[optE (getE l key seq), .bool (getE l key seq).isSome]) ∧ Below w.heap.size w w' := by
  have HX := Lib.hid hl
  have HS := Lib.hid hs
  clear hl hs
  go_enter Tryd.func43, Tryd.ntmps43
  go_wp2_with fail
  refine (place_any _ _ l key seq _ hn (HX.out.below (by repeat (first | exact Below.refl _ _ | (refine Below.alloc ?_ (by first | (simp; done) | (simp; omega)) _) | (refine Below.setCell ?_ (by first | (simp; done) | (simp; omega)) _) | (refine Below.drew ?_)))) HS.out).mono ?_
  rintro e w1 ⟨⟨p, hp, h1, h2, rfl⟩, b1⟩
  have B1 : Below w.heap.size w w1 := Below.trans (by repeat (first | exact Below.refl _ _ | (refine Below.alloc ?_ (by first | (simp; done) | (simp; omega)) _) | (refine Below.setCell ?_ (by first | (simp; done) | (simp; omega)) _) | (refine Below.drew ?_))) (b1.mono (by simp))
  have hX := Box.alloc w #[.string ⟨#[]⟩, .int .i64 0, .bool false, .string ⟨#[]⟩] 31
  have hX1 := hX.below b1
  obtain ⟨⟨x0, f0⟩, ⟨x1, f1⟩, ⟨x2, f2⟩, x3, f3⟩ := show _ ∧ _ ∧ _ ∧ _ from ⟨hX1 0 _ rfl, hX1 1 _ rfl, hX1 2 _ rfl, hX1 3 _ rfl⟩
  have H1 := Lib.hid h1
  have H2 := Lib.hid h2
  clear h1 h2 hX hX1
  by_cases hpn : p < l.length
  · obtain ⟨ba, oa, rfl, hc⟩ := HX.out.2.resolve_left (by intro e; subst e; simp at hpn)
    obtain ⟨c0, c1, c2, c3⟩ := cellsEntry B1 hc p hpn
    have HC := Lib.hid hc
    clear hc
    have hp0 : (0 : Int) ≤ (p : Int) := by omega
    have hpi : (p : Int) < (l.length : Int) := by omega
    have hne : (p == l.length) = false := by rw [beq_eq_false_iff_ne]; omega
    have hne2 : ¬ p = l.length := by omega
    by_cases e : l[p].1 = key
    · have q1 : (l[p].1.toList == key.toList) = true := by rw [e]; simp
      have HN := Lib.hid (getE_place hpn (fun j hj h => H1.out j hj h) (H2.out p hpn (Nat.le_refl _)) e)
      clear e
      go_wp2
      exact bodyPost_ret (v := .tuple #[.agg #[.string l[p].1, .int .i64 l[p].2.1, .bool l[p].2.2.1, .string l[p].2.2.2], .bool true]) (by simp [results, Tryd.results43, go_sem, x0, x1, x2, x3]) rfl ⟨optE_some HN.out, (by repeat (first | exact B1 | (refine Below.setCell ?_ (by first | exact Nat.le_refl _ | (simp; done) | (simp; omega)) _)))⟩
    · have q1 := eqL_no e
      have HN := Lib.hid (getE_gone HS.out (fun j hj h => H1.out j hj h) (fun hi => ⟨H2.out p hi (Nat.le_refl _), e⟩))
      clear e
      go_wp2
      exact bodyPost_ret (v := .tuple #[.agg #[.string ⟨#[]⟩, .int .i64 0, .bool false, .string ⟨#[]⟩], .bool false]) (by simp [results, Tryd.results43, go_sem, x0, x1, x2, x3]) rfl ⟨optE_none HN.out, (by repeat (first | exact B1 | (refine Below.setCell ?_ (by first | exact Nat.le_refl _ | (simp; done) | (simp; omega)) _)))⟩
  · have HN := Lib.hid (getE_gone (key := key) (seq := seq) HS.out (fun j hj h => H1.out j hj h) (fun hi => absurd hi hpn))
    have hne : (p == l.length) = true := by rw [beq_iff_eq]; omega
    go_wp2
    exact bodyPost_ret (v := .tuple #[.agg #[.string ⟨#[]⟩, .int .i64 0, .bool false, .string ⟨#[]⟩], .bool false]) (by simp [results, Tryd.results43, go_sem, x0, x1, x2, x3]) rfl ⟨optE_none HN.out, (by repeat (first | exact B1 | (refine Below.setCell ?_ (by first | exact Nat.le_refl _ | (simp; done) | (simp; omega)) _)))⟩

/-- what MemGet answers, of entries that may be not ok -/
def getVV (l : List EntryD) (key : ByteArray) (seq : Int) : ByteArray := if entsB l = true then getV l key seq else ⟨#[]⟩
def getBB (l : List EntryD) (key : ByteArray) (seq : Int) : Bool := if entsB l = true then getB l key seq else false
theorem ret_getNo {l : List EntryD} {key : ByteArray} {seq : Int} (h : entsB l = false) : Ending.returned (.tuple #[.string ⟨#[]⟩, .bool false]) = .returned (.tuple #[.string (getVV l key seq), .bool (getBB l key seq)]) := by
  unfold getVV getBB; rw [h]; rfl
theorem ret_getNone {l : List EntryD} {key : ByteArray} {seq : Int} (h : entsB l = true) (g : getE l key seq = none) : Ending.returned (.tuple #[.string ⟨#[]⟩, .bool false]) = .returned (.tuple #[.string (getVV l key seq), .bool (getBB l key seq)]) := by
  unfold getVV getBB; unfold getV getB; rw [h, g]; rfl
theorem ret_getSome {l : List EntryD} {key : ByteArray} {seq : Int} {x : EntryD} (h : entsB l = true) (g : getE l key seq = some x) : Ending.returned (.tuple #[.string x.2.2.2, .bool !x.2.2.1]) = .returned (.tuple #[.string (getVV l key seq), .bool (getBB l key seq)]) := by
  unfold getVV getBB; unfold getV getB; rw [h, g]; rfl

set_option maxRecDepth 100000 in
set_option maxHeartbeats 800000 in
theorem implGet_any (a : Option Addr) (ca : Nat) (l : List EntryD) (key : ByteArray) (seq : Int) (w : World) (hn : l.length ≤ 1048576) (hl : ElS 4 encEntry w a l) (hok : ∀ x ∈ l, OkEntry x) :
    Calls Tryd.prog 23 #[.slice a l.length ca, .string key, .int .i64 seq] w fun e w' => e = .returned (.tuple #[.string (getVV l key seq), .bool (getBB l key seq)]) ∧ Below w.heap.size w w' := by
  have HX := Lib.hid hl
  clear hl
  cases h : entsB l with
  | false =>
    have H := Lib.hid h
    clear h
    go_enter Tryd.func23, Tryd.ntmps23
    go_wp2_with (go_at_call 21; refine (implEntries_any _ _ l _ (HX.out.below (by repeat (first | exact Below.refl _ _ | (refine Below.alloc ?_ (by first | (simp; done) | (simp; omega)) _) | (refine Below.setCell ?_ (by first | (simp; done) | (simp; omega)) _) | (refine Below.drew ?_)))) hok).mono ?_; rintro e w1 ⟨rfl, b1⟩; rw [H.out])
    go_ret2
    exact ⟨ret_getNo H.out, Below.trans (by repeat (first | exact Below.refl _ _ | (refine Below.alloc ?_ (by first | (simp; done) | (simp; omega)) _) | (refine Below.setCell ?_ (by first | (simp; done) | (simp; omega)) _) | (refine Below.drew ?_))) (b1.mono (by simp))⟩
  | true =>
    have H := Lib.hid h
    have HS := Lib.hid (entsB_at h).2.2
    clear h
    cases g : getE l key seq with
    | none =>
      have HR := Lib.hid (ret_getNone H.out g)
      have HO := Lib.hid (show optE (getE l key seq) = .agg #[.string ⟨#[]⟩, .int .i64 0, .bool false, .string ⟨#[]⟩] by rw [g]; rfl)
      have HI := Lib.hid (show (getE l key seq).isSome = false by rw [g]; rfl)
      clear g
      go_enter Tryd.func23, Tryd.ntmps23
      go_wp2_with fail
      refine (implEntries_any _ _ l _ (HX.out.below (by repeat (first | exact Below.refl _ _ | (refine Below.alloc ?_ (by first | (simp; done) | (simp; omega)) _) | (refine Below.setCell ?_ (by first | (simp; done) | (simp; omega)) _) | (refine Below.drew ?_)))) hok).mono ?_
      rintro e w1 ⟨rfl, b1⟩
      rw [H.out]
      have B1 : Below w.heap.size w w1 := Below.trans (by repeat (first | exact Below.refl _ _ | (refine Below.alloc ?_ (by first | (simp; done) | (simp; omega)) _) | (refine Below.setCell ?_ (by first | (simp; done) | (simp; omega)) _) | (refine Below.drew ?_))) (b1.mono (by simp))
      go_wp2_with fail
      refine (at_any _ _ l key seq _ hn (HX.out.below B1) HS.out).mono ?_
      rintro e w2 ⟨rfl, b2⟩
      have B2 := B1.trans (b2.mono B1.size)
      rw [HO.out, HI.out]
      go_wp2
      go_quiet (fail)
      go_wp2
      go_ret2
      exact ⟨HR.out, bel_drewN (B2.alloc B2.size _) _⟩
    | some x =>
      have HR := Lib.hid (ret_getSome H.out g)
      have HO := Lib.hid (show optE (getE l key seq) = .agg #[.string x.1, .int .i64 x.2.1, .bool x.2.2.1, .string x.2.2.2] by rw [g]; rfl)
      have HI := Lib.hid (show (getE l key seq).isSome = true by rw [g]; rfl)
      clear g
      go_enter Tryd.func23, Tryd.ntmps23
      go_wp2_with fail
      refine (implEntries_any _ _ l _ (HX.out.below (by repeat (first | exact Below.refl _ _ | (refine Below.alloc ?_ (by first | (simp; done) | (simp; omega)) _) | (refine Below.setCell ?_ (by first | (simp; done) | (simp; omega)) _) | (refine Below.drew ?_)))) hok).mono ?_
      rintro e w1 ⟨rfl, b1⟩
      rw [H.out]
      have B1 : Below w.heap.size w w1 := Below.trans (by repeat (first | exact Below.refl _ _ | (refine Below.alloc ?_ (by first | (simp; done) | (simp; omega)) _) | (refine Below.setCell ?_ (by first | (simp; done) | (simp; omega)) _) | (refine Below.drew ?_))) (b1.mono (by simp))
      go_wp2_with fail
      refine (at_any _ _ l key seq _ hn (HX.out.below B1) HS.out).mono ?_
      rintro e w2 ⟨rfl, b2⟩
      have B2 := B1.trans (b2.mono B1.size)
      rw [HO.out, HI.out]
      go_wp2
      go_quiet (fail)
      go_wp2
      go_ret2
      exact ⟨HR.out, bel_drewN (B2.alloc B2.size _) _⟩

end Go.Proofs.YteejabpohnfoaaaDoor
