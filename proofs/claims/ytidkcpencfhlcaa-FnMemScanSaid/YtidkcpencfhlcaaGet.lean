import Derived.Test.YtidkcpencfhlcaaEntsJ2
/- MemGet of both sides. -/
namespace Go.Proofs.Ytidkcpencfhlcaa
open Go Go.RowKit

/-- what MemGet answers -/
def optV (o : Option EntryD) : ByteArray := match o with | none => ⟨#[]⟩ | some e => e.2.2.2
def optB (o : Option EntryD) : Bool := match o with | none => false | some e => !e.2.2.1
def getV (l : List EntryD) (key : ByteArray) (seq : Int) : ByteArray := optV (getE l key seq)
def getB (l : List EntryD) (key : ByteArray) (seq : Int) : Bool := optB (getE l key seq)
/-- an entry that may be none, as a value -/
def optE (o : Option EntryD) : Value := match o with | none => .agg #[.string ⟨#[]⟩, .int .i64 0, .bool false, .string ⟨#[]⟩] | some e => .agg #[.string e.1, .int .i64 e.2.1, .bool e.2.2.1, .string e.2.2.2]

theorem optE_none {o : Option EntryD} (h : o = none) : Ending.returned (.tuple #[.agg #[.string ⟨#[]⟩, .int .i64 0, .bool false, .string ⟨#[]⟩], .bool false]) = .returned (.tuple #[optE o, .bool o.isSome]) := by subst h; rfl
theorem optE_some {o : Option EntryD} {x : EntryD} (h : o = some x) : Ending.returned (.tuple #[.agg #[.string x.1, .int .i64 x.2.1, .bool x.2.2.1, .string x.2.2.2], .bool true]) = .returned (.tuple #[optE o, .bool o.isSome]) := by subst h; rfl

set_option maxRecDepth 100000 in
set_option maxHeartbeats 800000 in
theorem specGetE_any (a : Option Addr) (ca : Nat) (l : List EntryD) (key : ByteArray) (seq : Int) (w : World) (hl : ElS 4 encEntry w a l) :
    Calls Try.prog 42 #[.slice a l.length ca, .string key, .int .i64 seq] w fun e w' => e = .returned (.tuple #[optE (getE l key seq), .bool (getE l key seq).isSome]) ∧ Below w.heap.size w w' := by
  obtain ⟨hl1, hl⟩ := hl
  unfold maxLen at hl1
  rcases hl with rfl | ⟨ba, oa, rfl, hca⟩
  · go_enter Try.func42, Try.ntmps42
    go_wp2
    refine wp_loop_rounds 1 ?_
    rw [rounds_succ]
    go_wp2
    exact bodyPost_ret (v := .tuple #[.agg #[.string ⟨#[]⟩, .int .i64 0, .bool false, .string ⟨#[]⟩], .bool false]) (by simp [results, Try.results42, go_sem]) rfl ⟨rfl, (by repeat (first | exact Below.refl _ _ | (refine Below.alloc ?_ (by first | (simp; done) | (simp; omega)) _) | (refine Below.setCell ?_ (by first | (simp; done) | (simp; omega)) _) | (refine Below.drew ?_)))⟩
  · have HC := Lib.hid hca
    clear hca
    go_enter Try.func42, Try.ntmps42
    go_wp2
    go_loopw [8] (fun i wr => ∃ k : Nat, k ≤ l.length ∧ i = .int .i64 k ∧ (l.take k).find? (tells key seq) = none ∧ Box wr w.heap.size [.string ⟨#[]⟩, .int .i64 0, .bool false, .string ⟨#[]⟩] ∧ Below w.heap.size w wr) (fun i _ => l.length - (intOf i).toNat)
    case atStart => exact ⟨0, Nat.zero_le _, rfl, rfl, Box.alloc _ _ _, (by repeat (first | exact Below.refl _ _ | (refine Below.alloc ?_ (by first | (simp; done) | (simp; omega)) _) | (refine Below.setCell ?_ (by first | (simp; done) | (simp; omega)) _) | (refine Below.drew ?_)))⟩
    case round =>
      obtain ⟨k, hk, rfl, hto, hbx, hbel⟩ := hrel
      have HT := Lib.hid hto
      have HX := Lib.hid hbx
      obtain ⟨⟨x0, f0⟩, ⟨x1, f1⟩, ⟨x2, f2⟩, x3, f3⟩ := show _ ∧ _ ∧ _ ∧ _ from ⟨hbx 0 _ rfl, hbx 1 _ rfl, hbx 2 _ rfl, hbx 3 _ rfl⟩
      clear hto hbx
      by_cases hlt : k < l.length
      · obtain ⟨c0, c1, c2, c3⟩ := cellsEntry hbel HC.out k hlt
        by_cases e : l[k].1 = key
        · have q1 : (l[k].1.toList == key.toList) = true := by rw [e]; simp
          by_cases g : l[k].2.1 ≤ seq
          · have HN := Lib.hid (show getE l key seq = some l[k] from find_take_hit hlt HT.out (by simp [tells, e, g]))
            have g1 : decide (l[k].2.1 ≤ seq) = true := decide_eq_true g
            clear e
            go_wp2
            exact bodyPost_ret (v := .tuple #[.agg #[.string l[k].1, .int .i64 l[k].2.1, .bool l[k].2.2.1, .string l[k].2.2.2], .bool true]) (by simp [results, Try.results42, go_sem, x0, x1, x2, x3]) rfl ⟨optE_some HN.out, (by repeat (first | exact hbel | (refine Below.setCell ?_ (by first | exact Nat.le_refl _ | (simp; done) | (simp; omega)) _)))⟩
          · have HN := Lib.hid (find_take_succ hlt HT.out (p := tells key seq) (by simp [tells, g]))
            have g1 : decide (l[k].2.1 ≤ seq) = false := decide_eq_false g
            clear e
            go_wp2
            go_roundw
            case rel => exact ⟨k + 1, by omega, by go_num, HN.out, HX.out, hbel⟩
            case measure => simp [intOf]; omega
        · have q1 := eqL_no e
          have HN := Lib.hid (find_take_succ hlt HT.out (p := tells key seq) (by simp [tells, e]))
          clear e
          go_wp2
          go_roundw
          case rel => exact ⟨k + 1, by omega, by go_num, HN.out, HX.out, hbel⟩
          case measure => simp [intOf]; omega
      · have HN := Lib.hid (getE_none_take (k := k) (by omega) HT.out)
        go_wp2
        exact bodyPost_ret (v := .tuple #[.agg #[.string ⟨#[]⟩, .int .i64 0, .bool false, .string ⟨#[]⟩], .bool false]) (by simp [results, Try.results42, go_sem, x0, x1, x2, x3]) rfl ⟨optE_none HN.out, (by repeat (first | exact hbel | (refine Below.setCell ?_ (by first | exact Nat.le_refl _ | (simp; done) | (simp; omega)) _)))⟩
end Go.Proofs.Ytidkcpencfhlcaa
