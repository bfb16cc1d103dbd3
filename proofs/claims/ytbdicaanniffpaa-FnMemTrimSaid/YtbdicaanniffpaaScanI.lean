import Derived.Test.YtbdicaanniffpaaScanS
import Derived.Test.YtbdicaanniffpaaKept
import Derived.RangeFuncBox
import Derived.RangeFuncLeaves
import Derived.Shelf.Abstract
import Derived.OwnWalkIn
import Derived.TacticsInMore
import Derived.LoopNIn
import Derived.LoopIn
import Derived.Maps.AppendAt
/- What each key has, told one by one: the program's iterator. -/
namespace Go.Proofs.Ytbdicaanniffpaa
open Go Go.RowKit Go.Shelf

attribute [local go_sem] Oper.semAt_some

def encA (x : EntryD) : Array Value := #[.agg #[.string x.1, .int .i64 x.2.1, .bool x.2.2.1, .string x.2.2.2]]

theorem seen_step_no {seq : Int} {told : ByteArray} {l out : List EntryD} {k : Nat} (hk : k < l.length) (h : (decide (seq < l[k].2.1) || decide (l[k].1 = told)) = true)
    (he : out ++ seenR seq told (l.drop k) = seenR seq ⟨#[]⟩ l) : out ++ seenR seq told (l.drop (k + 1)) = seenR seq ⟨#[]⟩ l := by
  rw [List.drop_eq_getElem_cons hk, seen_no h] at he; exact he
theorem seen_step_dead {seq : Int} {told : ByteArray} {l out : List EntryD} {k : Nat} (hk : k < l.length) (h : (decide (seq < l[k].2.1) || decide (l[k].1 = told)) = false) (hd : l[k].2.2.1 = true)
    (he : out ++ seenR seq told (l.drop k) = seenR seq ⟨#[]⟩ l) : out ++ seenR seq l[k].1 (l.drop (k + 1)) = seenR seq ⟨#[]⟩ l := by
  rw [List.drop_eq_getElem_cons hk, seen_yes (by rw [h]; exact Bool.false_ne_true), if_pos hd] at he; exact he
theorem seen_step_live {seq : Int} {told : ByteArray} {l out : List EntryD} {k : Nat} (hk : k < l.length) (h : (decide (seq < l[k].2.1) || decide (l[k].1 = told)) = false) (hd : l[k].2.2.1 = false)
    (he : out ++ seenR seq told (l.drop k) = seenR seq ⟨#[]⟩ l) : (out ++ [l[k]]) ++ seenR seq l[k].1 (l.drop (k + 1)) = seenR seq ⟨#[]⟩ l := by
  rw [List.drop_eq_getElem_cons hk, seen_yes (by rw [h]; exact Bool.false_ne_true), if_neg (by rw [hd]; exact Bool.false_ne_true)] at he
  rw [List.append_assoc]; exact he

theorem cellsEntryK {T : Nat → Prop} {w wr : World} {b o : Nat} {l : List EntryD} (hb : KeptOut T w wr) (hT : ¬ T b) (hc : ∀ j, (h : j < l.length) → ∀ i v, (encEntry l[j])[i]? = some v → w.cell? ⟨b, o + j * 4 + i, none⟩ = some v) (k : Nat) (h : k < l.length) :
    wr.cell? ⟨b, o + k * 4, none⟩ = some (.string l[k].1) ∧ wr.cell? ⟨b, o + k * 4 + 1, none⟩ = some (.int .i64 l[k].2.1) ∧ wr.cell? ⟨b, o + k * 4 + 2, none⟩ = some (.bool l[k].2.2.1) ∧ wr.cell? ⟨b, o + k * 4 + 3, none⟩ = some (.string l[k].2.2.2) := by
  have g : ∀ i v, (encEntry l[k])[i]? = some v → wr.cell? ⟨b, o + k * 4 + i, none⟩ = some v := fun i v hv => by
    have h0 := hc k h i v hv
    rw [hb.cell (by have := World.block_lt_of_cell? w _ h0; simpa using this) hT]
    exact h0
  exact ⟨g 0 _ rfl, g 1 _ rfl, g 2 _ rfl, g 3 _ rfl⟩

set_option maxRecDepth 100000 in
set_option maxHeartbeats 2000000 in
theorem seen1_in (F : Fence) (n : Nat) (hfn : F.fn 58) (hro : F.round = none) (hn : 1 ≤ n) (lp Bl Bq ba oa c : Nat) (l : List EntryD) (seq : Int) (hlen : l.length ≤ 240) (T : Nat → Prop) (hTb : ¬ T ba) (hTq : ¬ T Bq) (J Jx : List EntryD → World → Prop)
    (hY : ∀ pre x W, J pre W → pre.length < l.length → YieldAt F (n - 1) Try.prog lp (encA x) W fun e W' =>
      (e = .returned (.bool true) ∧ J (pre ++ [x]) W' ∧ KeptOut T W W') ∨ (e = .returned (.bool false) ∧ Jx (pre ++ [x]) W'))
    (W : World) (hJ : AbidesFrom W.heap.size J) (hBl : W.cell? ⟨Bl, 0, none⟩ = some (.slice (some ⟨ba, oa, none⟩) l.length c)) (hBq : W.cell? ⟨Bq, 0, none⟩ = some (.int .i64 seq))
    (hc : ∀ j, (h : j < l.length) → ∀ i v, (encEntry l[j])[i]? = some v → W.cell? ⟨ba, oa + j * 4 + i, none⟩ = some v) (h0 : J [] W) :
    CallsIn F n Try.prog 58 #[.func (.yield lp) #[] #[], .pointer (some ⟨Bl, 0, none⟩), .pointer (some ⟨Bq, 0, none⟩)] W fun e W' => (∃ v, e = .returned v) ∧
      ((∃ ys, ys = seenR seq ⟨#[]⟩ l ∧ J ys W') ∨ (∃ pre, pre <+: seenR seq ⟨#[]⟩ l ∧ Jx pre W')) := by
  have HC := Lib.hid hc
  clear hc
  refine callsIn_of_wp Try.func58 rfl hfn ?_ hro
  simp only [Try.ntmps58, List.size_toArray, List.length_cons, List.length_nil, Nat.reduceAdd, Nat.reduceSub, Array.replicate_succ, Array.replicate_zero, List.push_toArray, List.append_toArray, List.nil_append, List.cons_append]
  gi_wp2
  gi_loopw [4, 9] (fun v4 v9 wr => ∃ (k : Nat) (told : ByteArray) (out : List EntryD), k ≤ l.length ∧ v9 = .int .i64 k ∧ v4 = .string told ∧ out.length ≤ k ∧ out ++ seenR seq told (l.drop k) = seenR seq ⟨#[]⟩ l ∧ J out wr ∧ KeptOut T W wr) (fun _ v9 _ => l.length - (intOf v9).toNat)
  case atStart => exact ⟨0, ⟨#[]⟩, [], Nat.zero_le _, rfl, rfl, Nat.le_refl _, rfl, h0, KeptOut.refl _ _⟩
  case round =>
    obtain ⟨k, told, out, hk, rfl, rfl, htl, ht, hJo, hkp⟩ := hrel
    have HT := Lib.hid ht
    have hbq : Bq < W.heap.size := by have := World.block_lt_of_cell? W _ hBq; simpa using this
    clear ht
    by_cases hlt : k < l.length
    · obtain ⟨c0, c1, c2, c3⟩ := cellsEntryK hkp hTb HC.out k hlt
      have cq : wr.cell? ⟨Bq, 0, none⟩ = some (.int .i64 seq) := (hkp.cell (p := ⟨Bq, 0, none⟩) hbq hTq).trans hBq
      have hqw : Bq < wr.heap.size := Nat.lt_of_lt_of_le hbq hkp.size
      have hk0 : (0 : Int) ≤ (k : Int) := by omega
      have hkn : (k : Int) < (l.length : Int) := by omega
      have J1 : J out (wr.alloc (.cells #[.string l[k].1, .int .i64 l[k].2.1, .bool l[k].2.2.1, .string l[k].2.2.2] 32)) := hJ _ _ _ none hJo (World.grownBy_alloc _ _ none) (fun r e => by cases e)
      have K1 : KeptOut T W (wr.alloc (.cells #[.string l[k].1, .int .i64 l[k].2.1, .bool l[k].2.2.1, .string l[k].2.2.2] 32)) := hkp.alloc _
      by_cases g : seq < l[k].2.1
      · have g1 : decide (seq < l[k].2.1) = true := decide_eq_true g
        have HN := Lib.hid (seen_step_no hlt (by rw [g1]; rfl) HT.out)
        gi_wp2
        go_roundw
        case rel => exact ⟨k + 1, told, out, by omega, by go_num, rfl, by omega, HN.out, J1, K1⟩
        case measure => simp [intOf]; omega
      · have g1 : decide (seq < l[k].2.1) = false := decide_eq_false g
        by_cases e : l[k].1 = told
        · have q1 : (l[k].1.toList == told.toList) = true := by rw [e]; simp
          have HN := Lib.hid (seen_step_no hlt (by rw [decide_eq_true e]; simp) HT.out)
          clear e
          gi_wp2
          go_roundw
          case rel => exact ⟨k + 1, told, out, by omega, by go_num, rfl, by omega, HN.out, J1, K1⟩
          case measure => simp [intOf]; omega
        · have q1 := eqL_no e
          have HNO := Lib.hid (show (decide (seq < l[k].2.1) || decide (l[k].1 = told)) = false by rw [g1, decide_eq_false e]; rfl)
          clear e
          cases hd : l[k].2.2.1 with
          | true =>
            have HN := Lib.hid (seen_step_dead hlt HNO.out hd HT.out)
            rw [hd] at c2 J1 K1
            clear hd
            gi_wp2
            refine ⟨fun _ h => (by cases h), ?_⟩
            gi_wp2
            go_roundw
            case rel => exact ⟨k + 1, l[k].1, out, by omega, by go_num, rfl, by omega, HN.out, J1, K1⟩
            case measure => simp [intOf]; omega
          | false =>
            have HN := Lib.hid (seen_step_live hlt HNO.out hd HT.out)
            rw [hd] at c2 J1 K1
            obtain ⟨fn, tmps, assign, body, hy, hR⟩ := hY out l[k] _ J1 (by omega)
            unfold encA at hy
            rw [hd] at hy
            clear hd
            gi_wp2
            refine hR.mono ?_
            rintro e W3 (⟨rfl, hJ3, hk3⟩ | ⟨rfl, hJx3⟩)
            · gi_wp2
              go_roundw
              case rel => exact ⟨k + 1, l[k].1, out ++ [l[k]], by omega, by go_num, rfl, by simp; omega, HN.out, hJ3, K1.trans hk3⟩
              case measure => simp [intOf]; omega
            · gi_wp2
              refine bodyPost_ret (results_none rfl _ _ _) rfl ?_
              exact ⟨⟨_, rfl⟩, .inr ⟨_, ⟨_, HN.out⟩, hJx3⟩⟩
    · have HE := Lib.hid (show out = seenR seq ⟨#[]⟩ l by rw [← HT.out, show l.drop k = [] from List.drop_of_length_le (by omega)]; simp [seenR])
      gi_wp2
      go_end0
      exact ⟨⟨_, rfl⟩, .inl ⟨_, HE.out, hJo⟩⟩
end Go.Proofs.Ytbdicaanniffpaa
