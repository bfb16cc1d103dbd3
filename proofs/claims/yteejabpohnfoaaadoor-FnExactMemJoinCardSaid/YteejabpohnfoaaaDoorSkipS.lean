import Derived.Test.YteejabpohnfoaaaDoorSkipC
import Derived.Test.YteejabpohnfoaaaDoorEntsJ2
/- Entries that are ok are linked. -/
namespace Go.Proofs.YteejabpohnfoaaaDoor
open Go Go.RowKit

theorem ent_size {l : List EntryD} (h : entsB l = true) : ∀ x ∈ l, x.1.size ≤ 24 := by
  intro x hx
  obtain ⟨j, hj, rfl⟩ := List.getElem_of_mem hx
  have := (entsB_at h).2.1 j hj
  unfold entB keyB inB at this
  simp only [Bool.and_eq_true, decide_eq_true_eq] at this
  omega
set_option maxRecDepth 100000 in
set_option maxHeartbeats 2000000 in
theorem start_any (a : Option Addr) (ca : Nat) (l : List EntryD) (w : World) (hl : ElS 4 encEntry w a l) (hok : entsB l = true) (ht : HashT w) :
    Calls Tryd.prog 30 #[.slice a l.length ca] w fun en w' => ∃ hb, en = .returned (.pointer (some ⟨hb, 0, none⟩)) ∧ SkipL w.heap.size hb w' l ∧ Below w.heap.size w w' := by
  have hl1 := hl.1
  unfold maxLen at hl1
  have HT := Lib.hid ht
  have HZ := Lib.hid (ent_size hok)
  have HSR := Lib.hid (srt_of hok)
  have HJN := Lib.hid (join_start (srt_of hok))
  clear hok ht
  obtain ⟨w1, hw1⟩ : ∃ W, w.alloc (.cells #[.string ⟨#[]⟩, .int .i64 0, .bool false, .string ⟨#[]⟩, .pointer none, .pointer none, .pointer none, .pointer none] 78) = W := ⟨_, rfl⟩
  have B1 := Lib.hid (show Below w.heap.size w w1 by rw [← hw1]; exact below_alloc _ _)
  have S1 := Lib.hid (show SkipL w.heap.size w.heap.size w1 (joinE [] (l.take 0)) from ⟨(⟨#[]⟩, 0, false, ⟨#[]⟩), [], rfl, skip_start _ (by rw [← hw1]; exact Box.alloc w #[.string ⟨#[]⟩, .int .i64 0, .bool false, .string ⟨#[]⟩, .pointer none, .pointer none, .pointer none, .pointer none] 78), fun n hn => (by cases hn), Nat.le_refl _, fun n hn => (by cases hn)⟩)
  go_enter Tryd.func30, Tryd.ntmps30
  go_wp2
  clear hw1
  go_loopg [10] l.length (fun q v10 wr => ∃ k : Nat, k + q = l.length ∧ v10 = .int .i64 k ∧ SkipL w.heap.size w.heap.size wr (joinE [] (l.take k)) ∧ Below w.heap.size w wr)
  case atStart => exact ⟨0, by omega, rfl, S1.out, B1.out⟩
  case round =>
    clear B1 S1
    obtain ⟨k, hk, rfl, hs, hb⟩ := hrel
    have HK := Lib.hid hk
    have HS := Lib.hid hs
    have HB := Lib.hid hb
    clear hk hs hb
    by_cases hlt : k < l.length
    · have hl0 : l ≠ [] := fun e => by rw [e] at hlt; simp at hlt
      obtain ⟨ba, oa, rfl, hc⟩ := hl.2.resolve_left hl0
      obtain ⟨c0, c1, c2, c3⟩ := cellsEntry HB.out hc k hlt
      have i1 : (k : Int) < (l.length : Int) := by omega
      have i2 : (0 : Int) ≤ (k : Int) := by omega
      have HC := Lib.hid hc
      have HMZ := Lib.hid (HZ.out l[k] (List.getElem_mem _))
      have HJ := Lib.hid (joinE_take (L := []) hlt)
      obtain ⟨⟨x0, x1, x2, x3⟩, hx⟩ : ∃ x, l[k] = x := ⟨_, rfl⟩
      rw [hx] at c0 c1 c2 c3 HMZ HJ
      dsimp only at c0 c1 c2 c3 HMZ
      clear hc hl hx hl0
      go_wp2_with fail
      have SK := Lib.hid (HS.out.below (below_alloc wr (.cells #[.string x0, .int .i64 x1, .bool x2, .string x3] 31)))
      have BB := Lib.hid (HB.out.alloc HB.out.size (.cells #[.string x0, .int .i64 x1, .bool x2, .string x3] 31))
      refine (put_list w.heap.size w.heap.size _ x0 x1 x2 x3 _ BB.out.size SK.out (srt_join List.Pairwise.nil _) (by have := HMZ.out; omega) (HT.out.below BB.out)).mono ?_
      rintro en w3 ⟨rfl, hs3, b3⟩
      have S3 := Lib.hid hs3
      have B3 := Lib.hid (BB.out.trans b3)
      clear hs3 b3 c0 c1 c2 c3
      go_wp2
      go_roundg (gk - 1)
      case measure => have := HK.out; omega
      case rel => exact ⟨k + 1, by have := HK.out; omega, by go_num, by rw [HJ.out]; exact S3.out, B3.out⟩
    · have hke : k = l.length := by have := HK.out; omega
      have i1 : ¬ (k : Int) < (l.length : Int) := by omega
      have HF := Lib.hid (show SkipL w.heap.size w.heap.size wr l by have h := HS.out; rwa [List.take_of_length_le (by omega), HJN.out] at h)
      clear hke
      go_wp2
      go_ret
      exact ⟨_, rfl, HF.out, HB.out⟩
end Go.Proofs.YteejabpohnfoaaaDoor
