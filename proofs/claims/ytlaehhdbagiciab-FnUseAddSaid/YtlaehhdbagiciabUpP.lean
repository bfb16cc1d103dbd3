import Derived.Test.YtlaehhdbagiciabUseAddP
/- What is told of the spaces around a space. -/
namespace Go.Proofs.Ytlaehhdbagiciab
open Go Go.RowKit

theorem nmS_inj {l : List SpaceD} (h : upto (ascP l) l.length = true) {i j : Nat} (hi : i < l.length) (hj : j < l.length) (e : nmS l i = nmS l j) : i = j := by
  have h1 := line_idx h hi
  rw [e, line_idx h hj] at h1
  exact (Option.some.inj h1).symm
theorem upS_nodup {l : List SpaceD} (hk : spsOk l = true) (name : ByteArray) : (upS l name).Nodup := by
  unfold upS
  have hl := (sps_len hk).2.2
  have h7 := (sps_len hk).2.1
  have he := trail_end (sps_end hk name) (show l.length ≤ 8 by omega)
  have hn := trail_nodup 8 (idxS l name) he.2
  refine List.pairwise_map.2 (hn.imp_of_mem (fun ha hb hne e => hne ?_))
  exact nmS_inj hl (trail_lt 8 _ (fun i hi => idxS_lt hi) _ ha) (trail_lt 8 _ (fun i hi => idxS_lt hi) _ hb) e
theorem upO_nil {l : List SpaceD} (hk : spsOk l = true) {name : ByteArray} (h : upO l name = []) : idxS l name = none := by
  unfold upO at h
  rw [if_pos hk] at h
  cases e : idxS l name with
  | none => rfl
  | some i => unfold upS at h; rw [e] at h; simp [trail] at h
theorem upO_ok {l : List SpaceD} {name : ByteArray} (h : upO l name ≠ []) : spsOk l = true := by
  cases e : spsOk l with
  | true => rfl
  | false => unfold upO at h; rw [e] at h; exact absurd rfl h
theorem upO_yes {l : List SpaceD} (hk : spsOk l = true) (name : ByteArray) : upO l name = upS l name := by unfold upO; rw [if_pos hk]
theorem upO_at {l : List SpaceD} {name : ByteArray} (h : upO l name ≠ []) : ∃ i, idxS l name = some i := by
  have hk := upO_ok h
  cases e : idxS l name with
  | some i => exact ⟨i, rfl⟩
  | none => exfalso; apply h; rw [upO_yes hk]; unfold upS; rw [e]; rfl
theorem upO_head {l : List SpaceD} {name : ByteArray} (h : upO l name ≠ []) (h0 : 0 < (upO l name).length) : (upO l name)[0] = name := by
  have hk := upO_ok h
  obtain ⟨i, hi⟩ := upO_at h
  have e : upO l name = nmS l i :: (trail (nxS l) (nxS l i) 7).map (nmS l) := by rw [upO_yes hk]; unfold upS; rw [hi]; rfl
  simp only [e, List.getElem_cons_zero]
  rw [nmS_at (idxS_lt hi)]
  exact idxS_name hi
theorem upO_last {l : List SpaceD} {name : ByteArray} (h : upO l name ≠ []) (h0 : 0 < (upO l name).length) : (upO l name)[(upO l name).length - 1]'(by omega) = allB := by
  have hk := upO_ok h
  obtain ⟨i, hi⟩ := upO_at h
  have hil := idxS_lt hi
  have hk2 := hk
  rw [spsOk_def] at hk2
  simp only [Bool.and_eq_true] at hk2
  have hp := upto_at hk2.1.1.2 hil
  unfold upP at hp
  simp only [Bool.and_eq_true, decide_eq_true_eq] at hp
  have hn : nmS l i = name := by rw [nmS_at hil]; exact idxS_name hi
  rw [hn] at hp
  have e := hp.2
  rw [← upO_yes hk name, List.getLast?_eq_getElem?] at e
  rw [List.getElem?_eq_getElem (by omega)] at e
  exact Option.some.inj e
theorem upO_in {l : List SpaceD} {name x : ByteArray} (hx : x ∈ upO l name) : (spsOk l && inSp l name x) = true := by
  have hk := upO_ok (fun e => by rw [e] at hx; cases hx)
  rw [hk, Bool.true_and]
  rw [upO_yes hk] at hx
  unfold inSp
  exact List.any_eq_true.2 ⟨x, hx, by simp⟩
theorem upO_nodup (l : List SpaceD) (name : ByteArray) : (upO l name).Nodup := by
  unfold upO
  split
  · next h => exact upS_nodup h name
  · exact List.nodup_nil
end Go.Proofs.Ytlaehhdbagiciab
