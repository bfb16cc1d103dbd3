import Derived.Test.YtakcmjnfkcoilaaDoorWire
/- WireGet of the model: the same words. -/
namespace Go.Proofs.YtakcmjnfkcoilaaDoor
open Go Go.RowKit

/-- what stands in a text from place p on -/
def sfx (s : ByteArray) (p : Nat) : ByteArray := ⟨(s.data.toList.drop p).toArray⟩
theorem sfx_list (s : ByteArray) (p : Nat) : (sfx s p).data.toList = s.data.toList.drop p := by simp [sfx]
theorem sfx_size (s : ByteArray) (p : Nat) : (sfx s p).size = s.size - p := by
  show (List.toArray _).size = _
  simp
theorem sfx_zero (s : ByteArray) : sfx s 0 = s := by apply bytes_ext; simp [sfx]
theorem drop_here (s : ByteArray) (j : Nat) (h : j < s.size) : s.data.toList.drop j = s[j] :: s.data.toList.drop (j + 1) := by
  rw [List.drop_eq_getElem_cons (by simpa using h)]
  rfl
theorem colon_step (s : ByteArray) (j : Nat) (h : j < s.size) (hc : s[j] ≠ 58) : colon (s.data.toList.drop j) = colon (s.data.toList.drop (j + 1)) + 1 := by
  rw [drop_here s j h, colon, if_neg hc]
theorem colon_here (s : ByteArray) (j : Nat) (h : j < s.size) (hc : s[j] = 58) : colon (s.data.toList.drop j) = 0 := by
  rw [drop_here s j h, colon, if_pos hc]
theorem colon_end (s : ByteArray) (j : Nat) (h : ¬ j < s.size) : colon (s.data.toList.drop j) = 0 := by
  rw [List.drop_eq_nil_of_le (by simp; omega)]; rfl
theorem sfx_cutA (s : ByteArray) (p j : Nat) (_hpj : p ≤ j) (hc : colon (s.data.toList.drop p) = j - p) : cutA (sfx s p) = s.extract p j := by
  apply bytes_ext
  rw [Lib.extract_data]
  simp only [cutA]
  rw [sfx_list, hc]
theorem sfx_cutB (s : ByteArray) (p j : Nat) (_hpj : p ≤ j) (hc : colon (s.data.toList.drop p) = j - p) : cutB (sfx s p) = sfx s (j + 1) := by
  apply bytes_ext
  rw [sfx_list]
  simp only [cutB]
  rw [sfx_list, hc, List.drop_drop]
  congr 1
  omega
theorem sfx_get (s : ByteArray) (j n : Nat) (h : j + n < s.size) : (sfx s j).data.toList[n]? = some s[j + n] := by
  rw [sfx_list, List.getElem?_drop, List.getElem?_eq_getElem (by simpa using h)]
  rfl
theorem byte44 (c : UInt8) : ((some c : Option UInt8) == some 44) = ((c.toNat : Int) == 44) := by
  rw [Bool.eq_iff_iff, beq_iff_eq, beq_iff_eq]
  constructor
  · intro h; simp at h; rw [h]; rfl
  · intro h; simp; exact UInt8.toNat_inj.1 (by simpa using (by omega : c.toNat = 44))

set_option maxRecDepth 100000 in
set_option maxHeartbeats 2000000 in
theorem specWire_any (s : ByteArray) (w : World) (hs : s.size ≤ maxLen) :
    Calls Tryd.prog 16 #[.string s] w (WirePost w (wireGet s).1 (wireGet s).2) := by
  obtain ⟨i0, hi, hz0, hz1, hz2⟩ := info_parts infoStr
  have hs' := hs
  unfold maxLen at hs'
  have hempty : ∀ wr : World, w.heap.size ≤ wr.heap.size → (wr.alloc (.cells #[] 9)).ownsRow w.heap.size 9 1 (.slice (some ⟨wr.heap.size, 0, none⟩) 0 0) 0 [] := fun wr h => World.ownsRow_lit wr #[] 0 h (Nat.zero_le _) rfl
  have HE := Lib.hid hempty
  clear hempty
  by_cases hb : (2000 : Int) < (s.size : Int)
  · rw [show wireGet s = ([], false) by unfold wireGet; rw [if_neg (by omega)]]
    go_enter Tryd.func16, Tryd.ntmps16
    go_wp2
    go_ret2
    exact ⟨_, rfl, HE.out _ (Nat.le_refl _), (by repeat (first | exact Below.refl _ _ | (refine Below.alloc ?_ (by first | (simp; done) | (simp; omega)) _) | (refine Below.setCell ?_ (by first | (simp; done) | (simp; omega)) _) | (refine Below.drew ?_)))⟩
  · have hb' : (s.size : Int) ≤ 2000 := by omega
    have HW := Lib.hid (show wireGet s = wireOf (wires s) by unfold wireGet; rw [if_pos (by omega)])
    clear hb
    go_enter Tryd.func16, Tryd.ntmps16
    go_wp2
    go_loopw [4, 5] (fun v a wr => ∃ (p : Nat) (acc : List ByteArray), p ≤ s.size ∧ a = .int .i64 p ∧ wires s = (wires (sfx s p)).map (acc ++ ·) ∧ acc.length ≤ p ∧ wr.ownsRow w.heap.size 9 1 v acc.length (acc.map .string) ∧ Below w.heap.size w wr) (fun _ a _ => s.size - (intOf a).toNat)
    case atStart => exact ⟨0, [], Nat.zero_le _, rfl, by rw [sfx_zero]; simp, Nat.le_refl _, HE.out _ (Nat.le_refl _), (by repeat (first | exact Below.refl _ _ | (refine Below.alloc ?_ (by first | (simp; done) | (simp; omega)) _) | (refine Below.setCell ?_ (by first | (simp; done) | (simp; omega)) _) | (refine Below.drew ?_)))⟩
    case round =>
      obtain ⟨p, acc, hp, rfl, hw, hacc, hown, hbel⟩ := hrel
      obtain ⟨wo, rfl⟩ : ∃ wo : World, wo = wr := ⟨_, rfl⟩
      have HO := Lib.hid hown
      have HV := Lib.hid hw
      clear hown hw
      by_cases hlt : p < s.size
      · go_wp2
        go_loop [5] (fun a => ∃ j : Nat, p ≤ j ∧ j ≤ s.size ∧ a = .int .i64 j ∧ colon (s.data.toList.drop p) = (j - p) + colon (s.data.toList.drop j)) (fun a => s.size - (intOf a).toNat)
        case atStart => exact ⟨p, Nat.le_refl _, hp, rfl, by simp⟩
        case round =>
          obtain ⟨j, hpj, hj, rfl, hc⟩ := hrel
          have HC := Lib.hid hc
          clear hc
          by_cases hjl : j < s.size
          · by_cases h58 : s[j] = 58
            · have hcp : colon (s.data.toList.drop p) = j - p := by rw [HC.out, colon_here s j hjl h58]; rfl
              have e1 : (((s[j].toNat : Int)) != 58) = false := by rw [h58]; rfl
              have hA := Lib.hid (sfx_cutA s p j hpj hcp)
              have hB := Lib.hid (sfx_cutB s p j hpj hcp)
              have hsz : (s.extract p j).size ≤ maxLen := by rw [ByteArray.size_extract]; unfold maxLen; omega
              have hne : ((j : Int) == (s.size : Int)) = false := by rw [beq_eq_false_iff_ne]; omega
              clear hcp h58
              by_cases hk : numOk (s.extract p j).data.toList = true
              · have hI := Lib.hid (numI_yes hk)
                have hN := Lib.hid (show wordN (sfx s p) = numV (s.extract p j).data.toList by unfold wordN; rw [hA.out])
                have hnv := (numI_le (s.extract p j).data.toList).1
                rw [hI.out] at hnv
                obtain ⟨n, hn⟩ : ∃ n, n = numV (s.extract p j).data.toList := ⟨_, rfl⟩
                rw [← hn] at hnv hN
                have hI' := Lib.hid (show numI (s.extract p j).data.toList = (n : Int) by rw [hI.out, hn])
                have HK := Lib.hid hk
                have HN := Lib.hid hn
                clear hn hk hI
                have hBs : (cutB (sfx s p)).size = s.size - (j + 1) := by rw [hB.out, sfx_size]
                by_cases hbig : (s.size : Int) ≤ (j : Int) + 1 + (n : Int)
                · have hno : wordOk (sfx s p) = false := by
                    unfold wordOk
                    rw [hN.out, hBs, decide_eq_false (by omega)]
                    simp
                  have HF := Lib.hid (show wireGet s = ([], false) by rw [HW.out, HV.out, wires_no (by rw [sfx_size]; omega) hno]; rfl)
                  clear hno hBs
                  go_wp2_with (go_at_call 38; refine (specNum_any _ _ hsz).mono ?_; rintro e w1 ⟨rfl, rfl⟩; rw [hI'.out])
                  go_ret2
                  rw [HF.out]
                  exact ⟨_, rfl, HE.out wo hbel.size, hbel.alloc hbel.size _⟩
                · have hlt3 : (j : Int) + 1 + (n : Int) < (s.size : Int) := by omega
                  have hidx : j + 1 + n < s.size := by omega
                  have hge : (cutB (sfx s p)).data.toList[wordN (sfx s p)]? = some s[j + 1 + n] := by rw [hB.out, hN.out]; exact sfx_get s (j + 1) n hidx
                  by_cases h44 : ((s[j + 1 + n].toNat : Int) == 44) = true
                  · have hok : wordOk (sfx s p) = true := by
                      unfold wordOk
                      rw [hge, byte44, h44, hA.out, HK.out, hN.out, hBs, decide_eq_true (by omega)]
                      rfl
                    have e3 : ((s[j + 1 + n].toNat : Int) != 44) = false := by simpa using h44
                    have hW1 : s.extract (j + 1) (j + 1 + n) = wordW (sfx s p) := by
                      apply bytes_ext
                      rw [Lib.extract_data]
                      simp only [wordW]
                      rw [hB.out, hN.out, sfx_list]
                      congr 1
                      omega
                    have hR1 : wordR (sfx s p) = sfx s (j + n + 2) := by
                      apply bytes_ext
                      simp only [wordR]
                      rw [hB.out, hN.out, sfx_list, sfx_list, List.drop_drop]
                      congr 1
                      omega
                    have HX := Lib.hid hW1
                    have HY := Lib.hid (show wires s = (wires (sfx s (j + n + 2))).map ((acc ++ [wordW (sfx s p)]) ++ ·) by rw [HV.out, wires_yes (by rw [sfx_size]; omega) hok, hR1]; simp [Function.comp_def])
                    clear hok hW1 hR1 hge h44 hBs hbig
                    go_wp2_with (first | (go_at_call 38; refine (specNum_any _ _ hsz).mono ?_; rintro e w1 ⟨rfl, rfl⟩; rw [hI'.out]) | (at_builtin; refine wpList_append_own _ rfl (.tmp 62) (.tmp 71) 25 rfl w.heap.size 9 i0 (.string ⟨#[]⟩) 1 16 Tryd.underlying25 hi hz0 hz1 hz2 rfl (by decide) _ _ _ rfl (HO.out.alloc _) ⟨wo.heap.size, 0, none⟩ 1 1 [.string (s.extract (j + 1) (j + 1 + n))] rfl rfl (cell_one_new _ _ _) (by simp [Value.oneCell']) (by unfold maxLen; omega) (by omega) (by have := hbel.size; simp; omega) ?_; intro v2 w2 hown2 hgrow2 _))
                    have hb2 : Below w.heap.size w w2 := (hbel.alloc hbel.size _).grown hgrow2 (by have := hbel.size; simp; omega) (fun k hk => (HO.out.lt k hk).1)
                    have ho2 : w2.ownsRow w.heap.size 9 1 v2 (acc ++ [wordW (sfx s p)]).length ((acc ++ [wordW (sfx s p)]).map .string) := by rw [← HX.out]; simpa using hown2
                    clear hown2 hgrow2
                    go_roundw
                    case rel => exact ⟨j + n + 2, acc ++ [wordW (sfx s p)], by omega, by go_num, HY.out, by simp; omega, ho2, hb2⟩
                    case measure => simp [intOf]; omega
                  · have h44' : ((s[j + 1 + n].toNat : Int) == 44) = false := by simpa using h44
                    have hno : wordOk (sfx s p) = false := by
                      unfold wordOk
                      rw [hge, byte44, h44']
                      simp
                    have e3 : ((s[j + 1 + n].toNat : Int) != 44) = true := by simpa using h44'
                    have HF := Lib.hid (show wireGet s = ([], false) by rw [HW.out, HV.out, wires_no (by rw [sfx_size]; omega) hno]; rfl)
                    clear hno hBs hge h44 h44' hbig
                    go_wp2_with (go_at_call 38; refine (specNum_any _ _ hsz).mono ?_; rintro e w1 ⟨rfl, rfl⟩; rw [hI'.out])
                    go_ret2
                    rw [HF.out]
                    exact ⟨_, rfl, HE.out wo hbel.size, hbel.alloc hbel.size _⟩
              · have hk' : numOk (s.extract p j).data.toList = false := by simpa using hk
                have hI' := Lib.hid (numI_no hk')
                have hno : wordOk (sfx s p) = false := by
                  unfold wordOk
                  rw [hA.out, hk']
                  rfl
                have HF := Lib.hid (show wireGet s = ([], false) by rw [HW.out, HV.out, wires_no (by rw [sfx_size]; omega) hno]; rfl)
                clear hno hk hk'
                go_wp2_with (go_at_call 38; refine (specNum_any _ _ hsz).mono ?_; rintro e w1 ⟨rfl, rfl⟩; rw [hI'.out])
                go_ret2
                rw [HF.out]
                exact ⟨_, rfl, HE.out wo hbel.size, hbel.alloc hbel.size _⟩
            · have e1 : (((s[j].toNat : Int)) != 58) = true := by
                rw [bne_iff_ne]
                intro e
                exact h58 (UInt8.toNat_inj.1 (by simpa using (by omega : s[j].toNat = 58)))
              have hstep := Lib.hid (colon_step s j hjl h58)
              clear h58
              go_wp2
              go_round
              case rel => exact ⟨j + 1, by omega, by omega, by go_num, by rw [HC.out, hstep.out]; omega⟩
              case measure => simp [intOf]; omega
          · have hjs : j = s.size := by omega
            have hcp : colon (s.data.toList.drop p) = j - p := by rw [HC.out, colon_end s j hjl]; rfl
            have hA := Lib.hid (sfx_cutA s p j hpj hcp)
            have hB := sfx_cutB s p j hpj hcp
            have hno : wordOk (sfx s p) = false := by
              unfold wordOk
              rw [hB, sfx_size, decide_eq_false (by omega)]
              simp
            have HF := Lib.hid (show wireGet s = ([], false) by rw [HW.out, HV.out, wires_no (by rw [sfx_size]; omega) hno]; rfl)
            have hsz : (s.extract p j).size ≤ maxLen := by rw [ByteArray.size_extract]; unfold maxLen; omega
            have hne : ((j : Int) == (s.size : Int)) = true := by rw [beq_iff_eq]; omega
            have hjl' : (s.size : Int) ≤ (j : Int) := by omega
            clear hcp hB hno hjs
            go_wp2_with (go_at_call 38; refine (specNum_any _ _ hsz).mono ?_; rintro e w1 ⟨rfl, rfl⟩)
            go_ret2
            rw [HF.out]
            exact ⟨_, rfl, HE.out wo hbel.size, hbel.alloc hbel.size _⟩
      · have HF := Lib.hid (show wireGet s = (acc, true) by rw [HW.out, HV.out, wires_nil (by rw [sfx_size]; omega)]; simp [wireOf])
        go_wp2
        go_ret2
        rw [HF.out]
        exact ⟨_, rfl, HO.out, hbel⟩
end Go.Proofs.YtakcmjnfkcoilaaDoor
