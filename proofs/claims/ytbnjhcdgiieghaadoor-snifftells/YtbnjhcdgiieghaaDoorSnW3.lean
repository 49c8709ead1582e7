/- The walks over package sniff: the search and the label. -/
import Derived.Test.YtbnjhcdgiieghaaDoorSnW2
namespace Go.Proofs.YtbnjhcdgiieghaaDoor
open Go.RowKit

theorem ext_drop (s : ByteArray) (k : Nat) : (s.extract k s.size).data.toList = s.data.toList.drop k := by
  rw [Lib.extract_data, List.take_of_length_le (by simp)]

set_option maxRecDepth 100000 in
set_option maxHeartbeats 4000000 in
theorem search_any (s : ByteArray) (w : World) (hs : s.size ≤ 140737488355328) : Calls Tryd.prog 30 #[.string s] w fun e w' => e = .returned (.int .i64 (srchL s.data.toList)) ∧ Below w.heap.size w w' := by
  have HK : Hid (∀ k w1, Calls Tryd.prog 41 #[.string (s.extract k s.size)] w1 fun e w' => e = .returned (.tuple #[.bool (keyF (s.data.toList.drop k)), .bool (keyC (s.data.toList.drop k))]) ∧ Below w1.heap.size w1 w') := fun k w1 => by
    have := keyAt_any (s.extract k s.size) w1 (by simp; omega)
    rw [ext_drop] at this; exact this
  have HV : Hid (∀ k w1, Calls Tryd.prog 42 #[.string (s.extract k s.size)] w1 (ValC (s.data.toList.drop k) w1)) := fun k w1 => by
    have := valueAt_any (s.extract k s.size) w1 (by simp; omega)
    rw [ext_drop] at this; exact this
  go_enter Tryd.func30, Tryd.ntmps30
  go_wp2_with fail
  go_loopw [11] (fun i wr => ∃ k : Nat, k ≤ s.size ∧ i = .int .i64 k ∧ srchL (s.data.toList.drop k) = srchL s.data.toList ∧ Below w.heap.size w wr) (fun i _ => s.size - (intOf i).toNat)
  case atStart => exact ⟨0, by omega, rfl, rfl, Below.refl _ _⟩
  case round =>
    obtain ⟨k, hks, rfl, he, hb⟩ := hrel
    have HE := hid he
    clear he
    have HZ := hid (size_data s)
    by_cases hk : k < s.size
    · have HA := hid (HK.out k)
      have HD := hid (drop_at s k hk)
      have b1 : (k : Int) ≤ (s.size : Int) := by omega
      cases hc : keyC (s.data.toList.drop k) with
      | true =>
        have HR : Hid (srchL s.data.toList = 0) := by
          show _ = _
          rw [← HE.out]; exact srch_stop _ (at_cut _ hc)
        rw [hc] at HA
        clear hc
        go_wp2_with fail
        refine (HA.out _).mono ?_
        rintro e w1 ⟨rfl, hb1⟩
        go_wp2_with fail
        go_ret
        exact ⟨by rw [HR.out]; rfl, hb.trans (hb1.mono hb.size)⟩
      | false =>
        rw [hc] at HA
        cases hf : keyF (s.data.toList.drop k) with
        | false =>
          have HN : Hid (srchL (s.data.toList.drop (k + 1)) = srchL s.data.toList) := by
            show _ = _
            rw [← HE.out, HD.out]
            have := at_not _ hc hf
            rw [HD.out] at this
            exact (srch_skip _ _ this).symm
          rw [hf] at HA
          clear hf hc
          go_wp2_with fail
          refine (HA.out _).mono ?_
          rintro e w1 ⟨rfl, hb1⟩
          go_wp2_with fail
          go_roundw
          case rel => exact ⟨k + 1, by omega, by go_num, HN.out, hb.trans (hb1.mono hb.size)⟩
          case measure => simp [intOf]; omega
        | true =>
          have h8 : k + 8 ≤ s.size := by
            have := keyF_len _ hf
            rw [List.length_drop, HZ.out] at this; omega
          have HT := hid (at_key _ hf)
          rw [List.drop_drop] at HT
          have HW := hid (HV.out (k + 8))
          rw [hf] at HA
          clear hf hc
          have b8 : (k : Int) + 8 ≤ (s.size : Int) := by omega
          go_wp2_with fail
          refine (HA.out _).mono ?_
          rintro e w1 ⟨rfl, hb1⟩
          go_wp2_with fail
          refine (HW.out _).mono ?_
          rintro e w2 ⟨v, rfl, hv, hb2⟩
          have HB : Hid (Below w.heap.size w w2) := (hb.trans (hb1.mono hb.size)).trans (hb2.mono (hb.trans (hb1.mono hb.size)).size)
          have HL : Hid (v.size = (valV (s.data.toList.drop (k + 8))).length) := by
            show _ = _
            rw [← hv, size_data]
          have HV2 := hid hv
          clear hv hb2 hb1 hb HA HW
          by_cases hlong : 40 < v.size
          · have HN : Hid (srchL (s.data.toList.drop (k + 1)) = srchL s.data.toList) := by
              show _ = _
              rw [← HE.out, HD.out]
              have := HT.out.trans (val_long _ (by rw [← HL.out]; exact hlong))
              rw [HD.out] at this
              exact (srch_skip _ _ this).symm
            have b40 : (40 : Int) < (v.size : Int) := by omega
            go_wp2_with fail
            go_roundw
            case rel => exact ⟨k + 1, by omega, by go_num, HN.out, HB.out⟩
            case measure => simp [intOf]; omega
          · have b40 : ¬ (40 : Int) < (v.size : Int) := by omega
            have HG : Hid (¬ 40 < (valV (s.data.toList.drop (k + 8))).length) := by
              rw [← HL.out]; exact hlong
            cases he : valE (s.data.toList.drop (k + 8)) with
            | false =>
              have HR : Hid (srchL s.data.toList = 0) := by
                show _ = _
                rw [← HE.out]; exact srch_stop _ (HT.out.trans (val_open _ HG.out he))
              clear he
              go_wp2_with fail
              go_ret
              exact ⟨by rw [HR.out]; rfl, HB.out⟩
            | true =>
              have HX := hid (HT.out.trans (val_end _ HG.out he))
              have HF := hid (fun w1 => find_any v w1 (by omega))
              rw [HV2.out] at HF
              have HY := hid (findL_range (valV (s.data.toList.drop (k + 8))))
              clear he HL HV2 HG hlong
              generalize findL (valV (s.data.toList.drop (k + 8))) = x at HX HF HY
              rw [HD.out] at HX HE
              have HQ := hid (fun w1 => readable_any x w1 HY.out)
              by_cases hx : x = 0
              · have HN : Hid (srchL (s.data.toList.drop (k + 1)) = srchL s.data.toList) := by
                  show _ = _
                  rw [← HE.out]
                  refine (srch_skip _ _ ?_).symm
                  rw [HX.out, hx]; rfl
                subst hx
                go_wp2_with fail
                refine (HF.out _).mono ?_
                rintro e w3 ⟨rfl, hb3⟩
                go_wp2_with fail
                go_roundw
                case rel => exact ⟨k + 1, by omega, by go_num, HN.out, HB.out.trans (hb3.mono HB.out.size)⟩
                case measure => simp [intOf]; omega
              · have HR : Hid (srchL s.data.toList = asUtf x) := by
                  show _ = _
                  rw [← HE.out]
                  refine srch_hit _ _ _ ?_
                  rw [HX.out, if_pos]
                  have := HY.out
                  unfold asUtf
                  split <;> omega
                have hn : (x != 0) = true := bne_iff_ne.2 hx
                clear hx
                go_wp2_with fail
                refine (HF.out _).mono ?_
                rintro e w3 ⟨rfl, hb3⟩
                go_wp2_with fail
                refine (HQ.out _).mono ?_
                rintro e w4 ⟨rfl, rfl⟩
                go_wp2_with fail
                go_ret
                exact ⟨by rw [HR.out]; rfl, HB.out.trans (hb3.mono HB.out.size)⟩
    · have hk2 : k = s.size := by omega
      have HR : Hid (srchL s.data.toList = 0) := by
        show _ = _
        rw [← HE.out, List.drop_eq_nil_of_le (by rw [HZ.out]; omega)]; rfl
      subst hk2
      go_wp2_with fail
      go_ret
      exact ⟨by rw [HR.out]; rfl, hb⟩

theorem ext_take (s : ByteArray) (k : Nat) : (s.extract 0 k).data.toList = s.data.toList.take k := by
  rw [Lib.extract_data]; simp
set_option maxRecDepth 100000 in
set_option maxHeartbeats 1000000 in
theorem label_any (s : ByteArray) (w : World) (hs : s.size ≤ 1125899906842624) : Calls Tryd.prog 19 #[.string s] w fun e w' => e = .returned (.tuple #[.int .i64 (labelL s.data.toList).1, .bool (labelL s.data.toList).2]) ∧ Below w.heap.size w w' := by
  have HZ := hid (size_data s)
  have HP := hid (srchL_nonneg (s.data.toList.take 256))
  by_cases hc : 256 ≤ s.size
  · have HS : Hid (∀ w1, Calls Tryd.prog 30 #[.string (s.extract 0 256)] w1 fun e w' => e = .returned (.int .i64 (srchL (s.data.toList.take 256))) ∧ Below w1.heap.size w1 w') := fun w1 => by
      have := search_any (s.extract 0 256) w1 (by simp; omega)
      rw [ext_take] at this; exact this
    have HL : Hid (labelL s.data.toList = if 0 < srchL (s.data.toList.take 256) then (srchL (s.data.toList.take 256), true) else (0, true)) := by
      show _ = _
      unfold labelL
      rw [decide_eq_true (by rw [HZ.out]; exact hc)]
    generalize srchL (s.data.toList.take 256) = x at HP HS HL
    have b1 : (256 : Int) ≤ (s.size : Int) := by omega
    by_cases hx : x = 0
    · subst hx
      go_enter Tryd.func19, Tryd.ntmps19
      go_wp2_with fail
      refine (HS.out _).mono ?_
      rintro e w1 ⟨rfl, hb1⟩
      go_wp2_with fail
      go_ret2
      exact ⟨by rw [HL.out]; rfl, hb1⟩
    · have hn : (x != 0) = true := bne_iff_ne.2 hx
      rw [if_pos (by have := HP.out; omega)] at HL
      clear hx
      go_enter Tryd.func19, Tryd.ntmps19
      go_wp2_with fail
      refine (HS.out _).mono ?_
      rintro e w1 ⟨rfl, hb1⟩
      go_wp2_with fail
      go_ret2
      exact ⟨by rw [HL.out]; rfl, hb1⟩
  · have HS : Hid (∀ w1, Calls Tryd.prog 30 #[.string s] w1 fun e w' => e = .returned (.int .i64 (srchL (s.data.toList.take 256))) ∧ Below w1.heap.size w1 w') := fun w1 => by
      have := search_any s w1 (by omega)
      rw [List.take_of_length_le (by rw [HZ.out]; omega)]; exact this
    have HL : Hid (labelL s.data.toList = if 0 < srchL (s.data.toList.take 256) then (srchL (s.data.toList.take 256), true) else (0, false)) := by
      show _ = _
      unfold labelL
      rw [decide_eq_false (by rw [HZ.out]; exact hc)]
    generalize srchL (s.data.toList.take 256) = x at HP HS HL
    have b1 : decide ((256 : Int) ≤ (s.size : Int)) = false := decide_eq_false (by omega)
    by_cases hx : x = 0
    · subst hx
      go_enter Tryd.func19, Tryd.ntmps19
      go_wp2_with fail
      refine (HS.out _).mono ?_
      rintro e w1 ⟨rfl, hb1⟩
      go_wp2_with fail
      go_ret2
      exact ⟨by rw [HL.out]; rfl, hb1⟩
    · have hn : (x != 0) = true := bne_iff_ne.2 hx
      rw [if_pos (by have := HP.out; omega)] at HL
      clear hx
      go_enter Tryd.func19, Tryd.ntmps19
      go_wp2_with fail
      refine (HS.out _).mono ?_
      rintro e w1 ⟨rfl, hb1⟩
      go_wp2_with fail
      go_ret2
      exact ⟨by rw [HL.out]; rfl, hb1⟩
end Go.Proofs.YtbnjhcdgiieghaaDoor
