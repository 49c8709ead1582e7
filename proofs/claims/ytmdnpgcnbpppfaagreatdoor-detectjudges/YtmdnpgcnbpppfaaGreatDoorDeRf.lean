/- The reference's detector out of its parts' contracts. -/
import Derived.Test.YtmdnpgcnbpppfaaGreatDoorQH
import Derived.Deep.QuietTactic
import Derived.BigQuiet
import Derived.Deep.RegionWith
namespace Go.Proofs.YtmdnpgcnbpppfaaGreatDoor
open Go.RowKit
attribute [local go_sem ↓] run_eqV run_neV fld_code fld_verdict fld_out

/-- What the reference's parts do, in a world that holds all that lay in W. -/
structure RefC (W : World) (best : List UInt8 → Int) (dec : Int → List UInt8 → List Int) : Prop where
  mark : ∀ (s : ByteArray) (w : World), s.size ≤ 4000 → Below W.heap.size W w → Calls Tryz.prog 23 #[.string s] w fun e w' => e = .returned (.tuple #[.int .i64 (markL s.data.toList).1, .int .i64 (markL s.data.toList).2]) ∧ Below w.heap.size w w'
  label : ∀ (s : ByteArray) (w : World), s.size ≤ 4000 → Below W.heap.size W w → Calls Tryz.prog 24 #[.string s] w fun e w' => e = .returned (.tuple #[.int .i64 (labelL s.data.toList).1, .bool (labelL s.data.toList).2]) ∧ Below w.heap.size w w'
  best_ : ∀ (s : ByteArray) (w : World), s.size ≤ 4000 → Below W.heap.size W w → Calls Tryz.prog 25 #[.string s] w fun e w' => e = .returned (.int .i64 (best s.data.toList)) ∧ Below w.heap.size w w'
  may : ∀ (s : ByteArray) (w : World), s.size ≤ 4000 → Below W.heap.size W w → Calls Tryz.prog 51 #[.string s] w fun e w' => e = .returned (.bool (mayL s.data.toList)) ∧ Below w.heap.size w w'
  whole : ∀ (x : Int) (s : ByteArray) (w : World), 1 ≤ x → x ≤ 6 → s.size ≤ 4000 → Below W.heap.size W w → Calls Tryz.prog 27 #[.int .i64 x, .string s] w fun e w' => (∃ A c, e = .returned (.tuple #[.slice A (dec x s.data.toList).length c, .int .i64 0]) ∧ Out w' w.heap.size (.slice A (dec x s.data.toList).length c) (dec x s.data.toList)) ∧ Below w.heap.size w w'
variable {W : World} {best : List UInt8 → Int} {dec : Int → List UInt8 → List Int}
set_option maxRecDepth 100000 in
set_option maxHeartbeats 1000000 in
theorem judgeOf_any (R : RefC W best dec) (h : Int) (s : ByteArray) (w : World) (hs : s.size ≤ 4000) (hw : Below W.heap.size W w) :
    Calls Tryz.prog 9 #[.int .i64 h, .string s] w fun e w' => e = .returned (.agg #[.int .i64 (judgeP best h s.data.toList).1, .int .i64 (judgeP best h s.data.toList).2, .bool false]) ∧ Below w.heap.size w w' := by
  have hw0 := hw.alloc hw.size (.cells #[.int .i64 0, .int .i64 0, .bool false] 24)
  have hv0 := Has3.new w ⟨0, 0, false⟩ 24
  have hb0 : Below w.heap.size w (w.alloc (.cells #[.int .i64 0, .int .i64 0, .bool false] 24)) := (Below.refl _ _).alloc (Nat.le_refl _) _
  have HM := hid (R.mark s _ hs hw0)
  have HL := hid (fun w1 hw1 => R.label s w1 hs hw1)
  have HB := hid (fun w1 hw1 => R.best_ s w1 hs hw1)
  simp only at hv0
  unfold judgeP
  by_cases h1 : 0 < (markL s.data.toList).1
  · rw [if_pos h1]
    generalize (markL s.data.toList).1 = m at *
    generalize (markL s.data.toList).2 = n at *
    go_enter Tryz.func9, Tryz.ntmps9
    go_wp2_with fail
    refine (HM.out).mono ?_
    rintro r w1 ⟨rfl, hb1⟩
    have hv1 := hv0.below hb1
    have hb01 := hb0.trans (hb1.mono hb0.size)
    have k1 := hv1
    obtain ⟨v0, v1, v2, vz⟩ := k1
    go_wp2_with fail
    exact bodyPost_ret (ret_V rfl rfl (hv1.put ⟨m, 1, false⟩)) rfl ⟨rfl, put3 hb01 (Nat.le_refl _) _ _ _⟩
  · rw [if_neg h1]
    generalize (markL s.data.toList).1 = m at *
    generalize (markL s.data.toList).2 = n at *
    by_cases h2 : 1 ≤ h ∧ h ≤ 6
    · rw [if_pos h2]
      obtain ⟨h3, h4⟩ := h2
      go_enter Tryz.func9, Tryz.ntmps9
      go_wp2_with fail
      refine (HM.out).mono ?_
      rintro r w1 ⟨rfl, hb1⟩
      have hv1 := hv0.below hb1
      have hb01 := hb0.trans (hb1.mono hb0.size)
      have k1 := hv1
      obtain ⟨v0, v1, v2, vz⟩ := k1
      go_wp2_with fail
      exact bodyPost_ret (ret_V rfl rfl (hv1.put ⟨h, 2, false⟩)) rfl ⟨rfl, put3 hb01 (Nat.le_refl _) _ _ _⟩
    · rw [if_neg h2]
      have h5 : decide (1 ≤ h) = false ∨ (decide (1 ≤ h) = true ∧ decide (h ≤ 6) = false) := by
        by_cases h6 : 1 ≤ h
        · exact Or.inr ⟨decide_eq_true h6, decide_eq_false (fun x => h2 ⟨h6, x⟩)⟩
        · exact Or.inl (decide_eq_false h6)
      clear h2
      by_cases h6 : 0 < (labelL s.data.toList).1
      · rw [if_pos h6]
        generalize (labelL s.data.toList).1 = p at *
        generalize (labelL s.data.toList).2 = q at *
        rcases h5 with h5 | ⟨h5, h7⟩
        all_goals
          go_enter Tryz.func9, Tryz.ntmps9
          go_wp2_with fail
          refine (HM.out).mono ?_
          rintro r w1 ⟨rfl, hb1⟩
          have hw1 := hw0.trans (hb1.mono hw0.size)
          go_wp2_with fail
          refine (HL.out _ hw1).mono ?_
          rintro r w2 ⟨rfl, hb2⟩
          have hv2 := (hv0.below hb1).below hb2
          have hb02 := (hb0.trans (hb1.mono hb0.size)).trans (hb2.mono (hb0.trans (hb1.mono hb0.size)).size)
          have k1 := hv2
          obtain ⟨v0, v1, v2, vz⟩ := k1
          go_wp2_with fail
          exact bodyPost_ret (ret_V rfl rfl (hv2.put ⟨p, 3, false⟩)) rfl ⟨rfl, put3 hb02 (Nat.le_refl _) _ _ _⟩
      · rw [if_neg h6]
        generalize (labelL s.data.toList).1 = p at *
        generalize (labelL s.data.toList).2 = q at *
        by_cases h8 : 0 < best s.data.toList
        · rw [if_pos h8]
          generalize best s.data.toList = t at *
          rcases h5 with h5 | ⟨h5, h7⟩
          all_goals
            go_enter Tryz.func9, Tryz.ntmps9
            go_wp2_with fail
            refine (HM.out).mono ?_
            rintro r w1 ⟨rfl, hb1⟩
            have hw1 := hw0.trans (hb1.mono hw0.size)
            go_wp2_with fail
            refine (HL.out _ hw1).mono ?_
            rintro r w2 ⟨rfl, hb2⟩
            have hw2 := hw1.trans (hb2.mono hw1.size)
            go_wp2_with fail
            refine (HB.out _ hw2).mono ?_
            rintro r w3 ⟨rfl, hb3⟩
            have hb02 := (hb0.trans (hb1.mono hb0.size)).trans (hb2.mono (hb0.trans (hb1.mono hb0.size)).size)
            have hb03 := hb02.trans (hb3.mono hb02.size)
            have hv3 := ((hv0.below hb1).below hb2).below hb3
            have k1 := hv3
            obtain ⟨v0, v1, v2, vz⟩ := k1
            go_wp2_with fail
            exact bodyPost_ret (ret_V rfl rfl (hv3.put ⟨t, 4, false⟩)) rfl ⟨rfl, put3 hb03 (Nat.le_refl _) _ _ _⟩
        · rw [if_neg h8]
          generalize best s.data.toList = t at *
          rcases h5 with h5 | ⟨h5, h7⟩
          all_goals
            go_enter Tryz.func9, Tryz.ntmps9
            go_wp2_with fail
            refine (HM.out).mono ?_
            rintro r w1 ⟨rfl, hb1⟩
            have hw1 := hw0.trans (hb1.mono hw0.size)
            go_wp2_with fail
            refine (HL.out _ hw1).mono ?_
            rintro r w2 ⟨rfl, hb2⟩
            have hw2 := hw1.trans (hb2.mono hw1.size)
            go_wp2_with fail
            refine (HB.out _ hw2).mono ?_
            rintro r w3 ⟨rfl, hb3⟩
            have hb02 := (hb0.trans (hb1.mono hb0.size)).trans (hb2.mono (hb0.trans (hb1.mono hb0.size)).size)
            have hb03 := hb02.trans (hb3.mono hb02.size)
            have hv3 := ((hv0.below hb1).below hb2).below hb3
            have k1 := hv3
            obtain ⟨v0, v1, v2, vz⟩ := k1
            go_wp2_with fail
            exact bodyPost_ret (ret_V rfl rfl (hv3.put ⟨4, 0, false⟩)) rfl ⟨rfl, put3 hb03 (Nat.le_refl _) _ _ _⟩
end Go.Proofs.YtmdnpgcnbpppfaaGreatDoor
