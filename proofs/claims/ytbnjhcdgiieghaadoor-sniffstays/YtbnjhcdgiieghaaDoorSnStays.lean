/- The walk over the law SniffStays. -/
import Derived.Test.YtbnjhcdgiieghaaDoorSnLaw
namespace Go.Proofs.YtbnjhcdgiieghaaDoor
open Go.RowKit

set_option maxRecDepth 100000 in
set_option maxHeartbeats 2000000 in
theorem stays_any (s t : ByteArray) (w : World) (hs : s.size ≤ 140737488355328) (ht : t.size ≤ 140737488355328) (hl : Laid w) : Calls Tryd.prog 6 #[.string s, .string t] w fun e w' => e = .returned (.bool true) ∧ Below w.heap.size w w' := by
  have hap : (s ++ t).data.toList = s.data.toList ++ t.data.toList := by simp
  have HA := hid (fun w1 (h : Laid w1) => mark_any s w1 h)
  have HB := hid (fun w1 (h : Laid w1) => mark_any (s ++ t) w1 h)
  have HP := hid (fun w1 (h : Laid w1) => mayMark_any s w1 h)
  have HQ := hid (fun w1 (h : Laid w1) => mayMark_any (s ++ t) w1 h)
  have HL := hid (fun w1 => label_any s w1 (by omega))
  have HM := hid (fun w1 => label_any (s ++ t) w1 (by simp; omega))
  have hm := mark_stays s.data.toList t.data.toList
  have hl1 := labelL_stays s.data.toList t.data.toList
  have hl2 := labelL_some s.data.toList
  rw [hap] at HB HQ HM
  clear hap
  generalize markL (s.data.toList ++ t.data.toList) = B at HB hm
  generalize markL s.data.toList = A at HA hm
  generalize mayL (s.data.toList ++ t.data.toList) = q at HQ hm
  generalize mayL s.data.toList = p at HP hm
  generalize labelL (s.data.toList ++ t.data.toList) = M at HM hl1
  generalize labelL s.data.toList = L at HL hl1 hl2
  obtain ⟨x, sure⟩ := L
  obtain ⟨y, too⟩ := M
  obtain ⟨a, n⟩ := A
  obtain ⟨b, m⟩ := B
  have hlab : (sure = true ∧ y = x ∧ too = true) ∨ (sure = false ∧ x = 0) := by
    cases sure with
    | true =>
      have := hl1 rfl
      cases this
      exact .inl ⟨rfl, rfl, rfl⟩
    | false =>
      refine .inr ⟨rfl, ?_⟩
      by_cases h : x = 0
      · exact h
      · have := hl2 h; cases this
  have hmar : (a ≠ 0 ∧ b = a ∧ m = n ∧ q = false) ∨ (a = 0 ∧ p = false ∧ b = a ∧ m = n ∧ q = false) ∨ (a = 0 ∧ p = true) := by
    by_cases h : a = 0
    · cases p with
      | true => exact .inr (.inr ⟨h, rfl⟩)
      | false =>
        obtain ⟨h1, h2⟩ := hm (.inr rfl)
        cases h1
        exact .inr (.inl ⟨h, rfl, rfl, rfl, h2⟩)
    · obtain ⟨h1, h2⟩ := hm (.inl h)
      cases h1
      exact .inl ⟨h, rfl, rfl, h2⟩
  clear hm hl1 hl2
  have HW := hid hl
  clear hl
  rcases hlab with ⟨rfl, rfl, rfl⟩ | ⟨rfl, rfl⟩
  all_goals
    rcases hmar with ⟨h0, rfl, rfl, rfl⟩ | ⟨rfl, rfl, rfl, rfl, rfl⟩ | ⟨rfl, rfl⟩
    · have h1 : (b != 0) = true := bne_iff_ne.2 h0
      clear h0
      go_enter Tryd.func6, Tryd.ntmps6
      go_wp2_with fail
      refine (HA.out _ HW.out).mono ?_
      rintro e _ ⟨rfl, rfl⟩
      go_wp2_with fail
      refine (HB.out _ HW.out).mono ?_
      rintro e _ ⟨rfl, rfl⟩
      go_wp2_with fail
      refine (HQ.out _ HW.out).mono ?_
      rintro e _ ⟨rfl, rfl⟩
      go_wp2_with fail
      refine (HL.out _).mono ?_
      rintro e w1 ⟨rfl, hb1⟩
      go_wp2_with fail
      refine (HM.out _).mono ?_
      rintro e w2 ⟨rfl, hb2⟩
      have hb := hb1.trans (hb2.mono hb1.size)
      have HS := hid (sniffsK_any w2 (HW.out.below hb))
      clear hb1 hb2
      have HB2 := hid hb
      clear hb
      go_wp2_with fail
      all_goals
        refine HS.out.mono ?_
        rintro e w3 ⟨rfl, hb3⟩
        go_wp2_with fail
        go_ret
        exact ⟨rfl, HB2.out.trans (hb3.mono HB2.out.size)⟩
    · skip
      go_enter Tryd.func6, Tryd.ntmps6
      go_wp2_with fail
      refine (HA.out _ HW.out).mono ?_
      rintro e _ ⟨rfl, rfl⟩
      go_wp2_with fail
      refine (HB.out _ HW.out).mono ?_
      rintro e _ ⟨rfl, rfl⟩
      go_wp2_with fail
      refine (HP.out _ HW.out).mono ?_
      rintro e _ ⟨rfl, rfl⟩
      go_wp2_with fail
      refine (HQ.out _ HW.out).mono ?_
      rintro e _ ⟨rfl, rfl⟩
      go_wp2_with fail
      refine (HL.out _).mono ?_
      rintro e w1 ⟨rfl, hb1⟩
      go_wp2_with fail
      refine (HM.out _).mono ?_
      rintro e w2 ⟨rfl, hb2⟩
      have hb := hb1.trans (hb2.mono hb1.size)
      have HS := hid (sniffsK_any w2 (HW.out.below hb))
      clear hb1 hb2
      have HB2 := hid hb
      clear hb
      go_wp2_with fail
      all_goals
        refine HS.out.mono ?_
        rintro e w3 ⟨rfl, hb3⟩
        go_wp2_with fail
        go_ret
        exact ⟨rfl, HB2.out.trans (hb3.mono HB2.out.size)⟩
    · skip
      go_enter Tryd.func6, Tryd.ntmps6
      go_wp2_with fail
      refine (HA.out _ HW.out).mono ?_
      rintro e _ ⟨rfl, rfl⟩
      go_wp2_with fail
      refine (HB.out _ HW.out).mono ?_
      rintro e _ ⟨rfl, rfl⟩
      go_wp2_with fail
      refine (HP.out _ HW.out).mono ?_
      rintro e _ ⟨rfl, rfl⟩
      go_wp2_with fail
      refine (HL.out _).mono ?_
      rintro e w1 ⟨rfl, hb1⟩
      go_wp2_with fail
      refine (HM.out _).mono ?_
      rintro e w2 ⟨rfl, hb2⟩
      have hb := hb1.trans (hb2.mono hb1.size)
      have HS := hid (sniffsK_any w2 (HW.out.below hb))
      clear hb1 hb2
      have HB2 := hid hb
      clear hb
      go_wp2_with fail
      all_goals
        refine HS.out.mono ?_
        rintro e w3 ⟨rfl, hb3⟩
        go_wp2_with fail
        go_ret
        exact ⟨rfl, HB2.out.trans (hb3.mono HB2.out.size)⟩
end Go.Proofs.YtbnjhcdgiieghaaDoor
