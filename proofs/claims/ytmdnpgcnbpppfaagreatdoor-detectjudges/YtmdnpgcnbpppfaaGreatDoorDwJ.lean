/- The statement DetectJudges. -/
import Derived.Test.YtmdnpgcnbpppfaaGreatDoorDwN
import Derived.Test.YtmdnpgcnbpppfaaGreatDoorDwR
import Derived.Test.YtmdnpgcnbpppfaaGreatDoorQI
namespace Go.Proofs.YtmdnpgcnbpppfaaGreatDoor
open Go.RowKit
attribute [local go_sem ↓] run_eqV run_neV fld_code fld_verdict fld_out

/-- A list, or nothing: what is told in any number. -/
def tellN (x : Int) (l : List UInt8) : List Int := if 1 ≤ x ∧ x ≤ 6 then tellP decA x l else []
theorem tellN_len (x : Int) (l : List UInt8) : (tellN x l).length ≤ l.length := by
  unfold tellN
  split
  · rename_i h
    unfold tellP
    split
    · have := decA_few x (l.drop (markL l).2.toNat) h.1 h.2
      simp at this; omega
    · exact decA_few x l h.1 h.2
  · simp
set_option maxRecDepth 100000 in
set_option maxHeartbeats 1000000 in
theorem tell_none (x : Int) (s : ByteArray) (w : World) (hx : ¬ (1 ≤ x ∧ x ≤ 6)) (hl : Laid w) :
    Calls Tryz.prog 11 #[.int .i64 x, .string s] w fun e w' => e = .returned (.slice none 0 0) ∧ Below w.heap.size w w' := by
  have HM := hid (mark_any s w hl)
  have hmi := markL_in s.data.toList
  have HW := hid (fun t w1 => whole_err x 2 t ⟨0, 0, 0, 0, ⟨#[]⟩, 0, 0⟩ w1 (by decide) (hid fun w2 => feedS_kind x ⟨#[]⟩ t w2 hx))
  by_cases hm : (markL s.data.toList).1 = x
  · have e0 : (markL s.data.toList).1 = 0 ∧ (markL s.data.toList).2 = 0 := by omega
    obtain rfl : x = 0 := by omega
    rw [e0.1, e0.2] at HM
    go_enter Tryz.func11, Tryz.ntmps11
    go_wp2_with fail
    refine (HM.out).mono ?_
    rintro r w1 ⟨rfl, rfl⟩
    go_wp2_with fail
    refine (HW.out _ _).mono ?_
    rintro r w2 ⟨v, rfl, hO, hb2⟩
    go_wp2_with fail
    go_ret
    exact ⟨rfl, hb2⟩
  · have hq : ((markL s.data.toList).1 == x) = false := by simpa using hm
    generalize (markL s.data.toList).1 = m at *
    generalize (markL s.data.toList).2 = n at *
    clear hmi
    go_enter Tryz.func11, Tryz.ntmps11
    go_wp2_with fail
    refine (HM.out).mono ?_
    rintro r w1 ⟨rfl, rfl⟩
    go_wp2_with fail
    refine (HW.out _ _).mono ?_
    rintro r w2 ⟨v, rfl, hO, hb2⟩
    go_wp2_with fail
    go_ret
    exact ⟨rfl, hb2⟩
set_option maxRecDepth 100000 in
set_option maxHeartbeats 1000000 in
theorem tellOf_none (x : Int) (s : ByteArray) (w : World) (hx : ¬ (1 ≤ x ∧ x ≤ 6)) :
    Calls Tryz.prog 12 #[.int .i64 x, .string s] w fun e w' => (∃ A c, e = .returned (.slice A 0 c) ∧ Out w' w.heap.size (.slice A 0 c) []) ∧ Below w.heap.size w w' := by
  have HM := hid (markOf_any s w)
  have hmi := markL_in s.data.toList
  have HW := hid (fun t w1 => wholeOf_kind x t w1 hx)
  have hq : decide (0 < (markL s.data.toList).1) = false ∨ (decide (0 < (markL s.data.toList).1) = true ∧ ((markL s.data.toList).1 == x) = false) := by
    by_cases h6 : 0 < (markL s.data.toList).1
    · exact Or.inr ⟨decide_eq_true h6, by simp; omega⟩
    · exact Or.inl (decide_eq_false h6)
  generalize (markL s.data.toList).1 = m at *
  generalize (markL s.data.toList).2 = n at *
  clear hmi
  rcases hq with hq | ⟨hq, hq2⟩
  all_goals
    go_enter Tryz.func12, Tryz.ntmps12
    go_wp2_with fail
    refine (HM.out).mono ?_
    rintro r w1 ⟨rfl, rfl⟩
    go_wp2_with fail
    refine (HW.out _ _).mono ?_
    rintro r w2 ⟨v, rfl, hO, hb2⟩
    obtain ⟨A, c, rfl⟩ := hO.shape
    go_wp2_with fail
    go_ret
    exact ⟨⟨A, c, rfl, hO⟩, hb2⟩
/-- What both tell. -/
def PTl (w : World) (T : List Int) (e : Ending) (w' : World) : Prop := (∃ A c, e = .returned (.slice A T.length c) ∧ Out w' w.heap.size (.slice A T.length c) T) ∧ Below w.heap.size w w'
theorem tell_all (x : Int) (s : ByteArray) (w : World) (hs : s.size ≤ 4000) (hl : Laid w) : Calls Tryz.prog 11 #[.int .i64 x, .string s] w (PTl w (tellN x s.data.toList)) := by
  unfold tellN
  by_cases h : 1 ≤ x ∧ x ≤ 6
  · rw [if_pos h]; exact tell_det x s w h.1 h.2 hs hl
  · rw [if_neg h]; exact (tell_none x s w h hl).mono fun e w' ⟨h1, h2⟩ => ⟨⟨none, 0, h1, Out.nil _ _⟩, h2⟩
theorem tellOf_all {W : World} (R : RefC W bestL decA) (x : Int) (s : ByteArray) (w : World) (hs : s.size ≤ 4000) (hw : Below W.heap.size W w) : Calls Tryz.prog 12 #[.int .i64 x, .string s] w (PTl w (tellN x s.data.toList)) := by
  unfold tellN
  by_cases h : 1 ≤ x ∧ x ≤ 6
  · rw [if_pos h]; exact tellOf_any R x s w h.1 h.2 hs hw
  · rw [if_neg h]; exact tellOf_none x s w h
set_option maxRecDepth 100000 in
set_option maxHeartbeats 1000000 in
theorem detectJudges_true {W : World} (C : DetC W bestL decA) (R : RefC W bestL decA) (hl : Laid W) (h : Int) (s : ByteArray) (x : Int) :
    Calls Tryz.prog 3 #[.int .i64 h, .string s, .int .i64 x] W fun e w' => e = .returned (.bool true) ∧ Below W.heap.size W w' := by
  have HD := hid (fun w hw => detects_any C decA_one w hw)
  cases hx : decide ((4000 : Int) < (s.size : Int)) with
  | true =>
    go_enter Tryz.func3, Tryz.ntmps3
    go_wp2_with fail
    refine (HD.out _ (Below.refl _ _)).mono ?_
    rintro r w1 ⟨rfl, hb1⟩
    go_wp2_with fail
    go_ret
    exact ⟨rfl, hb1⟩
  | false =>
    have hs : s.size ≤ 4000 := by simp at hx; omega
    have H1 := judge_det h s W hs hl
    have H2 := fun w hw => judgeOf_any R h s w hs hw
    have H3 := fun w hw => tell_all x s w hs hw
    have H4 := fun w hw => tellOf_all R x s w hs hw
    have hlen := tellN_len x s.data.toList
    have hsz : s.data.toList.length = s.size := Array.length_toList
    generalize (judgeP bestL h s.data.toList).1 = je at *
    generalize (judgeP bestL h s.data.toList).2 = jy at *
    generalize tellN x s.data.toList = T at *
    have hT : T.length ≤ 100000 := by omega
    replace H1 := hid H1
    replace H2 := hid H2
    replace H3 := hid H3
    replace H4 := hid H4
    have hv : vEq ⟨je, jy, false⟩ ⟨je, jy, false⟩ = true := vEq_self _
    go_enter Tryz.func3, Tryz.ntmps3
    go_wp2_with fail
    refine (H1.out).mono ?_
    rintro r w1 ⟨rfl, hw1⟩
    go_wp2_with fail
    refine (H2.out _ hw1).mono ?_
    rintro r w2 ⟨rfl, hb2⟩
    have hw2 := hw1.trans (hb2.mono hw1.size)
    go_wp2_with fail
    refine (H3.out _ (hl.below hw2)).mono ?_
    rintro r w3 ⟨⟨A3, c3, rfl, hO3⟩, hb3⟩
    have hw3 := hw2.trans (hb3.mono hw2.size)
    go_wp2_with fail
    refine (H4.out _ hw3).mono ?_
    rintro r w4 ⟨⟨A4, c4, rfl, hO4⟩, hb4⟩
    have hw4 := hw3.trans (hb4.mono hw3.size)
    have HN := hid (nsame_any T _ _ _ _ w4 hT (hO3.below hb4) hO4)
    go_wp2_with fail
    refine (HN.out).mono ?_
    rintro r w5 ⟨rfl, hb5⟩
    have hw5 := hw4.trans (hb5.mono hw4.size)
    go_wp2_with fail
    refine (HD.out _ hw5).mono ?_
    rintro r w6 ⟨rfl, hb6⟩
    go_wp2_with fail
    go_ret
    exact ⟨rfl, hw5.trans (hb6.mono hw5.size)⟩
end Go.Proofs.YtmdnpgcnbpppfaaGreatDoor
