/- The statement ScoreBest's walk. -/
import Derived.Test.YtloaemijhggheaaScK
namespace Go.Proofs.Ytloaemijhggheaa
open Go.RowKit
attribute [local go_sem ↓] run_eqS run_neS
attribute [local go_sem] byte_at0 byte_at20 byte_at21 w64 S.v and63 and31 and15 and7 kw kw256

theorem plainText : bestL [112, 108, 97, 105, 110, 32, 116, 101, 120, 116] = 1 := by decide +kernel
theorem weight27 : weiN 2 27 40 = 8 := by decide +kernel
set_option maxRecDepth 100000 in
set_option maxHeartbeats 400000 in
theorem scores_keep (w : World) : Calls Try.prog 40 #[] w (PV w (.bool true)) := by
  have H := fun w1 => whole_sc ⟨#[112, 108, 97, 105, 110, 32, 116, 101, 120, 116]⟩ w1 (by decide)
  change ∀ w1, Calls Try.prog 38 #[.string ⟨#[112, 108, 97, 105, 110, 32, 116, 101, 120, 116]⟩] w1 (PV w1 (.int .i64 (bestL [112, 108, 97, 105, 110, 32, 116, 101, 120, 116]))) at H
  rw [plainText] at H
  replace H := hid H
  have H2 := fun w1 => weight_any 2 27 40 w1 (by decide) (by decide)
  rw [weight27] at H2
  replace H2 := hid H2
  go_enter Try.func40, Try.ntmps40
  go_wp2_with fail
  refine (H.out _).mono ?_
  rintro e w1 ⟨rfl, hb⟩
  go_wp2_with fail
  refine (H2.out _).mono ?_
  rintro e w2 ⟨rfl, rfl⟩
  go_wp2_with fail
  go_ret
  exact ⟨rfl, hb⟩
set_option maxRecDepth 100000 in
set_option maxHeartbeats 400000 in
theorem sb_long (s : ByteArray) (e : Int) (w : World) (hd : decide ((4000 : Int) < (s.size : Int)) = true) : Calls Try.prog 13 #[.string s, .int .i64 e] w (PV w (.bool true)) := by
  go_enter Try.func13, Try.ntmps13
  go_wp2_with fail
  refine (scores_keep _).mono ?_
  rintro r w1 ⟨rfl, hb⟩
  go_wp2_with fail
  go_ret
  exact ⟨rfl, one_box hb⟩
set_option maxRecDepth 100000 in
set_option maxHeartbeats 400000 in
theorem sb_none (s : ByteArray) (e : Int) (w : World) (hd : decide ((4000 : Int) < (s.size : Int)) = false) (HW : Hid (∀ w1, Calls Try.prog 38 #[.string s] w1 (PV w1 (.int .i64 0)))) (HA : Hid (∀ w1, Calls Try.prog 28 #[.int .i64 e, .string s] w1 fun r w' => r = .returned (.bool false) ∧ w1 = w')) : Calls Try.prog 13 #[.string s, .int .i64 e] w (PV w (.bool true)) := by
  go_enter Try.func13, Try.ntmps13
  go_wp2_with fail
  refine (HW.out _).mono ?_
  rintro r w1 ⟨rfl, hb⟩
  have hc : w1.cell? ⟨w.heap.size, 0, none⟩ = some (.string s) := by rw [(bcell hb).1 _ _ (by simp)]; simp [go_sem]
  replace hb := one_box hb
  go_wp2_with fail
  refine (HA.out _).mono ?_
  rintro r w2 ⟨rfl, rfl⟩
  go_wp2_with fail
  refine (scores_keep _).mono ?_
  rintro r w2 ⟨rfl, hb2⟩
  go_wp2_with fail
  go_ret
  exact ⟨rfl, hb.trans (hb2.mono hb.size)⟩
set_option maxRecDepth 100000 in
set_option maxHeartbeats 400000 in
theorem sb_not (s : ByteArray) (e q : Int) (w : World) (hq : (q == 0) = false) (hd : decide ((4000 : Int) < (s.size : Int)) = false) (HW : Hid (∀ w1, Calls Try.prog 38 #[.string s] w1 (PV w1 (.int .i64 q)))) (HB : Hid (∀ w1, Calls Try.prog 28 #[.int .i64 q, .string s] w1 fun r w' => r = .returned (.bool true) ∧ w1 = w')) (HA : Hid (∀ w1, Calls Try.prog 28 #[.int .i64 e, .string s] w1 fun r w' => r = .returned (.bool false) ∧ w1 = w')) : Calls Try.prog 13 #[.string s, .int .i64 e] w (PV w (.bool true)) := by
  go_enter Try.func13, Try.ntmps13
  go_wp2_with fail
  refine (HW.out _).mono ?_
  rintro r w1 ⟨rfl, hb⟩
  have hc : w1.cell? ⟨w.heap.size, 0, none⟩ = some (.string s) := by rw [(bcell hb).1 _ _ (by simp)]; simp [go_sem]
  replace hb := one_box hb
  go_wp2_with fail
  refine (HB.out _).mono ?_
  rintro r w2 ⟨rfl, rfl⟩
  go_wp2_with fail
  refine (HA.out _).mono ?_
  rintro r w2 ⟨rfl, rfl⟩
  go_wp2_with fail
  refine (scores_keep _).mono ?_
  rintro r w2 ⟨rfl, hb2⟩
  go_wp2_with fail
  go_ret
  exact ⟨rfl, hb.trans (hb2.mono hb.size)⟩
/-- A sum's contract, at a cell that holds the bytes. -/
def SumC (s : ByteArray) (e x : Int) : Prop := ∀ (a : Addr) (w : World), w.cell? a = some (.string s) → Calls Try.prog 41 #[.int .i64 e, .pointer (some a)] w fun r w' => r = .returned (.int .i64 x) ∧ ∃ m, w' = w.drewN m
set_option maxRecDepth 100000 in
set_option maxHeartbeats 400000 in
theorem sb_yes (s : ByteArray) (e q x y : Int) (w : World) (hq : (q == 0) = false) (hd : decide ((4000 : Int) < (s.size : Int)) = false) (HW : Hid (∀ w1, Calls Try.prog 38 #[.string s] w1 (PV w1 (.int .i64 q)))) (HB : Hid (∀ w1, Calls Try.prog 28 #[.int .i64 q, .string s] w1 fun r w' => r = .returned (.bool true) ∧ w1 = w')) (HA : Hid (∀ w1, Calls Try.prog 28 #[.int .i64 e, .string s] w1 fun r w' => r = .returned (.bool true) ∧ w1 = w')) (HX : Hid (SumC s e x)) (HY : Hid (SumC s q y)) (h1 : decide (y < x) = false) (h2 : decide (e < q) = false) : Calls Try.prog 13 #[.string s, .int .i64 e] w (PV w (.bool true)) := by
  go_enter Try.func13, Try.ntmps13
  go_wp2_with fail
  refine (HW.out _).mono ?_
  rintro r w1 ⟨rfl, hb⟩
  have hc : w1.cell? ⟨w.heap.size, 0, none⟩ = some (.string s) := by rw [(bcell hb).1 _ _ (by simp)]; simp [go_sem]
  replace hb := one_box hb
  go_wp2_with fail
  refine (HB.out _).mono ?_
  rintro r w2 ⟨rfl, rfl⟩
  go_wp2_with fail
  refine (HA.out _).mono ?_
  rintro r w2 ⟨rfl, rfl⟩
  go_wp2_with fail
  refine (HX.out _ _ hc).mono ?_
  rintro r v1 ⟨rfl, hm⟩
  have hc1 : v1.cell? ⟨w.heap.size, 0, none⟩ = some (.string s) := by obtain ⟨m, rfl⟩ := hm; exact hc
  have hx1 : Below w.heap.size w v1 := by obtain ⟨m, rfl⟩ := hm; exact Below.dN hb m
  clear hm
  go_wp2_with fail
  refine (HY.out _ _ hc1).mono ?_
  rintro r v2 ⟨rfl, hm⟩
  have hc2 : v2.cell? ⟨w.heap.size, 0, none⟩ = some (.string s) := by obtain ⟨m, rfl⟩ := hm; exact hc1
  have hx2 : Below w.heap.size w v2 := by obtain ⟨m, rfl⟩ := hm; exact Below.dN hx1 m
  clear hm
  go_wp2_with fail
  refine (scores_keep _).mono ?_
  rintro r w2 ⟨rfl, hb2⟩
  go_wp2_with fail
  go_ret
  exact ⟨rfl, hx2.trans (hb2.mono hx2.size)⟩
set_option maxRecDepth 100000 in
set_option maxHeartbeats 400000 in
theorem sb_yes2 (s : ByteArray) (e q x y : Int) (w : World) (hq : (q == 0) = false) (hd : decide ((4000 : Int) < (s.size : Int)) = false) (HW : Hid (∀ w1, Calls Try.prog 38 #[.string s] w1 (PV w1 (.int .i64 q)))) (HB : Hid (∀ w1, Calls Try.prog 28 #[.int .i64 q, .string s] w1 fun r w' => r = .returned (.bool true) ∧ w1 = w')) (HA : Hid (∀ w1, Calls Try.prog 28 #[.int .i64 e, .string s] w1 fun r w' => r = .returned (.bool true) ∧ w1 = w')) (HX : Hid (SumC s e x)) (HY : Hid (SumC s q y)) (h1 : decide (y < x) = false) (h2 : decide (e < q) = true) (h3 : (x == y) = false) : Calls Try.prog 13 #[.string s, .int .i64 e] w (PV w (.bool true)) := by
  go_enter Try.func13, Try.ntmps13
  go_wp2_with fail
  refine (HW.out _).mono ?_
  rintro r w1 ⟨rfl, hb⟩
  have hc : w1.cell? ⟨w.heap.size, 0, none⟩ = some (.string s) := by rw [(bcell hb).1 _ _ (by simp)]; simp [go_sem]
  replace hb := one_box hb
  go_wp2_with fail
  refine (HB.out _).mono ?_
  rintro r w2 ⟨rfl, rfl⟩
  go_wp2_with fail
  refine (HA.out _).mono ?_
  rintro r w2 ⟨rfl, rfl⟩
  go_wp2_with fail
  refine (HX.out _ _ hc).mono ?_
  rintro r v1 ⟨rfl, hm⟩
  have hc1 : v1.cell? ⟨w.heap.size, 0, none⟩ = some (.string s) := by obtain ⟨m, rfl⟩ := hm; exact hc
  have hx1 : Below w.heap.size w v1 := by obtain ⟨m, rfl⟩ := hm; exact Below.dN hb m
  clear hm
  go_wp2_with fail
  refine (HY.out _ _ hc1).mono ?_
  rintro r v2 ⟨rfl, hm⟩
  have hc2 : v2.cell? ⟨w.heap.size, 0, none⟩ = some (.string s) := by obtain ⟨m, rfl⟩ := hm; exact hc1
  have hx2 : Below w.heap.size w v2 := by obtain ⟨m, rfl⟩ := hm; exact Below.dN hx1 m
  clear hm
  go_wp2_with fail
  refine (HX.out _ _ hc2).mono ?_
  rintro r v3 ⟨rfl, hm⟩
  have hc3 : v3.cell? ⟨w.heap.size, 0, none⟩ = some (.string s) := by obtain ⟨m, rfl⟩ := hm; exact hc2
  have hx3 : Below w.heap.size w v3 := by obtain ⟨m, rfl⟩ := hm; exact Below.dN hx2 m
  clear hm
  go_wp2_with fail
  refine (HY.out _ _ hc3).mono ?_
  rintro r v4 ⟨rfl, hm⟩
  have hc4 : v4.cell? ⟨w.heap.size, 0, none⟩ = some (.string s) := by obtain ⟨m, rfl⟩ := hm; exact hc3
  have hx4 : Below w.heap.size w v4 := by obtain ⟨m, rfl⟩ := hm; exact Below.dN hx3 m
  clear hm
  go_wp2_with fail
  refine (scores_keep _).mono ?_
  rintro r w2 ⟨rfl, hb2⟩
  go_wp2_with fail
  go_ret
  exact ⟨rfl, hx4.trans (hb2.mono hx4.size)⟩
theorem aEnds_e (e s : Int) (h : aEnds e s = true) : 1 ≤ e ∧ e ≤ 6 := by
  unfold aEnds at h
  split at h
  · omega
  · split at h
    · assumption
    · cases h
theorem scoreBest_true (s : ByteArray) (e : Int) (w : World) : Calls Try.prog 13 #[.string s, .int .i64 e] w (PV w (.bool true)) := by
  by_cases hd : (4000 : Int) < (s.size : Int)
  · exact sb_long s e w (decide_eq_true hd)
  have hs : s.size ≤ 4000 := by omega
  have hd' := decide_eq_false hd
  have hW := hid (fun w1 => whole_sc s w1 hs)
  have hb := bestE_ok (fun e => aEnds e (aRun e 0 s.data.toList)) (fun e => sumN e s.data.toList) (fun e h => aEnds_e e _ h)
  have hA : ∀ (e : Int) (v : Bool), aEnds e (aRun e 0 s.data.toList) = v → Hid (∀ w1, Calls Try.prog 28 #[.int .i64 e, .string s] w1 fun r w' => r = .returned (.bool v) ∧ w1 = w') := fun e v h => h ▸ hid (fun w1 => accepts_any e s w1 (by omega))
  have hS : ∀ e, Hid (SumC s e (sumN e s.data.toList)) := fun e => hid (fun a w h => sum_any s e a w h hs)
  change (bestL s.data.toList = 0 → _) ∧ (bestL s.data.toList ≠ 0 → _ ∧ _ ∧ aEnds (bestL s.data.toList) (aRun (bestL s.data.toList) 0 s.data.toList) = true ∧ ∀ e, aEnds e (aRun e 0 s.data.toList) = true → sumN e s.data.toList ≤ sumN (bestL s.data.toList) s.data.toList ∧ (e < bestL s.data.toList → sumN e s.data.toList < sumN (bestL s.data.toList) s.data.toList)) at hb
  generalize bestL s.data.toList = q at *
  by_cases h0 : q = 0
  · subst h0
    exact sb_none s e w hd' hW (hA e false (hb.1 rfl e))
  · have h0' : (q == 0) = false := by simpa using h0
    obtain ⟨_, _, h3, h4⟩ := hb.2 h0
    cases hv : aEnds e (aRun e 0 s.data.toList) with
    | false => exact sb_not s e q w h0' hd' hW (hA q true h3) (hA e false hv)
    | true =>
      obtain ⟨h5, h6⟩ := h4 e hv
      by_cases hlt : e < q
      · have h7 := h6 hlt
        exact sb_yes2 s e q _ _ w h0' hd' hW (hA q true h3) (hA e true hv) (hS e) (hS q) (decide_eq_false (by omega)) (decide_eq_true hlt) (by simp; omega)
      · exact sb_yes s e q _ _ w h0' hd' hW (hA q true h3) (hA e true hv) (hS e) (hS q) (decide_eq_false (by omega)) (decide_eq_false hlt)
end Go.Proofs.Ytloaemijhggheaa
