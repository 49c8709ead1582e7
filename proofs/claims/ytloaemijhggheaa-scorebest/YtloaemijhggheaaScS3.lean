/- score.Step with a byte ahead. -/
import Derived.Test.YtloaemijhggheaaScS2
namespace Go.Proofs.Ytloaemijhggheaa
open Go.RowKit

set_option maxRecDepth 100000 in
set_option maxHeartbeats 2000000 in
theorem scStep_next (f g st wt gg : Int → Int) (last b : Int) (w : World) (h0 : 0 ≤ last) (hg : ∀ e, g e + wt e = gg e) (hwr : ∀ e, IntKind.i64.wrap (gg e) = gg e) (HS : Hid (∀ e w1, Calls Try.prog 31 #[.int .i64 e, .int .i64 (f e), .int .i64 b] w1 (PI w1 (st e)))) (HW : Hid (∀ e w1, Calls Try.prog 36 #[.int .i64 e, .int .i64 last, .int .i64 b] w1 (PI w1 (wt e)))) : Calls Try.prog 63 #[(.agg #[.int .i64 0, .int .i64 0, .int .i64 (f 1), .int .i64 (g 1), .int .i64 (f 2), .int .i64 (g 2), .int .i64 (f 3), .int .i64 (g 3), .int .i64 (f 4), .int .i64 (g 4), .int .i64 (f 5), .int .i64 (g 5), .int .i64 (f 6), .int .i64 (g 6)]), .int .i64 last, .int .i64 b] w (PV w (.agg #[.int .i64 0, .int .i64 0, .int .i64 (st 1), .int .i64 (gg 1), .int .i64 (st 2), .int .i64 (gg 2), .int .i64 (st 3), .int .i64 (gg 3), .int .i64 (st 4), .int .i64 (gg 4), .int .i64 (st 5), .int .i64 (gg 5), .int .i64 (st 6), .int .i64 (gg 6)])) := by
  go_enter Try.func63, Try.ntmps63
  go_wp2_with fail
  refine (new_any _).mono ?_
  rintro r w1 ⟨rfl, hb⟩
  have hsz : w.heap.size + 1 < w1.heap.size := by have := hb.size; simp at this; omega
  have hL0 : HasL w1 w.heap.size (scL f g) := HasL.below ((HasL.new w _ _ (scL f g) rfl).alloc (by simp [scL]) _) hb (by simp; omega)
  have hL1 : HasL w1 (w.heap.size + 1) (scL (fun _ => 0) (fun _ => 0)) := by
    have := HasL.below (HasL.new (w.alloc (.cells #[.int .i64 0, .int .i64 0, .int .i64 (f 1), .int .i64 (g 1), .int .i64 (f 2), .int .i64 (g 2), .int .i64 (f 3), .int .i64 (g 3), .int .i64 (f 4), .int .i64 (g 4), .int .i64 (f 5), .int .i64 (g 5), .int .i64 (f 6), .int .i64 (g 6)] 59)) #[.int .i64 0, .int .i64 0, .int .i64 0, .int .i64 0, .int .i64 0, .int .i64 0, .int .i64 0, .int .i64 0, .int .i64 0, .int .i64 0, .int .i64 0, .int .i64 0, .int .i64 0, .int .i64 0] 59 (scL (fun _ => 0) (fun _ => 0)) rfl) hb (by simp)
    simpa using this
  have hB : Below w.heap.size w w1 := two_boxes hb
  have hR : StepR f g st gg w w1.heap.size (.int .i64 1) (w1.alloc (.cells #[.int .i64 0, .int .i64 0, .int .i64 0, .int .i64 0, .int .i64 0, .int .i64 0, .int .i64 0, .int .i64 0, .int .i64 0, .int .i64 0, .int .i64 0, .int .i64 0, .int .i64 0, .int .i64 0] 59)) :=
    ⟨1, by omega, by omega, rfl, hL0.alloc (by simp [scL]) _, hL1.alloc (by simp [scL]) _, by rw [upStart]; exact HasL.new _ _ _ _ rfl, hB.alloc (by omega) _⟩
  replace hR := hid hR
  clear hL0 hL1 hB hb
  go_wp2_with fail
  generalize w1.heap.size = n at *
  go_loopw [8] (fun i wr => StepR f g st gg w n i wr) (fun i _ => (7 - intOf i).toNat)
  case atStart => exact hR.out
  case round =>
    clear hR
    obtain ⟨k, hk1, hk2, rfl, hA, hE, hN, hb⟩ := hrel
    have : k = 7 ∨ k = 1 ∨ k = 2 ∨ k = 3 ∨ k = 4 ∨ k = 5 ∨ k = 6 := by omega
    rcases this with rfl | this
    · rw [upEnd] at hN
      obtain ⟨n0, n1, n2, n3, n4, n5, n6, n7, n8, n9, n10, n11, n12, n13, nz⟩ := hN.sc
      obtain ⟨p0, p1, p2, p3, p4, p5, p6, p7, p8, p9, p10, p11, p12, p13, pz⟩ := hE.sc
      go_wp2_with fail
      exact bodyPost_ret (ret_L rfl rfl (hE.put14 st gg)) rfl ⟨rfl, put14 hb (by omega) st gg⟩
    · rcases this with rfl | rfl | rfl | rfl | rfl | rfl
      all_goals
        obtain ⟨p0, p1, p2, p3, p4, p5, p6, p7, p8, p9, p10, p11, p12, p13, pz⟩ := hA.sc
        obtain ⟨n0, n1, n2, n3, n4, n5, n6, n7, n8, n9, n10, n11, n12, n13, nz⟩ := hN.sc
        go_wp2_with (first | (go_at_call 31; refine (HS.out _ _).mono ?_; rintro r w2 ⟨rfl, rfl⟩))
        go_region_with (go_at_call 36; refine (HW.out _ _).mono ?_; rintro r w2 ⟨rfl, rfl⟩)
        all_goals (go_wp2_with fail)
        all_goals exact ⟨StepR.next3 _ _ hk1 (by omega) hsz hA hE hN hb, by simp [intOf]⟩
end Go.Proofs.Ytloaemijhggheaa
