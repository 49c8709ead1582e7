/- score.Step. -/
import Derived.Test.YtloaemijhggheaaQC
import Derived.Deep.RegionWith
namespace Go.Proofs.Ytloaemijhggheaa
open Go.RowKit

/-- The numbers that are there behind k rounds. -/
def upK (k : Int) (f : Int → Int) (e : Int) : Int := if e < k then f e else 0
/-- What holds at the head of Step's loop. -/
def StepR (f g st gg : Int → Int) (w : World) (n : Nat) (i : Value) (wr : World) : Prop :=
  ∃ k : Int, 1 ≤ k ∧ k ≤ 7 ∧ i = .int .i64 k ∧ HasL wr w.heap.size (scL f g) ∧ HasL wr (w.heap.size + 1) (scL (fun _ => 0) (fun _ => 0)) ∧ HasL wr n (scL (upK k st) (upK k gg)) ∧ Below w.heap.size w wr
theorem upL (k : Int) (h1 : 1 ≤ k) (h2 : k ≤ 6) (st gg : Int → Int) : ((scL (upK k st) (upK k gg)).set (2 * k.toNat) (st k)).set (2 * k.toNat + 1) (gg k) = scL (upK (k + 1) st) (upK (k + 1) gg) := by
  have : k = 1 ∨ k = 2 ∨ k = 3 ∨ k = 4 ∨ k = 5 ∨ k = 6 := by omega
  rcases this with rfl | rfl | rfl | rfl | rfl | rfl <;> simp [scL, upK]
theorem upStart (st gg : Int → Int) : scL (upK 1 st) (upK 1 gg) = scL (fun _ => 0) (fun _ => 0) := by simp [scL, upK]
theorem upEnd (st gg : Int → Int) : scL (upK 7 st) (upK 7 gg) = scL st gg := by simp [scL, upK]
theorem HasL.put14 {w : World} {blk : Nat} {f' g' : Int → Int} (h : HasL w blk (scL f' g')) (f g : Int → Int) : HasL ((((((((((((((w.setCell ⟨blk, 0, none⟩ (.int .i64 0)).setCell ⟨blk, 1, none⟩ (.int .i64 0)).setCell ⟨blk, 2, none⟩ (.int .i64 (f 1))).setCell ⟨blk, 3, none⟩ (.int .i64 (g 1))).setCell ⟨blk, 4, none⟩ (.int .i64 (f 2))).setCell ⟨blk, 5, none⟩ (.int .i64 (g 2))).setCell ⟨blk, 6, none⟩ (.int .i64 (f 3))).setCell ⟨blk, 7, none⟩ (.int .i64 (g 3))).setCell ⟨blk, 8, none⟩ (.int .i64 (f 4))).setCell ⟨blk, 9, none⟩ (.int .i64 (g 4))).setCell ⟨blk, 10, none⟩ (.int .i64 (f 5))).setCell ⟨blk, 11, none⟩ (.int .i64 (g 5))).setCell ⟨blk, 12, none⟩ (.int .i64 (f 6))).setCell ⟨blk, 13, none⟩ (.int .i64 (g 6))) blk (scL f g) := by
  have h := ((((((((((((((h.put 0 (0) (by simp [scL])).put 1 (0) (by simp [scL])).put 2 (f 1) (by simp [scL])).put 3 (g 1) (by simp [scL])).put 4 (f 2) (by simp [scL])).put 5 (g 2) (by simp [scL])).put 6 (f 3) (by simp [scL])).put 7 (g 3) (by simp [scL])).put 8 (f 4) (by simp [scL])).put 9 (g 4) (by simp [scL])).put 10 (f 5) (by simp [scL])).put 11 (g 5) (by simp [scL])).put 12 (f 6) (by simp [scL])).put 13 (g 6) (by simp [scL]))
  simpa [scL] using h
theorem put14 {B blk : Nat} {a w : World} (h : Below B a w) (hB : B ≤ blk) (f g : Int → Int) : Below B a ((((((((((((((w.setCell ⟨blk, 0, none⟩ (.int .i64 0)).setCell ⟨blk, 1, none⟩ (.int .i64 0)).setCell ⟨blk, 2, none⟩ (.int .i64 (f 1))).setCell ⟨blk, 3, none⟩ (.int .i64 (g 1))).setCell ⟨blk, 4, none⟩ (.int .i64 (f 2))).setCell ⟨blk, 5, none⟩ (.int .i64 (g 2))).setCell ⟨blk, 6, none⟩ (.int .i64 (f 3))).setCell ⟨blk, 7, none⟩ (.int .i64 (g 3))).setCell ⟨blk, 8, none⟩ (.int .i64 (f 4))).setCell ⟨blk, 9, none⟩ (.int .i64 (g 4))).setCell ⟨blk, 10, none⟩ (.int .i64 (f 5))).setCell ⟨blk, 11, none⟩ (.int .i64 (g 5))).setCell ⟨blk, 12, none⟩ (.int .i64 (f 6))).setCell ⟨blk, 13, none⟩ (.int .i64 (g 6))) := ((((((((((((((h.setCell (p := ⟨blk, 0, none⟩) hB (.int .i64 0)).setCell (p := ⟨blk, 1, none⟩) hB (.int .i64 0)).setCell (p := ⟨blk, 2, none⟩) hB (.int .i64 (f 1))).setCell (p := ⟨blk, 3, none⟩) hB (.int .i64 (g 1))).setCell (p := ⟨blk, 4, none⟩) hB (.int .i64 (f 2))).setCell (p := ⟨blk, 5, none⟩) hB (.int .i64 (g 2))).setCell (p := ⟨blk, 6, none⟩) hB (.int .i64 (f 3))).setCell (p := ⟨blk, 7, none⟩) hB (.int .i64 (g 3))).setCell (p := ⟨blk, 8, none⟩) hB (.int .i64 (f 4))).setCell (p := ⟨blk, 9, none⟩) hB (.int .i64 (g 4))).setCell (p := ⟨blk, 10, none⟩) hB (.int .i64 (f 5))).setCell (p := ⟨blk, 11, none⟩) hB (.int .i64 (g 5))).setCell (p := ⟨blk, 12, none⟩) hB (.int .i64 (f 6))).setCell (p := ⟨blk, 13, none⟩) hB (.int .i64 (g 6)))
theorem StepR.next2 {f g st gg : Int → Int} {w wr : World} {n : Nat} (k : Int) (h1 : 1 ≤ k) (h2 : k ≤ 6) (hn : w.heap.size + 1 < n) (hA : HasL wr w.heap.size (scL f g)) (hE : HasL wr (w.heap.size + 1) (scL (fun _ => 0) (fun _ => 0))) (hN : HasL wr n (scL (upK k st) (upK k gg))) (hb : Below w.heap.size w wr) :
    StepR f g st gg w n (.int .i64 (k + 1)) ((wr.setCell ⟨n, 2 * k.toNat, none⟩ (.int .i64 (st k))).setCell ⟨n, 2 * k.toNat + 1, none⟩ (.int .i64 (gg k))) := by
  refine ⟨k + 1, by omega, by omega, rfl, (hA.far (by omega) _ _).far (by omega) _ _, (hE.far (by omega) _ _).far (by omega) _ _, ?_, (hb.setCell (p := ⟨n, _, none⟩) (by show w.heap.size ≤ n; omega) _).setCell (p := ⟨n, _, none⟩) (by show w.heap.size ≤ n; omega) _⟩
  rw [← upL k h1 h2]
  exact (hN.put _ _ (by simp [scL]; omega)).put _ _ (by simp [scL]; omega)
theorem StepR.next3 {f g st gg : Int → Int} {w wr : World} {n : Nat} (k x : Int) (h1 : 1 ≤ k) (h2 : k ≤ 6) (hn : w.heap.size + 1 < n) (hA : HasL wr w.heap.size (scL f g)) (hE : HasL wr (w.heap.size + 1) (scL (fun _ => 0) (fun _ => 0))) (hN : HasL wr n (scL (upK k st) (upK k gg))) (hb : Below w.heap.size w wr) :
    StepR f g st gg w n (.int .i64 (k + 1)) (((wr.setCell ⟨n, 2 * k.toNat, none⟩ (.int .i64 (st k))).setCell ⟨n, 2 * k.toNat + 1, none⟩ (.int .i64 x)).setCell ⟨n, 2 * k.toNat + 1, none⟩ (.int .i64 (gg k))).drew := by
  refine ⟨k + 1, by omega, by omega, rfl, (((hA.far (by omega) _ _).far (by omega) _ _).far (by omega) _ _).drew, (((hE.far (by omega) _ _).far (by omega) _ _).far (by omega) _ _).drew, ?_, (((hb.setCell (p := ⟨n, _, none⟩) (by show w.heap.size ≤ n; omega) _).setCell (p := ⟨n, _, none⟩) (by show w.heap.size ≤ n; omega) _).setCell (p := ⟨n, _, none⟩) (by show w.heap.size ≤ n; omega) _).drew⟩
  have h := ((hN.put (2 * k.toNat) (st k) (by simp [scL]; omega)).put (2 * k.toNat + 1) x (by simp [scL]; omega)).put (2 * k.toNat + 1) (gg k) (by simp [scL]; omega)
  rw [List.set_set, upL k h1 h2] at h
  exact h.drew
set_option maxRecDepth 100000 in
set_option maxHeartbeats 2000000 in
theorem scStep_first (f g st : Int → Int) (b : Int) (w : World) (HS : Hid (∀ e w1, Calls Try.prog 31 #[.int .i64 e, .int .i64 (f e), .int .i64 b] w1 (PI w1 (st e)))) : Calls Try.prog 63 #[(.agg #[.int .i64 0, .int .i64 0, .int .i64 (f 1), .int .i64 (g 1), .int .i64 (f 2), .int .i64 (g 2), .int .i64 (f 3), .int .i64 (g 3), .int .i64 (f 4), .int .i64 (g 4), .int .i64 (f 5), .int .i64 (g 5), .int .i64 (f 6), .int .i64 (g 6)]), .int .i64 (-1), .int .i64 b] w (PV w (.agg #[.int .i64 0, .int .i64 0, .int .i64 (st 1), .int .i64 (g 1), .int .i64 (st 2), .int .i64 (g 2), .int .i64 (st 3), .int .i64 (g 3), .int .i64 (st 4), .int .i64 (g 4), .int .i64 (st 5), .int .i64 (g 5), .int .i64 (st 6), .int .i64 (g 6)])) := by
  go_enter Try.func63, Try.ntmps63
  go_wp2_with fail
  refine (new_any _).mono ?_
  rintro r w1 ⟨rfl, hb⟩
  have hsz : w.heap.size + 1 < w1.heap.size := by have := hb.size; simp at this; omega
  have hL0 : HasL w1 w.heap.size (scL f g) := HasL.below ((HasL.new w _ _ (scL f g) rfl).alloc (by simp [scL]) _) hb (by simp; omega)
  have hL1 : HasL w1 (w.heap.size + 1) (scL (fun _ => 0) (fun _ => 0)) := by
    have := HasL.below (HasL.new (w.alloc (.cells #[.int .i64 0, .int .i64 0, .int .i64 (f 1), .int .i64 (g 1), .int .i64 (f 2), .int .i64 (g 2), .int .i64 (f 3), .int .i64 (g 3), .int .i64 (f 4), .int .i64 (g 4), .int .i64 (f 5), .int .i64 (g 5), .int .i64 (f 6), .int .i64 (g 6)] 59)) #[.int .i64 0, .int .i64 0, .int .i64 0, .int .i64 0, .int .i64 0, .int .i64 0, .int .i64 0, .int .i64 0, .int .i64 0, .int .i64 0, .int .i64 0, .int .i64 0, .int .i64 0, .int .i64 0] 59 (scL (fun _ => 0) (fun _ => 0)) rfl) hb (by simp)
    simpa using this
  have hB : Below w.heap.size w w1 := two_boxes hb
  have hR : StepR f g st g w w1.heap.size (.int .i64 1) (w1.alloc (.cells #[.int .i64 0, .int .i64 0, .int .i64 0, .int .i64 0, .int .i64 0, .int .i64 0, .int .i64 0, .int .i64 0, .int .i64 0, .int .i64 0, .int .i64 0, .int .i64 0, .int .i64 0, .int .i64 0] 59)) :=
    ⟨1, by omega, by omega, rfl, hL0.alloc (by simp [scL]) _, hL1.alloc (by simp [scL]) _, by rw [upStart]; exact HasL.new _ _ _ _ rfl, hB.alloc (by omega) _⟩
  replace hR := hid hR
  clear hL0 hL1 hB hb
  go_wp2_with fail
  generalize w1.heap.size = n at *
  go_loopw [8] (fun i wr => StepR f g st g w n i wr) (fun i _ => (7 - intOf i).toNat)
  case atStart => exact hR.out
  case round =>
    clear hR
    obtain ⟨k, hk1, hk2, rfl, hA, hE, hN, hb⟩ := hrel
    have : k = 7 ∨ k = 1 ∨ k = 2 ∨ k = 3 ∨ k = 4 ∨ k = 5 ∨ k = 6 := by omega
    rcases this with rfl | this
    · rw [upEnd] at hN
      obtain ⟨n0, n1, n2, n3, n4, n5, n6, n7, n8, n9, n10, n11, n12, n13, nz⟩ := hN.sc
      obtain ⟨p0, p1, p2, p3, p4, p5, p6, p7, p8, p9, p10, p11, p12, p13, pz⟩ := hE.sc
      go_wp2_with fail
      exact bodyPost_ret (ret_L rfl rfl (hE.put14 st g)) rfl ⟨rfl, put14 hb (by omega) st g⟩
    · rcases this with rfl | rfl | rfl | rfl | rfl | rfl
      all_goals
        obtain ⟨p0, p1, p2, p3, p4, p5, p6, p7, p8, p9, p10, p11, p12, p13, pz⟩ := hA.sc
        obtain ⟨n0, n1, n2, n3, n4, n5, n6, n7, n8, n9, n10, n11, n12, n13, nz⟩ := hN.sc
        go_wp2_with (first | (go_at_call 31; refine (HS.out _ _).mono ?_; rintro r w2 ⟨rfl, rfl⟩))
        exact ⟨StepR.next2 _ hk1 (by omega) hsz hA hE hN hb, by simp [intOf]⟩
end Go.Proofs.Ytloaemijhggheaa
