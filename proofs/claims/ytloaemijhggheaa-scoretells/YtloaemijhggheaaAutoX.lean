/- Accepts; the statement AutoNever. -/
import Derived.Test.YtloaemijhggheaaAutoW
import Derived.Deep.QuietTactic
import Derived.BigQuiet
namespace Go.Proofs.Ytloaemijhggheaa
open Go.RowKit
attribute [local go_sem ↓] run_eqS run_neS
attribute [local go_sem] byte_at0 byte_at20 byte_at21 w64 S.v and63 and31 and15 and7 kw kw256

theorem aRun_snoc (e : Int) (l : List UInt8) (b : UInt8) : ∀ s, aRun e s (l ++ [b]) = aStep e (aRun e s l) (nb b) := by
  induction l with
  | nil => intro s; rfl
  | cons c r ih => intro s; simp only [List.cons_append, aRun]; exact ih _
theorem aRun_app (e : Int) (l m : List UInt8) : ∀ s, aRun e s (l ++ m) = aRun e (aRun e s l) m := by
  induction l with
  | nil => intro s; rfl
  | cons c r ih => intro s; simp only [List.cons_append, aRun]; exact ih _
theorem take_one (s : ByteArray) (k : Nat) (h : k < s.size) : s.data.toList.take (k + 1) = s.data.toList.take k ++ [s[k]] := by
  rw [List.take_add_one]
  have : s.data.toList[k]? = some s[k] := by
    rw [List.getElem?_eq_getElem (by simpa using h)]; rfl
  rw [this]; rfl
theorem aRun_next (e x : Int) (s : ByteArray) (k : Nat) (h : k < s.size) : aRun e x (s.data.toList.take (k + 1)) = aStep e (aRun e x (s.data.toList.take k)) ((s[k]).toNat : Int) := by
  rw [take_one s k h, aRun_snoc]
set_option maxRecDepth 100000 in
set_option maxHeartbeats 400000 in
theorem accepts_any (e : Int) (s : ByteArray) (w : World) (hs : s.size < 2 ^ 60) : Calls Try.prog 28 #[.int .i64 e, .string s] w fun r w' => r = .returned (.bool (aEnds e (aRun e 0 s.data.toList))) ∧ w = w' := by
  go_enter Try.func28, Try.ntmps28
  go_wp2_with fail
  go_loopw [5, 9] (fun x i wr => ∃ k : Nat, k ≤ s.size ∧ i = .int .i64 k ∧ x = .int .i64 (aRun e 0 (s.data.toList.take k)) ∧ w = wr) (fun _ i _ => s.size - (intOf i).toNat)
  case atStart => exact ⟨0, Nat.zero_le _, rfl, rfl, rfl⟩
  case round =>
    obtain ⟨k, hk, rfl, rfl, rfl⟩ := hrel
    by_cases hlt : k < s.size
    · have b0 : (0 : Int) ≤ (k : Int) := by omega
      have b1 : (k : Int) < (s.size : Int) := by omega
      have hn := aRun_next e 0 s k hlt
      generalize aRun e 0 (s.data.toList.take k) = x at *
      have HP := hid (fun w1 => step_any e x s[k] w1)
      go_wp2_with fail
      refine (HP.out _).mono ?_
      rintro r w1 ⟨rfl, rfl⟩
      go_wp2_with fail
      go_roundw
      case rel => exact ⟨k + 1, by omega, by go_num, by rw [hn], trivial⟩
      case measure => simp [intOf]; omega
    · have hx : aRun e 0 (s.data.toList.take k) = aRun e 0 s.data.toList := by rw [List.take_of_length_le (by simp; omega)]
      rw [hx]
      obtain ⟨x, hx2⟩ : ∃ x, x = aRun e 0 s.data.toList := ⟨_, rfl⟩
      rw [← hx2]
      replace hx2 := hid hx2
      clear hx
      go_wp2_with fail
      refine (ends_any _ _ _).mono ?_
      rintro r w1 ⟨rfl, rfl⟩
      go_wp2_with fail
      go_ret
      rw [← hx2.out]
      exact ⟨rfl, rfl⟩
theorem autos1 : aEnds 1 (aRun 1 0 [97, 195, 169]) = true := by decide +kernel
theorem autos2 : aEnds 1 (aRun 1 0 [195]) = false := by decide +kernel
set_option maxRecDepth 100000 in
set_option maxHeartbeats 400000 in
theorem autos_keep (w : World) : Calls Try.prog 30 #[] w fun e w' => e = .returned (.bool true) ∧ w = w' := by
  have H := fun w1 => accepts_any 1 ⟨#[97, 195, 169]⟩ w1 (by decide)
  change ∀ w1, Calls Try.prog 28 #[.int .i64 1, .string ⟨#[97, 195, 169]⟩] w1 (fun r w' => r = .returned (.bool (aEnds 1 (aRun 1 0 [97, 195, 169]))) ∧ w1 = w') at H
  rw [autos1] at H
  replace H := hid H
  have H2 := fun w1 => accepts_any 1 ⟨#[195]⟩ w1 (by decide)
  change ∀ w1, Calls Try.prog 28 #[.int .i64 1, .string ⟨#[195]⟩] w1 (fun r w' => r = .returned (.bool (aEnds 1 (aRun 1 0 [195]))) ∧ w1 = w') at H2
  rw [autos2] at H2
  replace H2 := hid H2
  go_enter Try.func30, Try.ntmps30
  go_wp2_with fail
  refine (H.out _).mono ?_
  rintro e w1 ⟨rfl, rfl⟩
  go_wp2_with fail
  refine (H2.out _).mono ?_
  rintro e w1 ⟨rfl, rfl⟩
  go_wp2_with fail
  go_ret
  exact ⟨rfl, rfl⟩
set_option maxRecDepth 100000 in
set_option maxHeartbeats 400000 in
theorem autos_law (w : World) : Calls Try.prog 27 #[] w fun e w' => e = .returned (.bool true) ∧ w = w' := by
  have H := fun w1 => accepts_any 1 ⟨#[97, 195, 169]⟩ w1 (by decide)
  change ∀ w1, Calls Try.prog 28 #[.int .i64 1, .string ⟨#[97, 195, 169]⟩] w1 (fun r w' => r = .returned (.bool (aEnds 1 (aRun 1 0 [97, 195, 169]))) ∧ w1 = w') at H
  rw [autos1] at H
  replace H := hid H
  have H2 := fun w1 => accepts_any 1 ⟨#[195]⟩ w1 (by decide)
  change ∀ w1, Calls Try.prog 28 #[.int .i64 1, .string ⟨#[195]⟩] w1 (fun r w' => r = .returned (.bool (aEnds 1 (aRun 1 0 [195]))) ∧ w1 = w') at H2
  rw [autos2] at H2
  replace H2 := hid H2
  go_enter Try.func27, Try.ntmps27
  go_wp2_with fail
  refine (H.out _).mono ?_
  rintro e w1 ⟨rfl, rfl⟩
  go_wp2_with fail
  refine (H2.out _).mono ?_
  rintro e w1 ⟨rfl, rfl⟩
  go_wp2_with fail
  go_ret
  exact ⟨rfl, rfl⟩
/- a step's bounds -/
theorem aW_in (b lo hi nx : Int) (h : 0 ≤ nx ∧ nx ≤ 9) : 0 ≤ aW b lo hi nx ∧ aW b lo hi nx ≤ 9 := by unfold aW; split <;> (try split) <;> omega
theorem aWU_in (b x y : Int) (h : 0 ≤ x ∧ x ≤ 9) (h2 : 0 ≤ y ∧ y ≤ 9) : 0 ≤ aWU b x y ∧ aWU b x y ≤ 9 := by unfold aWU; repeat (first | omega | split)
theorem aU1_in (b : Int) : 0 ≤ aU1 b ∧ aU1 b ≤ 9 := by unfold aU1; repeat (first | omega | split)
theorem aS1_in (b : Int) : 0 ≤ aS1 b ∧ aS1 b ≤ 9 := by unfold aS1; repeat (first | omega | split)
theorem aS2_in (b : Int) : 0 ≤ aS2 b ∧ aS2 b ≤ 9 := by unfold aS2; repeat (first | omega | exact aW_in _ _ _ _ (by omega) | split)
theorem aS3_in (b : Int) : 0 ≤ aS3 b ∧ aS3 b ≤ 9 := by unfold aS3; repeat (first | omega | split)
theorem aT1_in (b : Int) : 0 ≤ aT1 b ∧ aT1 b ≤ 9 := by unfold aT1; repeat (first | omega | exact aW_in _ _ _ _ (by omega) | split)
theorem aU_in (s b : Int) : 0 ≤ aU s b ∧ aU s b ≤ 9 := by unfold aU; repeat (first | omega | exact aU1_in _ | exact aS1_in _ | exact aS2_in _ | exact aS3_in _ | exact aT1_in _ | exact aW_in _ _ _ _ (by omega) | exact aWU_in _ _ _ (by omega) (by omega) | split)
theorem aS_in (s b : Int) : 0 ≤ aS s b ∧ aS s b ≤ 9 := by unfold aS; repeat (first | omega | exact aU1_in _ | exact aS1_in _ | exact aS2_in _ | exact aS3_in _ | exact aT1_in _ | exact aW_in _ _ _ _ (by omega) | exact aWU_in _ _ _ (by omega) (by omega) | split)
theorem aT_in (s b : Int) : 0 ≤ aT s b ∧ aT s b ≤ 9 := by unfold aT; repeat (first | omega | exact aU1_in _ | exact aS1_in _ | exact aS2_in _ | exact aS3_in _ | exact aT1_in _ | exact aW_in _ _ _ _ (by omega) | exact aWU_in _ _ _ (by omega) (by omega) | split)
theorem aL_in (s b : Int) : 0 ≤ aL s b ∧ aL s b ≤ 9 := by unfold aL; repeat (first | omega | exact aU1_in _ | exact aS1_in _ | exact aS2_in _ | exact aS3_in _ | exact aT1_in _ | exact aW_in _ _ _ _ (by omega) | exact aWU_in _ _ _ (by omega) (by omega) | split)
theorem aLo_in (s b : Int) : 0 ≤ aLo s b ∧ aLo s b ≤ 9 := by unfold aLo; repeat (first | omega | exact aU1_in _ | exact aS1_in _ | exact aS2_in _ | exact aS3_in _ | exact aT1_in _ | exact aW_in _ _ _ _ (by omega) | exact aWU_in _ _ _ (by omega) (by omega) | split)
theorem aHi_in (s b : Int) : 0 ≤ aHi s b ∧ aHi s b ≤ 9 := by unfold aHi; repeat (first | omega | exact aU1_in _ | exact aS1_in _ | exact aS2_in _ | exact aS3_in _ | exact aT1_in _ | exact aW_in _ _ _ _ (by omega) | exact aWU_in _ _ _ (by omega) (by omega) | split)
theorem aStep_in (e s b : Int) : 0 ≤ aStep e s b ∧ aStep e s b ≤ 9 := by unfold aStep; repeat (first | exact aU_in _ _ | exact aS_in _ _ | exact aT_in _ _ | exact aL_in _ _ | exact aLo_in _ _ | exact aHi_in _ _ | split | omega)
theorem aStep_never (e b : Int) : aStep e 9 b = 9 := by
  unfold aStep aU aS aT aL aLo aHi
  simp
theorem aRun_never (e : Int) (l : List UInt8) : aRun e 9 l = 9 := by
  induction l with
  | nil => rfl
  | cons b r ih => simp only [aRun, aStep_never]; exact ih
theorem aEnds_never (e : Int) : aEnds e 9 = false := by
  unfold aEnds
  simp
end Go.Proofs.Ytloaemijhggheaa
