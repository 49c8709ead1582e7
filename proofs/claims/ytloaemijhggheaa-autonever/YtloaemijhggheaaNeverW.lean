/- The walk over the law AutoNever. -/
import Derived.Test.YtloaemijhggheaaAutoX
import Derived.Test.YtloaemijhggheaaIn
namespace Go.Proofs.Ytloaemijhggheaa
open Go.RowKit
attribute [local go_sem ↓] run_eqS run_neS
attribute [local go_sem] byte_at0 byte_at20 byte_at21 w64 S.v and63 and31 and15 and7 kw kw256

set_option maxRecDepth 100000 in
set_option maxHeartbeats 1000000 in
theorem never_any (e : Int) (s t : ByteArray) (w : World) (hs : s.size < 2 ^ 58) (ht : t.size < 2 ^ 58) : Calls Try.prog 11 #[.int .i64 e, .string s, .string t] w fun r w' => r = .returned (.bool true) ∧ w = w' := by
  go_enter Try.func11, Try.ntmps11
  go_wp2_with fail
  go_loopw [7, 13] (fun x i wr => ∃ k : Nat, k ≤ s.size ∧ i = .int .i64 k ∧ x = .int .i64 (aRun e 0 (s.data.toList.take k)) ∧ w = wr) (fun _ i _ => s.size - (intOf i).toNat)
  case atStart => exact ⟨0, Nat.zero_le _, rfl, rfl, rfl⟩
  case round =>
    obtain ⟨k, hk, rfl, rfl, rfl⟩ := hrel
    by_cases hlt : k < s.size
    · have b0 : (0 : Int) ≤ (k : Int) := by omega
      have b1 : (k : Int) < (s.size : Int) := by omega
      have hn := aRun_next e 0 s k hlt
      generalize aRun e 0 (s.data.toList.take k) = x at *
      have HP := hid (fun w1 => step_any e x s[k] w1)
      go_wp2_with fail
      refine (HP.out _).mono ?_
      rintro r w1 ⟨rfl, rfl⟩
      go_wp2_with fail
      go_roundw
      case rel => exact ⟨k + 1, by omega, by go_num, by rw [hn], trivial⟩
      case measure => simp [intOf]; omega
    · have hx : aRun e 0 (s.data.toList.take k) = aRun e 0 s.data.toList := by rw [List.take_of_length_le (by simp; omega)]
      rw [hx]
      obtain ⟨x, hx2⟩ : ∃ x, x = aRun e 0 s.data.toList := ⟨_, rfl⟩
      rw [← hx2]
      replace hx2 := hid hx2
      clear hx
      go_wp2_with fail
      go_loopw [7, 26] (fun y i wr => ∃ k : Nat, k ≤ t.size ∧ i = .int .i64 k ∧ y = .int .i64 (aRun e x (t.data.toList.take k)) ∧ w = wr) (fun _ i _ => t.size - (intOf i).toNat)
      case atStart => exact ⟨0, Nat.zero_le _, rfl, rfl, rfl⟩
      case round =>
        obtain ⟨j, hj, rfl, rfl, rfl⟩ := hrel
        by_cases hlt : j < t.size
        · have b0 : (0 : Int) ≤ (j : Int) := by omega
          have b1 : (j : Int) < (t.size : Int) := by omega
          have hn := aRun_next e x t j hlt
          generalize aRun e x (t.data.toList.take j) = z at *
          have HP := fun w1 => step_any e z t[j] w1
          have hi := aStep_in e z ((t[j]).toNat : Int)
          have hv : z = 9 → aStep e z ((t[j]).toNat : Int) = 9 := fun h => by rw [h]; exact aStep_never _ _
          generalize aStep e z ((t[j]).toNat : Int) = y at *
          replace HP := hid HP
          obtain ⟨i1, i2⟩ := hi
          by_cases hz : z = 9
          · have hy := hv hz
            subst hz
            subst hy
            clear hv
            go_wp2_with fail
            refine (HP.out _).mono ?_
            rintro r w1 ⟨rfl, rfl⟩
            go_wp2_with fail
            go_roundw
            case rel => exact ⟨j + 1, by omega, by go_num, by rw [hn], trivial⟩
            case measure => simp [intOf]; omega
          · have hz2 : (z == 9) = false := by simp [hz]
            clear hv hz
            go_wp2_with fail
            refine (HP.out _).mono ?_
            rintro r w1 ⟨rfl, rfl⟩
            go_wp2_with fail
            go_roundw
            case rel => exact ⟨j + 1, by omega, by go_num, by rw [hn], trivial⟩
            case measure => simp [intOf]; omega
        · have hx : aRun e x (t.data.toList.take j) = aRun e 0 (s ++ t).data.toList := by rw [List.take_of_length_le (by simp; omega), hx2.out, ← aRun_app]; simp
          rw [hx]
          have HA := fun w1 => accepts_any e (s ++ t) w1 (by simp; omega)
          generalize aRun e 0 (s ++ t).data.toList = y at *
          replace HA := hid HA
          clear hx hx2
          by_cases he : 1 ≤ e ∧ e ≤ 6
          · have HI := hid (fun w1 => in_yes e w1 he.1 he.2)
            clear he
            go_wp2_with fail
            refine (HI.out _).mono ?_
            rintro r w1 ⟨rfl, rfl⟩
            go_wp2_with fail
            refine (HA.out _).mono ?_
            rintro r w1 ⟨rfl, rfl⟩
            go_wp2_with fail
            refine (ends_any _ _ _).mono ?_
            rintro r w1 ⟨rfl, rfl⟩
            generalize aEnds e y = v at *
            have hv : (v == v) = true := by simp
            go_wp2_with fail
            refine (autos_keep _).mono ?_
            rintro r w1 ⟨rfl, rfl⟩
            go_wp2_with fail
            go_ret
            exact ⟨rfl, rfl⟩
          · have HI := hid (fun w1 => in_no e w1 he)
            clear he
            go_wp2_with fail
            refine (HI.out _).mono ?_
            rintro r w1 ⟨rfl, rfl⟩
            go_wp2_with fail
            refine (autos_keep _).mono ?_
            rintro r w1 ⟨rfl, rfl⟩
            go_wp2_with fail
            go_ret
            exact ⟨rfl, rfl⟩
theorem neverB_any (e : Int) (s t : ByteArray) (w : World) (hs : s.size ≤ 140737488355328) (ht : t.size ≤ 140737488355328) : Calls Try.prog 11 #[.int .i64 e, .string s, .string t] w fun r w' => r = .returned (.bool true) ∧ Below w.heap.size w w' :=
  (never_any e s t w (by omega) (by omega)).mono fun _ _ ⟨h1, h2⟩ => ⟨h1, h2 ▸ Below.refl _ _⟩
end Go.Proofs.Ytloaemijhggheaa
