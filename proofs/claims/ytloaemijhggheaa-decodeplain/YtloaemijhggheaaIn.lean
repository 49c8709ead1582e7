/- in: whether a number is an encoding's. -/
import Derived.Test.YtloaemijhggheaaBase
namespace Go.Proofs.Ytloaemijhggheaa
open Go.RowKit
set_option maxHeartbeats 400000 in
theorem in_yes (e : Int) (w : World) (h1 : 1 ≤ e) (h2 : e ≤ 6) : Calls Try.prog 22 #[.int .i64 e] w fun r w' => r = .returned (.int .i64 1) ∧ w = w' := by
  go_enter Try.func22, Try.ntmps22
  go_wp2
  go_ret
  exact ⟨rfl, rfl⟩
set_option maxHeartbeats 400000 in
theorem in_low (e : Int) (w : World) (h1 : e < 1) : Calls Try.prog 22 #[.int .i64 e] w fun r w' => r = .returned (.int .i64 0) ∧ w = w' := by
  go_enter Try.func22, Try.ntmps22
  go_wp2
  go_ret
  exact ⟨rfl, rfl⟩
set_option maxHeartbeats 400000 in
theorem in_high (e : Int) (w : World) (h1 : 6 < e) : Calls Try.prog 22 #[.int .i64 e] w fun r w' => r = .returned (.int .i64 0) ∧ w = w' := by
  go_enter Try.func22, Try.ntmps22
  go_wp2
  go_ret
  exact ⟨rfl, rfl⟩
theorem in_no (e : Int) (w : World) (h : ¬ (1 ≤ e ∧ e ≤ 6)) : Calls Try.prog 22 #[.int .i64 e] w fun r w' => r = .returned (.int .i64 0) ∧ w = w' := by
  by_cases h1 : e < 1
  · exact in_low e w h1
  · exact in_high e w (by omega)
end Go.Proofs.Ytloaemijhggheaa
