/- The walks over the reference: marks. -/
import Derived.Test.YtbnjhcdgiieghaaDoorSnLaw
import Derived.Test.YtbnjhcdgiieghaaDoorLFindRef
namespace Go.Proofs.YtbnjhcdgiieghaaDoor
open Go.RowKit

set_option maxRecDepth 100000 in
set_option maxHeartbeats 1000000 in
theorem markOf_any (s : ByteArray) (w : World) : Calls Tryd.prog 18 #[.string s] w fun e w' => e = .returned (.tuple #[.int .i64 (markL s.data.toList).1, .int .i64 (markL s.data.toList).2]) ∧ w' = w := by
  have H0 := hid (fun w1 => hasPrefix_c s ⟨#[239, 187, 191]⟩ w1)
  have H1 := hid (fun w1 => hasPrefix_c s ⟨#[255, 254]⟩ w1)
  have H2 := hid (fun w1 => hasPrefix_c s ⟨#[254, 255]⟩ w1)
  change Hid (∀ w1, Calls _ _ _ w1 fun e w' => e = .returned (.bool (Lib.hasPrefix s.data.toList [239, 187, 191])) ∧ w' = w1) at H0
  change Hid (∀ w1, Calls _ _ _ w1 fun e w' => e = .returned (.bool (Lib.hasPrefix s.data.toList [255, 254])) ∧ w' = w1) at H1
  change Hid (∀ w1, Calls _ _ _ w1 fun e w' => e = .returned (.bool (Lib.hasPrefix s.data.toList [254, 255])) ∧ w' = w1) at H2
  rw [markB_eq]
  generalize Lib.hasPrefix s.data.toList [239, 187, 191] = b0 at H0 ⊢
  generalize Lib.hasPrefix s.data.toList [255, 254] = b1 at H1 ⊢
  generalize Lib.hasPrefix s.data.toList [254, 255] = b2 at H2 ⊢
  go_enter Tryd.func18, Tryd.ntmps18
  go_wp2_with fail
  refine (H0.out _).mono ?_
  rintro e _ ⟨rfl, rfl⟩
  cases b0 with
  | true =>
    go_wp2_with fail
    go_ret2
    exact ⟨rfl, rfl⟩
  | false =>
    go_wp2_with fail
    refine (H1.out _).mono ?_
    rintro e _ ⟨rfl, rfl⟩
    cases b1 with
    | true =>
      go_wp2_with fail
      go_ret2
      exact ⟨rfl, rfl⟩
    | false =>
      go_wp2_with fail
      refine (H2.out _).mono ?_
      rintro e _ ⟨rfl, rfl⟩
      cases b2 with
      | true =>
        go_wp2_with fail
        go_ret2
        exact ⟨rfl, rfl⟩
      | false =>
        go_wp2_with fail
        go_ret2
        exact ⟨rfl, rfl⟩
set_option maxRecDepth 100000 in
set_option maxHeartbeats 1000000 in
theorem mayBe_any (s : ByteArray) (w : World) : Calls Tryd.prog 22 #[.string s] w fun e w' => e = .returned (.bool (mayL s.data.toList)) ∧ w' = w := by
  have HM : Hid (mayL s.data.toList = (s.toList == [] || s.toList == [239] || s.toList == [239, 187] || s.toList == [255] || s.toList == [254])) := by
    show _ = _
    rw [Lib.toList_data]; rfl
  go_enter Tryd.func22, Tryd.ntmps22
  go_wp2_with fail
  all_goals
    go_ret
    refine ⟨?_, rfl⟩
    rw [HM.out]
    simp [*]
end Go.Proofs.YtbnjhcdgiieghaaDoor
