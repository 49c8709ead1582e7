/- The reference's piece: the closure unit. -/
import Derived.Test.YtloaemijhggheaaPieceT
namespace Go.Proofs.Ytloaemijhggheaa
open Go.RowKit
attribute [local go_sem ↓] run_eqS run_neS
attribute [local go_sem] byte_at0 byte_at20 byte_at21 w64 S.v and63 and31 and15 and7 kw kw256

theorem get_q (s : ByteArray) (i : Int) (a : Addr) (w : World) (x : Int) (hi : 0 ≤ i) (hx : gl s i.toNat = x) (hc : w.cell? a = some (.string s)) : ∀ n, Calls Try.prog 69 #[.int .i64 i, .pointer (some a)] (w.drewN n) fun r w' => r = .returned (.int .i64 x) ∧ w' = w.drewN n :=
  fun n => (get_any s i a (w.drewN n) hi hc).mono fun _ _ ⟨a, b⟩ => ⟨by rw [a, hx], b.symm⟩
set_option maxRecDepth 100000 in
set_option maxHeartbeats 400000 in
theorem unit0_none (e : Int) (x y : Int) (ga ea sa : Addr) (w : World) (hg : w.cell? ga = some (.func (.func 69) #[] #[.pointer (some sa)])) (_he : w.cell? ea = some (.int .i64 e))
    (H1 : Hid (∀ n, Calls Try.prog 69 #[.int .i64 0, .pointer (some sa)] (w.drewN n) fun r w' => r = .returned (.int .i64 x) ∧ w' = w.drewN n))
    (H2 : Hid (∀ n, Calls Try.prog 69 #[.int .i64 1, .pointer (some sa)] (w.drewN n) fun r w' => r = .returned (.int .i64 y) ∧ w' = w.drewN n)) (hn : x < 0 ∨ y < 0) :
    Calls Try.prog 72 #[.int .i64 0, .pointer (some ga), .pointer (some ea)] w fun r w' => r = .returned (.int .i64 (-1)) ∧ ∃ n, w' = w.drewN n := by
  obtain h3 | ⟨h3, h4⟩ : x < 0 ∨ (¬ x < 0 ∧ y < 0) := by omega
  all_goals
    clear hn
    go_enter Try.func72, Try.ntmps72
    go_wp2_with fail
    go_quiet ((first | (go_at_call_of 69 (Value.int .i64 0); exact Calls.quiet_of_same (H1.out _)) | (go_at_call_of 69 (Value.int .i64 1); exact Calls.quiet_of_same (H2.out _))))
    go_wp2_with fail
    go_ret
    exact ⟨rfl, _, rfl⟩
set_option maxRecDepth 100000 in
set_option maxHeartbeats 400000 in
theorem unit0_low (e : Int) (x y : Int) (ga ea sa : Addr) (w : World) (hg : w.cell? ga = some (.func (.func 69) #[] #[.pointer (some sa)])) (he : w.cell? ea = some (.int .i64 e))
    (H1 : Hid (∀ n, Calls Try.prog 69 #[.int .i64 0, .pointer (some sa)] (w.drewN n) fun r w' => r = .returned (.int .i64 x) ∧ w' = w.drewN n))
    (H2 : Hid (∀ n, Calls Try.prog 69 #[.int .i64 1, .pointer (some sa)] (w.drewN n) fun r w' => r = .returned (.int .i64 y) ∧ w' = w.drewN n)) (h5 : (e == 5) = true) (x0 : 0 ≤ x) (x1 : x ≤ 255) (y0 : 0 ≤ y) (y1 : y ≤ 255) :
    Calls Try.prog 72 #[.int .i64 0, .pointer (some ga), .pointer (some ea)] w fun r w' => r = .returned (.int .i64 (256 * y + x)) ∧ ∃ n, w' = w.drewN n := by
  iterate 1
    go_enter Try.func72, Try.ntmps72
    go_wp2_with fail
    go_quiet ((first | (go_at_call_of 69 (Value.int .i64 0); exact Calls.quiet_of_same (H1.out _)) | (go_at_call_of 69 (Value.int .i64 1); exact Calls.quiet_of_same (H2.out _))))
    go_wp2_with fail
    go_ret
    exact ⟨rfl, _, rfl⟩
set_option maxRecDepth 100000 in
set_option maxHeartbeats 400000 in
theorem unit0_high (e : Int) (x y : Int) (ga ea sa : Addr) (w : World) (hg : w.cell? ga = some (.func (.func 69) #[] #[.pointer (some sa)])) (he : w.cell? ea = some (.int .i64 e))
    (H1 : Hid (∀ n, Calls Try.prog 69 #[.int .i64 0, .pointer (some sa)] (w.drewN n) fun r w' => r = .returned (.int .i64 x) ∧ w' = w.drewN n))
    (H2 : Hid (∀ n, Calls Try.prog 69 #[.int .i64 1, .pointer (some sa)] (w.drewN n) fun r w' => r = .returned (.int .i64 y) ∧ w' = w.drewN n)) (h5 : (e == 5) = false) (x0 : 0 ≤ x) (x1 : x ≤ 255) (y0 : 0 ≤ y) (y1 : y ≤ 255) :
    Calls Try.prog 72 #[.int .i64 0, .pointer (some ga), .pointer (some ea)] w fun r w' => r = .returned (.int .i64 (256 * x + y)) ∧ ∃ n, w' = w.drewN n := by
  iterate 1
    go_enter Try.func72, Try.ntmps72
    go_wp2_with fail
    go_quiet ((first | (go_at_call_of 69 (Value.int .i64 0); exact Calls.quiet_of_same (H1.out _)) | (go_at_call_of 69 (Value.int .i64 1); exact Calls.quiet_of_same (H2.out _))))
    go_wp2_with fail
    go_ret
    exact ⟨rfl, _, rfl⟩
set_option maxRecDepth 100000 in
set_option maxHeartbeats 400000 in
theorem unit2_none (e : Int) (x y : Int) (ga ea sa : Addr) (w : World) (hg : w.cell? ga = some (.func (.func 69) #[] #[.pointer (some sa)])) (_he : w.cell? ea = some (.int .i64 e))
    (H1 : Hid (∀ n, Calls Try.prog 69 #[.int .i64 2, .pointer (some sa)] (w.drewN n) fun r w' => r = .returned (.int .i64 x) ∧ w' = w.drewN n))
    (H2 : Hid (∀ n, Calls Try.prog 69 #[.int .i64 3, .pointer (some sa)] (w.drewN n) fun r w' => r = .returned (.int .i64 y) ∧ w' = w.drewN n)) (hn : x < 0 ∨ y < 0) :
    Calls Try.prog 72 #[.int .i64 2, .pointer (some ga), .pointer (some ea)] w fun r w' => r = .returned (.int .i64 (-1)) ∧ ∃ n, w' = w.drewN n := by
  obtain h3 | ⟨h3, h4⟩ : x < 0 ∨ (¬ x < 0 ∧ y < 0) := by omega
  all_goals
    clear hn
    go_enter Try.func72, Try.ntmps72
    go_wp2_with fail
    go_quiet ((first | (go_at_call_of 69 (Value.int .i64 2); exact Calls.quiet_of_same (H1.out _)) | (go_at_call_of 69 (Value.int .i64 3); exact Calls.quiet_of_same (H2.out _))))
    go_wp2_with fail
    go_ret
    exact ⟨rfl, _, rfl⟩
set_option maxRecDepth 100000 in
set_option maxHeartbeats 400000 in
theorem unit2_low (e : Int) (x y : Int) (ga ea sa : Addr) (w : World) (hg : w.cell? ga = some (.func (.func 69) #[] #[.pointer (some sa)])) (he : w.cell? ea = some (.int .i64 e))
    (H1 : Hid (∀ n, Calls Try.prog 69 #[.int .i64 2, .pointer (some sa)] (w.drewN n) fun r w' => r = .returned (.int .i64 x) ∧ w' = w.drewN n))
    (H2 : Hid (∀ n, Calls Try.prog 69 #[.int .i64 3, .pointer (some sa)] (w.drewN n) fun r w' => r = .returned (.int .i64 y) ∧ w' = w.drewN n)) (h5 : (e == 5) = true) (x0 : 0 ≤ x) (x1 : x ≤ 255) (y0 : 0 ≤ y) (y1 : y ≤ 255) :
    Calls Try.prog 72 #[.int .i64 2, .pointer (some ga), .pointer (some ea)] w fun r w' => r = .returned (.int .i64 (256 * y + x)) ∧ ∃ n, w' = w.drewN n := by
  iterate 1
    go_enter Try.func72, Try.ntmps72
    go_wp2_with fail
    go_quiet ((first | (go_at_call_of 69 (Value.int .i64 2); exact Calls.quiet_of_same (H1.out _)) | (go_at_call_of 69 (Value.int .i64 3); exact Calls.quiet_of_same (H2.out _))))
    go_wp2_with fail
    go_ret
    exact ⟨rfl, _, rfl⟩
set_option maxRecDepth 100000 in
set_option maxHeartbeats 400000 in
theorem unit2_high (e : Int) (x y : Int) (ga ea sa : Addr) (w : World) (hg : w.cell? ga = some (.func (.func 69) #[] #[.pointer (some sa)])) (he : w.cell? ea = some (.int .i64 e))
    (H1 : Hid (∀ n, Calls Try.prog 69 #[.int .i64 2, .pointer (some sa)] (w.drewN n) fun r w' => r = .returned (.int .i64 x) ∧ w' = w.drewN n))
    (H2 : Hid (∀ n, Calls Try.prog 69 #[.int .i64 3, .pointer (some sa)] (w.drewN n) fun r w' => r = .returned (.int .i64 y) ∧ w' = w.drewN n)) (h5 : (e == 5) = false) (x0 : 0 ≤ x) (x1 : x ≤ 255) (y0 : 0 ≤ y) (y1 : y ≤ 255) :
    Calls Try.prog 72 #[.int .i64 2, .pointer (some ga), .pointer (some ea)] w fun r w' => r = .returned (.int .i64 (256 * x + y)) ∧ ∃ n, w' = w.drewN n := by
  iterate 1
    go_enter Try.func72, Try.ntmps72
    go_wp2_with fail
    go_quiet ((first | (go_at_call_of 69 (Value.int .i64 2); exact Calls.quiet_of_same (H1.out _)) | (go_at_call_of 69 (Value.int .i64 3); exact Calls.quiet_of_same (H2.out _))))
    go_wp2_with fail
    go_ret
    exact ⟨rfl, _, rfl⟩
end Go.Proofs.Ytloaemijhggheaa
