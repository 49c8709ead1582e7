/- The walks over auto's functions. -/
import Derived.Test.YtloaemijhggheaaBase
import Derived.Test.YtloaemijhggheaaQM
namespace Go.Proofs.Ytloaemijhggheaa
open Go.RowKit

/-- A call hands back a number and changes nothing. -/
def PI (w : World) (n : Int) (e : Ending) (w' : World) : Prop := e = .returned (.int .i64 n) ∧ w = w'
set_option maxRecDepth 100000 in
set_option maxHeartbeats 1000000 in
theorem within_any (b lo hi nx : Int) (w : World) : Calls Try.prog 82 #[.int .i64 b, .int .i64 lo, .int .i64 hi, .int .i64 nx] w (PI w (aW b lo hi nx)) := by
  go_enter Try.func82, Try.ntmps82
  go_wp2_with fail
  all_goals (go_ret; refine ⟨?_, rfl⟩; (try subst_vars); unfold aW; (repeat (first | rw [if_pos (by omega)] | rw [if_neg (by omega)])); (first | done | rfl))
set_option maxRecDepth 100000 in
set_option maxHeartbeats 1000000 in
theorem wideUnit_any (b x y : Int) (w : World) : Calls Try.prog 87 #[.int .i64 b, .int .i64 x, .int .i64 y] w (PI w (aWU b x y)) := by
  go_enter Try.func87, Try.ntmps87
  go_wp2_with fail
  all_goals (go_ret; refine ⟨?_, rfl⟩; (try subst_vars); unfold aWU; (repeat (first | rw [if_pos (by omega)] | rw [if_neg (by omega)])); (first | done | rfl))
set_option maxRecDepth 100000 in
set_option maxHeartbeats 1000000 in
theorem utfFirst_any (b : Int) (w : World) : Calls Try.prog 81 #[.int .i64 b] w (PI w (aU1 b)) := by
  go_enter Try.func81, Try.ntmps81
  go_wp2_with fail
  all_goals (go_ret; refine ⟨?_, rfl⟩; (try simp only [beq_iff_eq, beq_eq_false_iff_ne, ne_eq] at *); (try subst_vars); unfold aU1; (repeat (first | rw [if_pos (by omega)] | rw [if_neg (by omega)])); (first | done | rfl))
set_option maxRecDepth 100000 in
set_option maxHeartbeats 1000000 in
theorem shiftOne_any (b : Int) (w : World) : Calls Try.prog 83 #[.int .i64 b] w (PI w (aS1 b)) := by
  go_enter Try.func83, Try.ntmps83
  go_wp2_with fail
  all_goals (go_ret; refine ⟨?_, rfl⟩; (try simp only [beq_iff_eq, beq_eq_false_iff_ne, ne_eq] at *); (try subst_vars); unfold aS1; (repeat (first | rw [if_pos (by omega)] | rw [if_neg (by omega)])); (first | done | rfl))
set_option maxRecDepth 100000 in
set_option maxHeartbeats 1000000 in
theorem shiftFirst_any (b : Int) (w : World) : Calls Try.prog 84 #[.int .i64 b] w (PI w (aS2 b)) := by
  go_enter Try.func84, Try.ntmps84
  go_wp2_with (first | (go_at_call 82; refine (within_any _ _ _ _ _).mono ?_; rintro r w1 ⟨rfl, rfl⟩))
  all_goals (go_ret; refine ⟨?_, rfl⟩; (try simp only [beq_iff_eq, beq_eq_false_iff_ne, ne_eq] at *); (try subst_vars); unfold aS2; (repeat (first | rw [if_pos (by omega)] | rw [if_neg (by omega)])); (first | done | rfl))
set_option maxRecDepth 100000 in
set_option maxHeartbeats 1000000 in
theorem shiftMode_any (b : Int) (w : World) : Calls Try.prog 85 #[.int .i64 b] w (PI w (aS3 b)) := by
  go_enter Try.func85, Try.ntmps85
  go_wp2_with fail
  all_goals (go_ret; refine ⟨?_, rfl⟩; (try simp only [beq_iff_eq, beq_eq_false_iff_ne, ne_eq] at *); (try subst_vars); unfold aS3; (repeat (first | rw [if_pos (by omega)] | rw [if_neg (by omega)])); (first | done | rfl))
set_option maxRecDepth 100000 in
set_option maxHeartbeats 1000000 in
theorem twinFirst_any (b : Int) (w : World) : Calls Try.prog 86 #[.int .i64 b] w (PI w (aT1 b)) := by
  go_enter Try.func86, Try.ntmps86
  go_wp2_with (first | (go_at_call 82; refine (within_any _ _ _ _ _).mono ?_; rintro r w1 ⟨rfl, rfl⟩))
  all_goals (go_ret; refine ⟨?_, rfl⟩; (try subst_vars); unfold aT1; (repeat (first | rw [if_pos (by omega)] | rw [if_neg (by omega)])); (first | done | rfl))
set_option maxRecDepth 100000 in
set_option maxHeartbeats 1000000 in
theorem utf_any (s b : Int) (w : World) : Calls Try.prog 51 #[.int .i64 s, .int .i64 b] w (PI w (aU s b)) := by
  go_enter Try.func51, Try.ntmps51
  go_wp2_with (first | (go_at_call 82; refine (within_any _ _ _ _ _).mono ?_; rintro r w1 ⟨rfl, rfl⟩) | (go_at_call 81; refine (utfFirst_any _ _).mono ?_; rintro r w1 ⟨rfl, rfl⟩))
  all_goals (go_ret; refine ⟨?_, rfl⟩; (try simp only [beq_iff_eq, beq_eq_false_iff_ne, ne_eq] at *); (try subst_vars); unfold aU; (repeat (first | rw [if_pos (by omega)] | rw [if_neg (by omega)])); (first | done | rfl))
set_option maxRecDepth 100000 in
set_option maxHeartbeats 1000000 in
theorem shift_any (s b : Int) (w : World) : Calls Try.prog 52 #[.int .i64 s, .int .i64 b] w (PI w (aS s b)) := by
  go_enter Try.func52, Try.ntmps52
  go_wp2_with (first | (go_at_call 82; refine (within_any _ _ _ _ _).mono ?_; rintro r w1 ⟨rfl, rfl⟩) | (go_at_call 83; refine (shiftOne_any _ _).mono ?_; rintro r w1 ⟨rfl, rfl⟩) | (go_at_call 84; refine (shiftFirst_any _ _).mono ?_; rintro r w1 ⟨rfl, rfl⟩) | (go_at_call 85; refine (shiftMode_any _ _).mono ?_; rintro r w1 ⟨rfl, rfl⟩))
  all_goals (go_ret; refine ⟨?_, rfl⟩; (try simp only [beq_iff_eq, beq_eq_false_iff_ne, ne_eq] at *); (try subst_vars); unfold aS; (repeat (first | rw [if_pos (by omega)] | rw [if_neg (by omega)])); (first | done | rfl))
set_option maxRecDepth 100000 in
set_option maxHeartbeats 1000000 in
theorem twin_any (s b : Int) (w : World) : Calls Try.prog 53 #[.int .i64 s, .int .i64 b] w (PI w (aT s b)) := by
  go_enter Try.func53, Try.ntmps53
  go_wp2_with (first | (go_at_call 82; refine (within_any _ _ _ _ _).mono ?_; rintro r w1 ⟨rfl, rfl⟩) | (go_at_call 86; refine (twinFirst_any _ _).mono ?_; rintro r w1 ⟨rfl, rfl⟩))
  all_goals (go_ret; refine ⟨?_, rfl⟩; (try simp only [beq_iff_eq, beq_eq_false_iff_ne, ne_eq] at *); (try subst_vars); unfold aT; (repeat (first | rw [if_pos (by omega)] | rw [if_neg (by omega)])); (first | done | rfl))
set_option maxRecDepth 100000 in
set_option maxHeartbeats 1000000 in
theorem latinA_any (s b : Int) (w : World) : Calls Try.prog 54 #[.int .i64 s, .int .i64 b] w (PI w (aL s b)) := by
  go_enter Try.func54, Try.ntmps54
  go_wp2_with fail
  all_goals (go_ret; refine ⟨?_, rfl⟩; (try simp only [beq_iff_eq, beq_eq_false_iff_ne, bne_iff_ne, bne_eq_false_iff_eq, ne_eq] at *); (try subst_vars); unfold aL; (repeat (first | rw [if_pos (by omega)] | rw [if_neg (by omega)])); (first | done | rfl))
set_option maxRecDepth 100000 in
set_option maxHeartbeats 1000000 in
theorem low_any (s b : Int) (w : World) : Calls Try.prog 55 #[.int .i64 s, .int .i64 b] w (PI w (aLo s b)) := by
  go_enter Try.func55, Try.ntmps55
  go_wp2_with (first | (go_at_call 82; refine (within_any _ _ _ _ _).mono ?_; rintro r w1 ⟨rfl, rfl⟩) | (go_at_call 87; refine (wideUnit_any _ _ _ _).mono ?_; rintro r w1 ⟨rfl, rfl⟩))
  all_goals (go_ret; refine ⟨?_, rfl⟩; (try simp only [beq_iff_eq, beq_eq_false_iff_ne, ne_eq] at *); (try subst_vars); unfold aLo; (repeat (first | rw [if_pos (by omega)] | rw [if_neg (by omega)])); (first | done | rfl))
set_option maxRecDepth 100000 in
set_option maxHeartbeats 1000000 in
theorem high_any (s b : Int) (w : World) : Calls Try.prog 56 #[.int .i64 s, .int .i64 b] w (PI w (aHi s b)) := by
  go_enter Try.func56, Try.ntmps56
  go_wp2_with (first | (go_at_call 82; refine (within_any _ _ _ _ _).mono ?_; rintro r w1 ⟨rfl, rfl⟩) | (go_at_call 87; refine (wideUnit_any _ _ _ _).mono ?_; rintro r w1 ⟨rfl, rfl⟩))
  all_goals (go_ret; refine ⟨?_, rfl⟩; (try simp only [beq_iff_eq, beq_eq_false_iff_ne, ne_eq] at *); (try subst_vars); unfold aHi; (repeat (first | rw [if_pos (by omega)] | rw [if_neg (by omega)])); (first | done | rfl))
set_option maxRecDepth 100000 in
set_option maxHeartbeats 1000000 in
theorem step_any (e s : Int) (b : UInt8) (w : World) : Calls Try.prog 31 #[.int .i64 e, .int .i64 s, .int .i64 (b.toNat : Int)] w (PI w (aStep e s (b.toNat : Int))) := by
  have h1 := nb_lt b
  have h2 := nb_nonneg b
  unfold nb at h1 h2
  generalize (b.toNat : Int) = b at *
  go_enter Try.func31, Try.ntmps31
  go_wp2_with (first | (go_at_call 51; refine (utf_any _ _ _).mono ?_; rintro r w1 ⟨rfl, rfl⟩) | (go_at_call 52; refine (shift_any _ _ _).mono ?_; rintro r w1 ⟨rfl, rfl⟩) | (go_at_call 53; refine (twin_any _ _ _).mono ?_; rintro r w1 ⟨rfl, rfl⟩) | (go_at_call 54; refine (latinA_any _ _ _).mono ?_; rintro r w1 ⟨rfl, rfl⟩) | (go_at_call 55; refine (low_any _ _ _).mono ?_; rintro r w1 ⟨rfl, rfl⟩) | (go_at_call 56; refine (high_any _ _ _).mono ?_; rintro r w1 ⟨rfl, rfl⟩))
  all_goals (go_ret; refine ⟨?_, rfl⟩; (try simp only [beq_iff_eq, beq_eq_false_iff_ne, ne_eq] at *); (try subst_vars); unfold aStep; (repeat (first | rw [if_pos (by omega)] | rw [if_neg (by omega)])); (first | done | rfl))
set_option maxRecDepth 100000 in
set_option maxHeartbeats 1000000 in
theorem ends_any (e s : Int) (w : World) : Calls Try.prog 32 #[.int .i64 e, .int .i64 s] w fun r w' => r = .returned (.bool (aEnds e s)) ∧ w = w' := by
  go_enter Try.func32, Try.ntmps32
  go_wp2_with fail
  all_goals (go_ret; refine ⟨?_, rfl⟩; (try simp only [beq_iff_eq, beq_eq_false_iff_ne, ne_eq] at *); (try subst_vars); unfold aEnds; (repeat (first | rw [if_pos (by omega)] | rw [if_neg (by omega)])); (first | done | rfl | simp [*] | (simp; omega)))
end Go.Proofs.Ytloaemijhggheaa
