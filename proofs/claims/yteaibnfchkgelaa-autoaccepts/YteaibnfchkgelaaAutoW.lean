/- The walks over auto's functions. -/
import Derived.Test.YteaibnfchkgelaaBase
import Derived.Test.YteaibnfchkgelaaAutoM
namespace Go.Proofs.Yteaibnfchkgelaa
open Go.RowKit

/-- A call hands back a number and changes nothing. -/
def PI (w : World) (n : Int) (e : Ending) (w' : World) : Prop := e = .returned (.int .i64 n) ∧ w = w'
set_option maxRecDepth 100000 in
set_option maxHeartbeats 1000000 in
theorem within_any (b lo hi nx : Int) (w : World) : Calls Try.prog 40 #[.int .i64 b, .int .i64 lo, .int .i64 hi, .int .i64 nx] w (PI w (aW b lo hi nx)) := by
  go_enter Try.func40, Try.ntmps40
  go_wp2_with fail
  all_goals (go_ret; refine ⟨?_, rfl⟩; (try simp only [beq_iff_eq, beq_eq_false_iff_ne, bne_iff_ne, bne_eq_false_iff_eq, ne_eq] at *); (try subst_vars); unfold aW; (repeat (first | rw [if_pos (by omega)] | rw [if_neg (by omega)])); (first | done | rfl))
set_option maxRecDepth 100000 in
set_option maxHeartbeats 1000000 in
theorem wideUnit_any (b x y : Int) (w : World) : Calls Try.prog 45 #[.int .i64 b, .int .i64 x, .int .i64 y] w (PI w (aWU b x y)) := by
  go_enter Try.func45, Try.ntmps45
  go_wp2_with fail
  all_goals (go_ret; refine ⟨?_, rfl⟩; (try simp only [beq_iff_eq, beq_eq_false_iff_ne, bne_iff_ne, bne_eq_false_iff_eq, ne_eq] at *); (try subst_vars); unfold aWU; (repeat (first | rw [if_pos (by omega)] | rw [if_neg (by omega)])); (first | done | rfl))
set_option maxRecDepth 100000 in
set_option maxHeartbeats 1000000 in
theorem utfFirst_any (b : Int) (w : World) : Calls Try.prog 39 #[.int .i64 b] w (PI w (aU1 b)) := by
  go_enter Try.func39, Try.ntmps39
  go_wp2_with fail
  all_goals (go_ret; refine ⟨?_, rfl⟩; (try simp only [beq_iff_eq, beq_eq_false_iff_ne, bne_iff_ne, bne_eq_false_iff_eq, ne_eq] at *); (try subst_vars); unfold aU1; (repeat (first | rw [if_pos (by omega)] | rw [if_neg (by omega)])); (first | done | rfl))
set_option maxRecDepth 100000 in
set_option maxHeartbeats 1000000 in
theorem shiftOne_any (b : Int) (w : World) : Calls Try.prog 41 #[.int .i64 b] w (PI w (aS1 b)) := by
  go_enter Try.func41, Try.ntmps41
  go_wp2_with fail
  all_goals (go_ret; refine ⟨?_, rfl⟩; (try simp only [beq_iff_eq, beq_eq_false_iff_ne, bne_iff_ne, bne_eq_false_iff_eq, ne_eq] at *); (try subst_vars); unfold aS1; (repeat (first | rw [if_pos (by omega)] | rw [if_neg (by omega)])); (first | done | rfl))
set_option maxRecDepth 100000 in
set_option maxHeartbeats 1000000 in
theorem shiftFirst_any (b : Int) (w : World) : Calls Try.prog 42 #[.int .i64 b] w (PI w (aS2 b)) := by
  go_enter Try.func42, Try.ntmps42
  go_wp2_with (first | (go_at_call 40; refine (within_any _ _ _ _ _).mono ?_; rintro r w1 ⟨rfl, rfl⟩))
  all_goals (go_ret; refine ⟨?_, rfl⟩; (try simp only [beq_iff_eq, beq_eq_false_iff_ne, bne_iff_ne, bne_eq_false_iff_eq, ne_eq] at *); (try subst_vars); unfold aS2; (repeat (first | rw [if_pos (by omega)] | rw [if_neg (by omega)])); (first | done | rfl))
set_option maxRecDepth 100000 in
set_option maxHeartbeats 1000000 in
theorem shiftMode_any (b : Int) (w : World) : Calls Try.prog 43 #[.int .i64 b] w (PI w (aS3 b)) := by
  go_enter Try.func43, Try.ntmps43
  go_wp2_with fail
  all_goals (go_ret; refine ⟨?_, rfl⟩; (try simp only [beq_iff_eq, beq_eq_false_iff_ne, bne_iff_ne, bne_eq_false_iff_eq, ne_eq] at *); (try subst_vars); unfold aS3; (repeat (first | rw [if_pos (by omega)] | rw [if_neg (by omega)])); (first | done | rfl))
set_option maxRecDepth 100000 in
set_option maxHeartbeats 1000000 in
theorem twinFirst_any (b : Int) (w : World) : Calls Try.prog 44 #[.int .i64 b] w (PI w (aT1 b)) := by
  go_enter Try.func44, Try.ntmps44
  go_wp2_with (first | (go_at_call 40; refine (within_any _ _ _ _ _).mono ?_; rintro r w1 ⟨rfl, rfl⟩))
  all_goals (go_ret; refine ⟨?_, rfl⟩; (try simp only [beq_iff_eq, beq_eq_false_iff_ne, bne_iff_ne, bne_eq_false_iff_eq, ne_eq] at *); (try subst_vars); unfold aT1; (repeat (first | rw [if_pos (by omega)] | rw [if_neg (by omega)])); (first | done | rfl))
set_option maxRecDepth 100000 in
set_option maxHeartbeats 1000000 in
theorem utf_any (s b : Int) (w : World) : Calls Try.prog 22 #[.int .i64 s, .int .i64 b] w (PI w (aU s b)) := by
  go_enter Try.func22, Try.ntmps22
  go_wp2_with (first | (go_at_call 40; refine (within_any _ _ _ _ _).mono ?_; rintro r w1 ⟨rfl, rfl⟩) | (go_at_call 39; refine (utfFirst_any _ _).mono ?_; rintro r w1 ⟨rfl, rfl⟩))
  all_goals (go_ret; refine ⟨?_, rfl⟩; (try simp only [beq_iff_eq, beq_eq_false_iff_ne, bne_iff_ne, bne_eq_false_iff_eq, ne_eq] at *); (try subst_vars); unfold aU; (repeat (first | rw [if_pos (by omega)] | rw [if_neg (by omega)])); (first | done | rfl))
set_option maxRecDepth 100000 in
set_option maxHeartbeats 1000000 in
theorem shift_any (s b : Int) (w : World) : Calls Try.prog 23 #[.int .i64 s, .int .i64 b] w (PI w (aS s b)) := by
  go_enter Try.func23, Try.ntmps23
  go_wp2_with (first | (go_at_call 40; refine (within_any _ _ _ _ _).mono ?_; rintro r w1 ⟨rfl, rfl⟩) | (go_at_call 41; refine (shiftOne_any _ _).mono ?_; rintro r w1 ⟨rfl, rfl⟩) | (go_at_call 42; refine (shiftFirst_any _ _).mono ?_; rintro r w1 ⟨rfl, rfl⟩) | (go_at_call 43; refine (shiftMode_any _ _).mono ?_; rintro r w1 ⟨rfl, rfl⟩))
  all_goals (go_ret; refine ⟨?_, rfl⟩; (try simp only [beq_iff_eq, beq_eq_false_iff_ne, bne_iff_ne, bne_eq_false_iff_eq, ne_eq] at *); (try subst_vars); unfold aS; (repeat (first | rw [if_pos (by omega)] | rw [if_neg (by omega)])); (first | done | rfl))
set_option maxRecDepth 100000 in
set_option maxHeartbeats 1000000 in
theorem twin_any (s b : Int) (w : World) : Calls Try.prog 24 #[.int .i64 s, .int .i64 b] w (PI w (aT s b)) := by
  go_enter Try.func24, Try.ntmps24
  go_wp2_with (first | (go_at_call 40; refine (within_any _ _ _ _ _).mono ?_; rintro r w1 ⟨rfl, rfl⟩) | (go_at_call 44; refine (twinFirst_any _ _).mono ?_; rintro r w1 ⟨rfl, rfl⟩))
  all_goals (go_ret; refine ⟨?_, rfl⟩; (try simp only [beq_iff_eq, beq_eq_false_iff_ne, bne_iff_ne, bne_eq_false_iff_eq, ne_eq] at *); (try subst_vars); unfold aT; (repeat (first | rw [if_pos (by omega)] | rw [if_neg (by omega)])); (first | done | rfl))
set_option maxRecDepth 100000 in
set_option maxHeartbeats 1000000 in
theorem latinA_any (s b : Int) (w : World) : Calls Try.prog 25 #[.int .i64 s, .int .i64 b] w (PI w (aL s b)) := by
  go_enter Try.func25, Try.ntmps25
  go_wp2_with fail
  all_goals (go_ret; refine ⟨?_, rfl⟩; (try simp only [beq_iff_eq, beq_eq_false_iff_ne, bne_iff_ne, bne_eq_false_iff_eq, ne_eq] at *); (try subst_vars); unfold aL; (repeat (first | rw [if_pos (by omega)] | rw [if_neg (by omega)])); (first | done | rfl))
set_option maxRecDepth 100000 in
set_option maxHeartbeats 1000000 in
theorem low_any (s b : Int) (w : World) : Calls Try.prog 26 #[.int .i64 s, .int .i64 b] w (PI w (aLo s b)) := by
  go_enter Try.func26, Try.ntmps26
  go_wp2_with (first | (go_at_call 40; refine (within_any _ _ _ _ _).mono ?_; rintro r w1 ⟨rfl, rfl⟩) | (go_at_call 45; refine (wideUnit_any _ _ _ _).mono ?_; rintro r w1 ⟨rfl, rfl⟩))
  all_goals (go_ret; refine ⟨?_, rfl⟩; (try simp only [beq_iff_eq, beq_eq_false_iff_ne, bne_iff_ne, bne_eq_false_iff_eq, ne_eq] at *); (try subst_vars); unfold aLo; (repeat (first | rw [if_pos (by omega)] | rw [if_neg (by omega)])); (first | done | rfl))
set_option maxRecDepth 100000 in
set_option maxHeartbeats 1000000 in
theorem high_any (s b : Int) (w : World) : Calls Try.prog 27 #[.int .i64 s, .int .i64 b] w (PI w (aHi s b)) := by
  go_enter Try.func27, Try.ntmps27
  go_wp2_with (first | (go_at_call 40; refine (within_any _ _ _ _ _).mono ?_; rintro r w1 ⟨rfl, rfl⟩) | (go_at_call 45; refine (wideUnit_any _ _ _ _).mono ?_; rintro r w1 ⟨rfl, rfl⟩))
  all_goals (go_ret; refine ⟨?_, rfl⟩; (try simp only [beq_iff_eq, beq_eq_false_iff_ne, bne_iff_ne, bne_eq_false_iff_eq, ne_eq] at *); (try subst_vars); unfold aHi; (repeat (first | rw [if_pos (by omega)] | rw [if_neg (by omega)])); (first | done | rfl))
set_option maxRecDepth 100000 in
set_option maxHeartbeats 1000000 in
theorem step_any (e s : Int) (b : UInt8) (w : World) : Calls Try.prog 16 #[.int .i64 e, .int .i64 s, .int .i64 (b.toNat : Int)] w (PI w (aStep e s (b.toNat : Int))) := by
  have h1 := nb_lt b
  have h2 := nb_nonneg b
  unfold nb at h1 h2
  generalize (b.toNat : Int) = b at *
  go_enter Try.func16, Try.ntmps16
  go_wp2_with (first | (go_at_call 22; refine (utf_any _ _ _).mono ?_; rintro r w1 ⟨rfl, rfl⟩) | (go_at_call 23; refine (shift_any _ _ _).mono ?_; rintro r w1 ⟨rfl, rfl⟩) | (go_at_call 24; refine (twin_any _ _ _).mono ?_; rintro r w1 ⟨rfl, rfl⟩) | (go_at_call 25; refine (latinA_any _ _ _).mono ?_; rintro r w1 ⟨rfl, rfl⟩) | (go_at_call 26; refine (low_any _ _ _).mono ?_; rintro r w1 ⟨rfl, rfl⟩) | (go_at_call 27; refine (high_any _ _ _).mono ?_; rintro r w1 ⟨rfl, rfl⟩))
  all_goals (go_ret; refine ⟨?_, rfl⟩; (try simp only [beq_iff_eq, beq_eq_false_iff_ne, bne_iff_ne, bne_eq_false_iff_eq, ne_eq] at *); (try subst_vars); unfold aStep; (repeat (first | rw [if_pos (by omega)] | rw [if_neg (by omega)])); (first | done | rfl))
set_option maxRecDepth 100000 in
set_option maxHeartbeats 1000000 in
theorem ends_any (e s : Int) (w : World) : Calls Try.prog 18 #[.int .i64 e, .int .i64 s] w fun r w' => r = .returned (.bool (aEnds e s)) ∧ w = w' := by
  go_enter Try.func18, Try.ntmps18
  go_wp2_with fail
  all_goals (go_ret; refine ⟨?_, rfl⟩; (try simp only [beq_iff_eq, beq_eq_false_iff_ne, bne_iff_ne, bne_eq_false_iff_eq, ne_eq] at *); (try subst_vars); unfold aEnds; (repeat (first | rw [if_pos (by omega)] | rw [if_neg (by omega)])); (first | done | rfl | simp [*] | (simp; omega)))
end Go.Proofs.Yteaibnfchkgelaa
