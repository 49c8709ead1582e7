/- The walks over auto's functions. -/
import Derived.Test.YtmdnpgcnbpppfaaGreatDoorBase
import Derived.Test.YtmdnpgcnbpppfaaGreatDoorQM
namespace Go.Proofs.YtmdnpgcnbpppfaaGreatDoor
open Go.RowKit

/-- A call hands back a number and changes nothing. -/
def PI (w : World) (n : Int) (e : Ending) (w' : World) : Prop := e = .returned (.int .i64 n) ∧ w = w'
set_option maxRecDepth 100000 in
set_option maxHeartbeats 1000000 in
theorem within_any (b lo hi nx : Int) (w : World) : Calls Tryz.prog 110 #[.int .i64 b, .int .i64 lo, .int .i64 hi, .int .i64 nx] w (PI w (aW b lo hi nx)) := by
  go_enter Tryz.func110, Tryz.ntmps110
  go_wp2_with fail
  all_goals (go_ret; refine ⟨?_, rfl⟩; (try subst_vars); unfold aW; (repeat (first | rw [if_pos (by omega)] | rw [if_neg (by omega)])); (first | done | rfl))
set_option maxRecDepth 100000 in
set_option maxHeartbeats 1000000 in
theorem wideUnit_any (b x y : Int) (w : World) : Calls Tryz.prog 115 #[.int .i64 b, .int .i64 x, .int .i64 y] w (PI w (aWU b x y)) := by
  go_enter Tryz.func115, Tryz.ntmps115
  go_wp2_with fail
  all_goals (go_ret; refine ⟨?_, rfl⟩; (try subst_vars); unfold aWU; (repeat (first | rw [if_pos (by omega)] | rw [if_neg (by omega)])); (first | done | rfl))
set_option maxRecDepth 100000 in
set_option maxHeartbeats 1000000 in
theorem utfFirst_any (b : Int) (w : World) : Calls Tryz.prog 109 #[.int .i64 b] w (PI w (aU1 b)) := by
  go_enter Tryz.func109, Tryz.ntmps109
  go_wp2_with fail
  all_goals (go_ret; refine ⟨?_, rfl⟩; (try simp only [beq_iff_eq, beq_eq_false_iff_ne, ne_eq] at *); (try subst_vars); unfold aU1; (repeat (first | rw [if_pos (by omega)] | rw [if_neg (by omega)])); (first | done | rfl))
set_option maxRecDepth 100000 in
set_option maxHeartbeats 1000000 in
theorem shiftOne_any (b : Int) (w : World) : Calls Tryz.prog 111 #[.int .i64 b] w (PI w (aS1 b)) := by
  go_enter Tryz.func111, Tryz.ntmps111
  go_wp2_with fail
  all_goals (go_ret; refine ⟨?_, rfl⟩; (try simp only [beq_iff_eq, beq_eq_false_iff_ne, ne_eq] at *); (try subst_vars); unfold aS1; (repeat (first | rw [if_pos (by omega)] | rw [if_neg (by omega)])); (first | done | rfl))
set_option maxRecDepth 100000 in
set_option maxHeartbeats 1000000 in
theorem shiftFirst_any (b : Int) (w : World) : Calls Tryz.prog 112 #[.int .i64 b] w (PI w (aS2 b)) := by
  go_enter Tryz.func112, Tryz.ntmps112
  go_wp2_with (first | (go_at_call 110; refine (within_any _ _ _ _ _).mono ?_; rintro r w1 ⟨rfl, rfl⟩))
  all_goals (go_ret; refine ⟨?_, rfl⟩; (try simp only [beq_iff_eq, beq_eq_false_iff_ne, ne_eq] at *); (try subst_vars); unfold aS2; (repeat (first | rw [if_pos (by omega)] | rw [if_neg (by omega)])); (first | done | rfl))
set_option maxRecDepth 100000 in
set_option maxHeartbeats 1000000 in
theorem shiftMode_any (b : Int) (w : World) : Calls Tryz.prog 113 #[.int .i64 b] w (PI w (aS3 b)) := by
  go_enter Tryz.func113, Tryz.ntmps113
  go_wp2_with fail
  all_goals (go_ret; refine ⟨?_, rfl⟩; (try simp only [beq_iff_eq, beq_eq_false_iff_ne, ne_eq] at *); (try subst_vars); unfold aS3; (repeat (first | rw [if_pos (by omega)] | rw [if_neg (by omega)])); (first | done | rfl))
set_option maxRecDepth 100000 in
set_option maxHeartbeats 1000000 in
theorem twinFirst_any (b : Int) (w : World) : Calls Tryz.prog 114 #[.int .i64 b] w (PI w (aT1 b)) := by
  go_enter Tryz.func114, Tryz.ntmps114
  go_wp2_with (first | (go_at_call 110; refine (within_any _ _ _ _ _).mono ?_; rintro r w1 ⟨rfl, rfl⟩))
  all_goals (go_ret; refine ⟨?_, rfl⟩; (try subst_vars); unfold aT1; (repeat (first | rw [if_pos (by omega)] | rw [if_neg (by omega)])); (first | done | rfl))
set_option maxRecDepth 100000 in
set_option maxHeartbeats 1000000 in
theorem utf_any (s b : Int) (w : World) : Calls Tryz.prog 78 #[.int .i64 s, .int .i64 b] w (PI w (aU s b)) := by
  go_enter Tryz.func78, Tryz.ntmps78
  go_wp2_with (first | (go_at_call 110; refine (within_any _ _ _ _ _).mono ?_; rintro r w1 ⟨rfl, rfl⟩) | (go_at_call 109; refine (utfFirst_any _ _).mono ?_; rintro r w1 ⟨rfl, rfl⟩))
  all_goals (go_ret; refine ⟨?_, rfl⟩; (try simp only [beq_iff_eq, beq_eq_false_iff_ne, ne_eq] at *); (try subst_vars); unfold aU; (repeat (first | rw [if_pos (by omega)] | rw [if_neg (by omega)])); (first | done | rfl))
set_option maxRecDepth 100000 in
set_option maxHeartbeats 1000000 in
theorem shift_any (s b : Int) (w : World) : Calls Tryz.prog 79 #[.int .i64 s, .int .i64 b] w (PI w (aS s b)) := by
  go_enter Tryz.func79, Tryz.ntmps79
  go_wp2_with (first | (go_at_call 110; refine (within_any _ _ _ _ _).mono ?_; rintro r w1 ⟨rfl, rfl⟩) | (go_at_call 111; refine (shiftOne_any _ _).mono ?_; rintro r w1 ⟨rfl, rfl⟩) | (go_at_call 112; refine (shiftFirst_any _ _).mono ?_; rintro r w1 ⟨rfl, rfl⟩) | (go_at_call 113; refine (shiftMode_any _ _).mono ?_; rintro r w1 ⟨rfl, rfl⟩))
  all_goals (go_ret; refine ⟨?_, rfl⟩; (try simp only [beq_iff_eq, beq_eq_false_iff_ne, ne_eq] at *); (try subst_vars); unfold aS; (repeat (first | rw [if_pos (by omega)] | rw [if_neg (by omega)])); (first | done | rfl))
set_option maxRecDepth 100000 in
set_option maxHeartbeats 1000000 in
theorem twin_any (s b : Int) (w : World) : Calls Tryz.prog 80 #[.int .i64 s, .int .i64 b] w (PI w (aT s b)) := by
  go_enter Tryz.func80, Tryz.ntmps80
  go_wp2_with (first | (go_at_call 110; refine (within_any _ _ _ _ _).mono ?_; rintro r w1 ⟨rfl, rfl⟩) | (go_at_call 114; refine (twinFirst_any _ _).mono ?_; rintro r w1 ⟨rfl, rfl⟩))
  all_goals (go_ret; refine ⟨?_, rfl⟩; (try simp only [beq_iff_eq, beq_eq_false_iff_ne, ne_eq] at *); (try subst_vars); unfold aT; (repeat (first | rw [if_pos (by omega)] | rw [if_neg (by omega)])); (first | done | rfl))
set_option maxRecDepth 100000 in
set_option maxHeartbeats 1000000 in
theorem latinA_any (s b : Int) (w : World) : Calls Tryz.prog 81 #[.int .i64 s, .int .i64 b] w (PI w (aL s b)) := by
  go_enter Tryz.func81, Tryz.ntmps81
  go_wp2_with fail
  all_goals (go_ret; refine ⟨?_, rfl⟩; (try simp only [beq_iff_eq, beq_eq_false_iff_ne, bne_iff_ne, bne_eq_false_iff_eq, ne_eq] at *); (try subst_vars); unfold aL; (repeat (first | rw [if_pos (by omega)] | rw [if_neg (by omega)])); (first | done | rfl))
set_option maxRecDepth 100000 in
set_option maxHeartbeats 1000000 in
theorem low_any (s b : Int) (w : World) : Calls Tryz.prog 82 #[.int .i64 s, .int .i64 b] w (PI w (aLo s b)) := by
  go_enter Tryz.func82, Tryz.ntmps82
  go_wp2_with (first | (go_at_call 110; refine (within_any _ _ _ _ _).mono ?_; rintro r w1 ⟨rfl, rfl⟩) | (go_at_call 115; refine (wideUnit_any _ _ _ _).mono ?_; rintro r w1 ⟨rfl, rfl⟩))
  all_goals (go_ret; refine ⟨?_, rfl⟩; (try simp only [beq_iff_eq, beq_eq_false_iff_ne, ne_eq] at *); (try subst_vars); unfold aLo; (repeat (first | rw [if_pos (by omega)] | rw [if_neg (by omega)])); (first | done | rfl))
set_option maxRecDepth 100000 in
set_option maxHeartbeats 1000000 in
theorem high_any (s b : Int) (w : World) : Calls Tryz.prog 83 #[.int .i64 s, .int .i64 b] w (PI w (aHi s b)) := by
  go_enter Tryz.func83, Tryz.ntmps83
  go_wp2_with (first | (go_at_call 110; refine (within_any _ _ _ _ _).mono ?_; rintro r w1 ⟨rfl, rfl⟩) | (go_at_call 115; refine (wideUnit_any _ _ _ _).mono ?_; rintro r w1 ⟨rfl, rfl⟩))
  all_goals (go_ret; refine ⟨?_, rfl⟩; (try simp only [beq_iff_eq, beq_eq_false_iff_ne, ne_eq] at *); (try subst_vars); unfold aHi; (repeat (first | rw [if_pos (by omega)] | rw [if_neg (by omega)])); (first | done | rfl))
set_option maxRecDepth 100000 in
set_option maxHeartbeats 1000000 in
theorem step_any (e s : Int) (b : UInt8) (w : World) : Calls Tryz.prog 56 #[.int .i64 e, .int .i64 s, .int .i64 (b.toNat : Int)] w (PI w (aStep e s (b.toNat : Int))) := by
  have h1 := nb_lt b
  have h2 := nb_nonneg b
  unfold nb at h1 h2
  generalize (b.toNat : Int) = b at *
  go_enter Tryz.func56, Tryz.ntmps56
  go_wp2_with (first | (go_at_call 78; refine (utf_any _ _ _).mono ?_; rintro r w1 ⟨rfl, rfl⟩) | (go_at_call 79; refine (shift_any _ _ _).mono ?_; rintro r w1 ⟨rfl, rfl⟩) | (go_at_call 80; refine (twin_any _ _ _).mono ?_; rintro r w1 ⟨rfl, rfl⟩) | (go_at_call 81; refine (latinA_any _ _ _).mono ?_; rintro r w1 ⟨rfl, rfl⟩) | (go_at_call 82; refine (low_any _ _ _).mono ?_; rintro r w1 ⟨rfl, rfl⟩) | (go_at_call 83; refine (high_any _ _ _).mono ?_; rintro r w1 ⟨rfl, rfl⟩))
  all_goals (go_ret; refine ⟨?_, rfl⟩; (try simp only [beq_iff_eq, beq_eq_false_iff_ne, ne_eq] at *); (try subst_vars); unfold aStep; (repeat (first | rw [if_pos (by omega)] | rw [if_neg (by omega)])); (first | done | rfl))
set_option maxRecDepth 100000 in
set_option maxHeartbeats 1000000 in
theorem ends_any (e s : Int) (w : World) : Calls Tryz.prog 58 #[.int .i64 e, .int .i64 s] w fun r w' => r = .returned (.bool (aEnds e s)) ∧ w = w' := by
  go_enter Tryz.func58, Tryz.ntmps58
  go_wp2_with fail
  all_goals (go_ret; refine ⟨?_, rfl⟩; (try simp only [beq_iff_eq, beq_eq_false_iff_ne, ne_eq] at *); (try subst_vars); unfold aEnds; (repeat (first | rw [if_pos (by omega)] | rw [if_neg (by omega)])); (first | done | rfl | simp [*] | (simp; omega)))
end Go.Proofs.YtmdnpgcnbpppfaaGreatDoor
