/- The walks over auto's functions. -/
import Derived.Test.YtpkifomoffhpdaaBase
import Derived.Test.YtpkifomoffhpdaaAutoM
namespace Go.Proofs.Ytpkifomoffhpdaa
open Go.RowKit

/-- A call hands back a number and changes nothing. -/
def PI (w : World) (n : Int) (e : Ending) (w' : World) : Prop := e = .returned (.int .i64 n) ∧ w = w'
set_option maxRecDepth 100000 in
set_option maxHeartbeats 1000000 in
theorem within_any (b lo hi nx : Int) (w : World) : Calls Try.prog 60 #[.int .i64 b, .int .i64 lo, .int .i64 hi, .int .i64 nx] w (PI w (aW b lo hi nx)) := by
  go_enter Try.func60, Try.ntmps60
  go_wp2_with fail
  all_goals (go_ret; refine ⟨?_, rfl⟩; (try simp only [beq_iff_eq, beq_eq_false_iff_ne, bne_iff_ne, bne_eq_false_iff_eq, ne_eq] at *); (try subst_vars); unfold aW; (repeat (first | rw [if_pos (by omega)] | rw [if_neg (by omega)])); (first | done | rfl))
set_option maxRecDepth 100000 in
set_option maxHeartbeats 1000000 in
theorem wideUnit_any (b x y : Int) (w : World) : Calls Try.prog 65 #[.int .i64 b, .int .i64 x, .int .i64 y] w (PI w (aWU b x y)) := by
  go_enter Try.func65, Try.ntmps65
  go_wp2_with fail
  all_goals (go_ret; refine ⟨?_, rfl⟩; (try simp only [beq_iff_eq, beq_eq_false_iff_ne, bne_iff_ne, bne_eq_false_iff_eq, ne_eq] at *); (try subst_vars); unfold aWU; (repeat (first | rw [if_pos (by omega)] | rw [if_neg (by omega)])); (first | done | rfl))
set_option maxRecDepth 100000 in
set_option maxHeartbeats 1000000 in
theorem utfFirst_any (b : Int) (w : World) : Calls Try.prog 59 #[.int .i64 b] w (PI w (aU1 b)) := by
  go_enter Try.func59, Try.ntmps59
  go_wp2_with fail
  all_goals (go_ret; refine ⟨?_, rfl⟩; (try simp only [beq_iff_eq, beq_eq_false_iff_ne, bne_iff_ne, bne_eq_false_iff_eq, ne_eq] at *); (try subst_vars); unfold aU1; (repeat (first | rw [if_pos (by omega)] | rw [if_neg (by omega)])); (first | done | rfl))
set_option maxRecDepth 100000 in
set_option maxHeartbeats 1000000 in
theorem shiftOne_any (b : Int) (w : World) : Calls Try.prog 61 #[.int .i64 b] w (PI w (aS1 b)) := by
  go_enter Try.func61, Try.ntmps61
  go_wp2_with fail
  all_goals (go_ret; refine ⟨?_, rfl⟩; (try simp only [beq_iff_eq, beq_eq_false_iff_ne, bne_iff_ne, bne_eq_false_iff_eq, ne_eq] at *); (try subst_vars); unfold aS1; (repeat (first | rw [if_pos (by omega)] | rw [if_neg (by omega)])); (first | done | rfl))
set_option maxRecDepth 100000 in
set_option maxHeartbeats 1000000 in
theorem shiftFirst_any (b : Int) (w : World) : Calls Try.prog 62 #[.int .i64 b] w (PI w (aS2 b)) := by
  go_enter Try.func62, Try.ntmps62
  go_wp2_with (first | (go_at_call 60; refine (within_any _ _ _ _ _).mono ?_; rintro r w1 ⟨rfl, rfl⟩))
  all_goals (go_ret; refine ⟨?_, rfl⟩; (try simp only [beq_iff_eq, beq_eq_false_iff_ne, bne_iff_ne, bne_eq_false_iff_eq, ne_eq] at *); (try subst_vars); unfold aS2; (repeat (first | rw [if_pos (by omega)] | rw [if_neg (by omega)])); (first | done | rfl))
set_option maxRecDepth 100000 in
set_option maxHeartbeats 1000000 in
theorem shiftMode_any (b : Int) (w : World) : Calls Try.prog 63 #[.int .i64 b] w (PI w (aS3 b)) := by
  go_enter Try.func63, Try.ntmps63
  go_wp2_with fail
  all_goals (go_ret; refine ⟨?_, rfl⟩; (try simp only [beq_iff_eq, beq_eq_false_iff_ne, bne_iff_ne, bne_eq_false_iff_eq, ne_eq] at *); (try subst_vars); unfold aS3; (repeat (first | rw [if_pos (by omega)] | rw [if_neg (by omega)])); (first | done | rfl))
set_option maxRecDepth 100000 in
set_option maxHeartbeats 1000000 in
theorem twinFirst_any (b : Int) (w : World) : Calls Try.prog 64 #[.int .i64 b] w (PI w (aT1 b)) := by
  go_enter Try.func64, Try.ntmps64
  go_wp2_with (first | (go_at_call 60; refine (within_any _ _ _ _ _).mono ?_; rintro r w1 ⟨rfl, rfl⟩))
  all_goals (go_ret; refine ⟨?_, rfl⟩; (try simp only [beq_iff_eq, beq_eq_false_iff_ne, bne_iff_ne, bne_eq_false_iff_eq, ne_eq] at *); (try subst_vars); unfold aT1; (repeat (first | rw [if_pos (by omega)] | rw [if_neg (by omega)])); (first | done | rfl))
set_option maxRecDepth 100000 in
set_option maxHeartbeats 1000000 in
theorem utf_any (s b : Int) (w : World) : Calls Try.prog 33 #[.int .i64 s, .int .i64 b] w (PI w (aU s b)) := by
  go_enter Try.func33, Try.ntmps33
  go_wp2_with (first | (go_at_call 60; refine (within_any _ _ _ _ _).mono ?_; rintro r w1 ⟨rfl, rfl⟩) | (go_at_call 59; refine (utfFirst_any _ _).mono ?_; rintro r w1 ⟨rfl, rfl⟩))
  all_goals (go_ret; refine ⟨?_, rfl⟩; (try simp only [beq_iff_eq, beq_eq_false_iff_ne, bne_iff_ne, bne_eq_false_iff_eq, ne_eq] at *); (try subst_vars); unfold aU; (repeat (first | rw [if_pos (by omega)] | rw [if_neg (by omega)])); (first | done | rfl))
set_option maxRecDepth 100000 in
set_option maxHeartbeats 1000000 in
theorem shift_any (s b : Int) (w : World) : Calls Try.prog 34 #[.int .i64 s, .int .i64 b] w (PI w (aS s b)) := by
  go_enter Try.func34, Try.ntmps34
  go_wp2_with (first | (go_at_call 60; refine (within_any _ _ _ _ _).mono ?_; rintro r w1 ⟨rfl, rfl⟩) | (go_at_call 61; refine (shiftOne_any _ _).mono ?_; rintro r w1 ⟨rfl, rfl⟩) | (go_at_call 62; refine (shiftFirst_any _ _).mono ?_; rintro r w1 ⟨rfl, rfl⟩) | (go_at_call 63; refine (shiftMode_any _ _).mono ?_; rintro r w1 ⟨rfl, rfl⟩))
  all_goals (go_ret; refine ⟨?_, rfl⟩; (try simp only [beq_iff_eq, beq_eq_false_iff_ne, bne_iff_ne, bne_eq_false_iff_eq, ne_eq] at *); (try subst_vars); unfold aS; (repeat (first | rw [if_pos (by omega)] | rw [if_neg (by omega)])); (first | done | rfl))
set_option maxRecDepth 100000 in
set_option maxHeartbeats 1000000 in
theorem twin_any (s b : Int) (w : World) : Calls Try.prog 35 #[.int .i64 s, .int .i64 b] w (PI w (aT s b)) := by
  go_enter Try.func35, Try.ntmps35
  go_wp2_with (first | (go_at_call 60; refine (within_any _ _ _ _ _).mono ?_; rintro r w1 ⟨rfl, rfl⟩) | (go_at_call 64; refine (twinFirst_any _ _).mono ?_; rintro r w1 ⟨rfl, rfl⟩))
  all_goals (go_ret; refine ⟨?_, rfl⟩; (try simp only [beq_iff_eq, beq_eq_false_iff_ne, bne_iff_ne, bne_eq_false_iff_eq, ne_eq] at *); (try subst_vars); unfold aT; (repeat (first | rw [if_pos (by omega)] | rw [if_neg (by omega)])); (first | done | rfl))
set_option maxRecDepth 100000 in
set_option maxHeartbeats 1000000 in
theorem latinA_any (s b : Int) (w : World) : Calls Try.prog 36 #[.int .i64 s, .int .i64 b] w (PI w (aL s b)) := by
  go_enter Try.func36, Try.ntmps36
  go_wp2_with fail
  all_goals (go_ret; refine ⟨?_, rfl⟩; (try simp only [beq_iff_eq, beq_eq_false_iff_ne, bne_iff_ne, bne_eq_false_iff_eq, ne_eq] at *); (try subst_vars); unfold aL; (repeat (first | rw [if_pos (by omega)] | rw [if_neg (by omega)])); (first | done | rfl))
set_option maxRecDepth 100000 in
set_option maxHeartbeats 1000000 in
theorem low_any (s b : Int) (w : World) : Calls Try.prog 37 #[.int .i64 s, .int .i64 b] w (PI w (aLo s b)) := by
  go_enter Try.func37, Try.ntmps37
  go_wp2_with (first | (go_at_call 60; refine (within_any _ _ _ _ _).mono ?_; rintro r w1 ⟨rfl, rfl⟩) | (go_at_call 65; refine (wideUnit_any _ _ _ _).mono ?_; rintro r w1 ⟨rfl, rfl⟩))
  all_goals (go_ret; refine ⟨?_, rfl⟩; (try simp only [beq_iff_eq, beq_eq_false_iff_ne, bne_iff_ne, bne_eq_false_iff_eq, ne_eq] at *); (try subst_vars); unfold aLo; (repeat (first | rw [if_pos (by omega)] | rw [if_neg (by omega)])); (first | done | rfl))
set_option maxRecDepth 100000 in
set_option maxHeartbeats 1000000 in
theorem high_any (s b : Int) (w : World) : Calls Try.prog 38 #[.int .i64 s, .int .i64 b] w (PI w (aHi s b)) := by
  go_enter Try.func38, Try.ntmps38
  go_wp2_with (first | (go_at_call 60; refine (within_any _ _ _ _ _).mono ?_; rintro r w1 ⟨rfl, rfl⟩) | (go_at_call 65; refine (wideUnit_any _ _ _ _).mono ?_; rintro r w1 ⟨rfl, rfl⟩))
  all_goals (go_ret; refine ⟨?_, rfl⟩; (try simp only [beq_iff_eq, beq_eq_false_iff_ne, bne_iff_ne, bne_eq_false_iff_eq, ne_eq] at *); (try subst_vars); unfold aHi; (repeat (first | rw [if_pos (by omega)] | rw [if_neg (by omega)])); (first | done | rfl))
set_option maxRecDepth 100000 in
set_option maxHeartbeats 1000000 in
theorem step_any (e s : Int) (b : UInt8) (w : World) : Calls Try.prog 18 #[.int .i64 e, .int .i64 s, .int .i64 (b.toNat : Int)] w (PI w (aStep e s (b.toNat : Int))) := by
  have h1 := nb_lt b
  have h2 := nb_nonneg b
  unfold nb at h1 h2
  generalize (b.toNat : Int) = b at *
  go_enter Try.func18, Try.ntmps18
  go_wp2_with (first | (go_at_call 33; refine (utf_any _ _ _).mono ?_; rintro r w1 ⟨rfl, rfl⟩) | (go_at_call 34; refine (shift_any _ _ _).mono ?_; rintro r w1 ⟨rfl, rfl⟩) | (go_at_call 35; refine (twin_any _ _ _).mono ?_; rintro r w1 ⟨rfl, rfl⟩) | (go_at_call 36; refine (latinA_any _ _ _).mono ?_; rintro r w1 ⟨rfl, rfl⟩) | (go_at_call 37; refine (low_any _ _ _).mono ?_; rintro r w1 ⟨rfl, rfl⟩) | (go_at_call 38; refine (high_any _ _ _).mono ?_; rintro r w1 ⟨rfl, rfl⟩))
  all_goals (go_ret; refine ⟨?_, rfl⟩; (try simp only [beq_iff_eq, beq_eq_false_iff_ne, bne_iff_ne, bne_eq_false_iff_eq, ne_eq] at *); (try subst_vars); unfold aStep; (repeat (first | rw [if_pos (by omega)] | rw [if_neg (by omega)])); (first | done | rfl))
set_option maxRecDepth 100000 in
set_option maxHeartbeats 1000000 in
theorem ends_any (e s : Int) (w : World) : Calls Try.prog 20 #[.int .i64 e, .int .i64 s] w fun r w' => r = .returned (.bool (aEnds e s)) ∧ w = w' := by
  go_enter Try.func20, Try.ntmps20
  go_wp2_with fail
  all_goals (go_ret; refine ⟨?_, rfl⟩; (try simp only [beq_iff_eq, beq_eq_false_iff_ne, bne_iff_ne, bne_eq_false_iff_eq, ne_eq] at *); (try subst_vars); unfold aEnds; (repeat (first | rw [if_pos (by omega)] | rw [if_neg (by omega)])); (first | done | rfl | simp [*] | (simp; omega)))
end Go.Proofs.Ytpkifomoffhpdaa
