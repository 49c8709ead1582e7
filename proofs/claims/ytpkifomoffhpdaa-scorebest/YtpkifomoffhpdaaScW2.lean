/- The walks over score's weights. -/
import Derived.Test.YtpkifomoffhpdaaScW
namespace Go.Proofs.Ytpkifomoffhpdaa
open Go.RowKit

set_option maxRecDepth 100000 in
set_option maxHeartbeats 1000000 in
theorem latinW_of (x y : Int) (w : World) (v a b c d : Bool) (ha : (x == 0) = a) (hb : (y == 6) = b) (hc : (x == 6) = c) (hd : (y == 0) = d) (H : Hid (∀ w1, Calls Try.prog 66 #[.int .i64 x, .int .i64 y] w1 (PB w1 v))) : Calls Try.prog 42 #[.int .i64 x, .int .i64 y] w (PI w (if ((a && b) || (c && d)) = true then 5 else if v = true then 2 else -1)) := by
  cases a <;> cases b <;> cases c <;> cases d <;> cases v
  all_goals
    go_enter Try.func42, Try.ntmps42
    go_wp2_with (first | (go_at_call 66; refine (H.out _).mono ?_; rintro r w1 ⟨rfl, rfl⟩))
    go_ret
    exact ⟨rfl, rfl⟩
theorem latinW_any (x y : Int) (w : World) : Calls Try.prog 42 #[.int .i64 x, .int .i64 y] w (PI w (cLatin x y)) := by
  have h := latinW_of x y w _ _ _ _ _ rfl rfl rfl rfl (hid fun w1 => isPlain_any x y w1)
  have e : (if ((x == 0 && y == 6) || (x == 6 && y == 0)) = true then 5 else if cPl x y = true then 2 else -1) = cLatin x y := by
    unfold cLatin cPl
    simp only [Bool.or_eq_true, Bool.and_eq_true, beq_iff_eq, decide_eq_true_eq]
  rw [e] at h
  exact h
set_option maxRecDepth 100000 in
set_option maxHeartbeats 1000000 in
theorem weight_any (e a b : Int) (w : World) (ha : 0 ≤ a) (hb : 0 ≤ b) : Calls Try.prog 24 #[.int .i64 e, .int .i64 a, .int .i64 b] w (PI w (weiN e a b)) := by
  have H1 := fun w1 => class_any a w1 ha
  have H2 := fun w1 => class_any b w1 hb
  rw [← cWei_eq]
  clear ha hb
  generalize claN a = x at *
  generalize claN b = y at *
  replace H1 := hid H1
  replace H2 := hid H2
  go_enter Try.func24, Try.ntmps24
  go_wp2_with fail
  refine (H1.out _).mono ?_
  rintro r w1 ⟨rfl, rfl⟩
  go_wp2_with fail
  refine (H2.out _).mono ?_
  rintro r w1 ⟨rfl, rfl⟩
  go_wp2_with (first | (go_at_call 40; refine (ifPlain_any _ _ _ _).mono ?_; rintro r w1 ⟨rfl, rfl⟩) | (go_at_call 39; refine (utfW_any _ _ _).mono ?_; rintro r w1 ⟨rfl, rfl⟩) | (go_at_call 41; refine (twinW_any _ _ _).mono ?_; rintro r w1 ⟨rfl, rfl⟩) | (go_at_call 42; refine (latinW_any _ _ _).mono ?_; rintro r w1 ⟨rfl, rfl⟩) | (go_at_call 43; refine (tac_any _ _ _).mono ?_; rintro r w1 ⟨rfl, rfl⟩))
  all_goals (go_ret; refine ⟨?_, rfl⟩; (try simp only [beq_iff_eq, beq_eq_false_iff_ne, ne_eq] at *); (try subst_vars); unfold cWei; (repeat (first | rw [if_pos (by omega)] | rw [if_neg (by omega)])); (first | done | rfl))
end Go.Proofs.Ytpkifomoffhpdaa
