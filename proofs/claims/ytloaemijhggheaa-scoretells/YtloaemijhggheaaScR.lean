/- The reference's ClassOf and WeightOf. -/
import Derived.Test.YtloaemijhggheaaQC
namespace Go.Proofs.Ytloaemijhggheaa
open Go.RowKit

set_option maxRecDepth 100000 in
set_option maxHeartbeats 1000000 in
theorem classOf_any (b : Int) (w : World) : Calls Try.prog 35 #[.int .i64 b] w (PI w (claN b)) := by
  go_enter Try.func35, Try.ntmps35
  go_wp2_with fail
  all_goals (go_ret; refine ⟨?_, rfl⟩; (try simp only [beq_iff_eq, beq_eq_false_iff_ne, ne_eq] at *); (try subst_vars); first | (exfalso; omega) | (unfold claN; (repeat (first | rw [if_pos (by omega)] | rw [if_neg (by omega)])); (first | done | rfl)))
set_option maxRecDepth 100000 in
set_option maxHeartbeats 4000000 in
theorem weightOf_at (e a b x y : Int) (w : World) (he : e = 1 ∨ e = 2 ∨ e = 3 ∨ e = 4 ∨ e = 5 ∨ e = 6) (H1 : Hid (∀ w1, Calls Try.prog 35 #[.int .i64 a] w1 (PI w1 x))) (H2 : Hid (∀ w1, Calls Try.prog 35 #[.int .i64 b] w1 (PI w1 y))) : Calls Try.prog 37 #[.int .i64 e, .int .i64 a, .int .i64 b] w (PI w (cWei e a b x y)) := by
  rcases he with rfl | rfl | rfl | rfl | rfl | rfl
  all_goals
    go_enter Try.func37, Try.ntmps37
    go_wp2_with fail
    refine (H1.out _).mono ?_
    rintro r w1 ⟨rfl, rfl⟩
    go_wp2_with fail
    refine (H2.out _).mono ?_
    rintro r w1 ⟨rfl, rfl⟩
    go_wp2_with fail
    all_goals (go_ret; refine ⟨?_, rfl⟩; (try simp only [beq_iff_eq, beq_eq_false_iff_ne, bne_iff_ne, bne_eq_false_iff_eq, ne_eq] at *); (try subst_vars); unfold cWei cUtf cTwin cLatin cTac cIf; (repeat (first | rw [if_pos (by omega)] | rw [if_neg (by omega)])); (first | done | rfl))
end Go.Proofs.Ytloaemijhggheaa
