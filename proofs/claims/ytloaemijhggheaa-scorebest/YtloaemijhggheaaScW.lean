/- The walks over score's functions of plain numbers. -/
import Derived.Test.YtloaemijhggheaaAutoW
import Derived.Test.YtloaemijhggheaaQM
namespace Go.Proofs.Ytloaemijhggheaa
open Go.RowKit

/-- A call hands back a truth value and changes nothing. -/
def PB (w : World) (n : Bool) (e : Ending) (w' : World) : Prop := e = .returned (.bool n) ∧ w = w'
def cPl (x y : Int) : Bool := decide (x < 4 ∧ y < 4)
def cIf (x y n : Int) : Int := if x < 4 ∧ y < 4 then n else 0
def cUtf (x y : Int) : Int := if x = 6 ∧ y = 5 then 6 else cIf x y 2
def cTwin (x y : Int) : Int := if x = 5 ∧ y ≠ 4 then 4 else cIf x y 2
def cLatin (x y : Int) : Int := if (x = 0 ∧ y = 6) ∨ (x = 6 ∧ y = 0) then 5 else if x < 4 ∧ y < 4 then 2 else -1
def cTac (x y : Int) : Int := if x < 4 ∧ y = 4 then 4 else 0
def cWei (e a b x y : Int) : Int :=
  if e = 1 then cUtf x y else if e = 2 then (if a = 27 ∨ b = 27 then 8 else cIf x y 1) else if e = 3 then cTwin x y
  else if e = 4 then cLatin x y else if e = 5 then cTac x y else if e = 6 then cTac y x else 0
theorem cWei_eq (e a b : Int) : cWei e a b (claN a) (claN b) = weiN e a b := by
  unfold weiN cWei plainN cUtf cTwin cLatin cTac cIf
  generalize claN a = x
  generalize claN b = y
  repeat (first | rfl | omega | split)
set_option maxRecDepth 100000 in
set_option maxHeartbeats 1000000 in
theorem class_any (b : Int) (w : World) (h : 0 ≤ b) : Calls Try.prog 34 #[.int .i64 b] w (PI w (claN b)) := by
  go_enter Try.func34, Try.ntmps34
  go_wp2_with fail
  all_goals (go_ret; refine ⟨?_, rfl⟩; (try simp only [beq_iff_eq, beq_eq_false_iff_ne, ne_eq] at *); (try subst_vars); first | (exfalso; omega) | (unfold claN; (repeat (first | rw [if_pos (by omega)] | rw [if_neg (by omega)])); (first | done | rfl)))
set_option maxRecDepth 100000 in
set_option maxHeartbeats 1000000 in
theorem isPlain_any (x y : Int) (w : World) : Calls Try.prog 88 #[.int .i64 x, .int .i64 y] w (PB w (cPl x y)) := by
  go_enter Try.func88, Try.ntmps88
  go_wp2_with fail
  all_goals (go_ret; refine ⟨?_, rfl⟩; unfold cPl; (first | done | rfl | (simp [*]; done) | (simp; omega)))
set_option maxRecDepth 100000 in
set_option maxHeartbeats 1000000 in
theorem ifPlain_any (x y n : Int) (w : World) : Calls Try.prog 58 #[.int .i64 x, .int .i64 y, .int .i64 n] w (PI w (cIf x y n)) := by
  unfold cIf
  by_cases h : x < 4 ∧ y < 4
  · rw [if_pos h]
    have H := fun w1 => isPlain_any x y w1
    rw [show cPl x y = true from by simp [cPl, h]] at H
    replace H := hid H
    clear h
    go_enter Try.func58, Try.ntmps58
    go_wp2_with fail
    refine (H.out _).mono ?_
    rintro r w1 ⟨rfl, rfl⟩
    go_wp2_with fail
    go_ret
    exact ⟨rfl, rfl⟩
  · rw [if_neg h]
    have H := fun w1 => isPlain_any x y w1
    rw [show cPl x y = false from by simp only [cPl, decide_eq_false_iff_not]; exact h] at H
    replace H := hid H
    clear h
    go_enter Try.func58, Try.ntmps58
    go_wp2_with fail
    refine (H.out _).mono ?_
    rintro r w1 ⟨rfl, rfl⟩
    go_wp2_with fail
    go_ret
    exact ⟨rfl, rfl⟩
set_option maxRecDepth 100000 in
set_option maxHeartbeats 1000000 in
theorem utfW_any (x y : Int) (w : World) : Calls Try.prog 57 #[.int .i64 x, .int .i64 y] w (PI w (cUtf x y)) := by
  go_enter Try.func57, Try.ntmps57
  go_wp2_with (first | (go_at_call 58; refine (ifPlain_any _ _ _ _).mono ?_; rintro r w1 ⟨rfl, rfl⟩))
  all_goals (go_ret; refine ⟨?_, rfl⟩; (try simp only [beq_iff_eq, beq_eq_false_iff_ne, ne_eq] at *); (try subst_vars); unfold cUtf; (repeat (first | rw [if_pos (by omega)] | rw [if_neg (by omega)])); (first | done | rfl))
set_option maxRecDepth 100000 in
set_option maxHeartbeats 1000000 in
theorem twinW_any (x y : Int) (w : World) : Calls Try.prog 59 #[.int .i64 x, .int .i64 y] w (PI w (cTwin x y)) := by
  go_enter Try.func59, Try.ntmps59
  go_wp2_with (first | (go_at_call 58; refine (ifPlain_any _ _ _ _).mono ?_; rintro r w1 ⟨rfl, rfl⟩))
  all_goals (go_ret; refine ⟨?_, rfl⟩; (try simp only [bne_iff_ne, bne_eq_false_iff_eq, ne_eq] at *); (try subst_vars); unfold cTwin; (repeat (first | rw [if_pos (by omega)] | rw [if_neg (by omega)])); (first | done | rfl))
set_option maxRecDepth 100000 in
set_option maxHeartbeats 1000000 in
theorem tac_any (x y : Int) (w : World) : Calls Try.prog 61 #[.int .i64 x, .int .i64 y] w (PI w (cTac x y)) := by
  go_enter Try.func61, Try.ntmps61
  go_wp2_with fail
  all_goals (go_ret; refine ⟨?_, rfl⟩; (try simp only [beq_iff_eq, beq_eq_false_iff_ne, ne_eq] at *); (try subst_vars); unfold cTac; (repeat (first | rw [if_pos (by omega)] | rw [if_neg (by omega)])); (first | done | rfl))
end Go.Proofs.Ytloaemijhggheaa
