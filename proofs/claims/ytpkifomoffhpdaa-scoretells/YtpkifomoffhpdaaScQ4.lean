/- 1 texts of this proof in one file: ScT. -/
import Derived.Test.YtpkifomoffhpdaaScQ3
import Derived.Test.YtpkifomoffhpdaaScQ2
/- The walk over the law ScoreTells. -/
namespace Go.Proofs.Ytpkifomoffhpdaa
open Go.RowKit
attribute [local go_sem ↓] run_eqS run_neS
attribute [local go_sem] byte_at0 byte_at20 byte_at21 w64 S.v and63 and31 and15 and7 kw kw256

theorem plainText2 : bestL [112, 108, 97, 105, 110, 32, 116, 101, 120, 116] = 1 := by decide +kernel
theorem weight272 : weiN 2 27 40 = 8 := by decide +kernel
set_option maxRecDepth 100000 in
set_option maxHeartbeats 400000 in
theorem scores_law (w : World) : Calls Try.prog 21 #[] w (PV w (.bool true)) := by
  have H := fun w1 => whole_sc ⟨#[112, 108, 97, 105, 110, 32, 116, 101, 120, 116]⟩ w1 (by decide)
  change ∀ w1, Calls Try.prog 26 #[.string ⟨#[112, 108, 97, 105, 110, 32, 116, 101, 120, 116]⟩] w1 (PV w1 (.int .i64 (bestL [112, 108, 97, 105, 110, 32, 116, 101, 120, 116]))) at H
  rw [plainText2] at H
  replace H := hid H
  have H2 := fun w1 => weight_any 2 27 40 w1 (by decide) (by decide)
  rw [weight272] at H2
  replace H2 := hid H2
  go_enter Try.func21, Try.ntmps21
  go_wp2_with fail
  refine (H.out _).mono ?_
  rintro e w1 ⟨rfl, hb⟩
  go_wp2_with fail
  refine (H2.out _).mono ?_
  rintro e w2 ⟨rfl, rfl⟩
  go_wp2_with fail
  go_ret
  exact ⟨rfl, hb⟩
set_option maxRecDepth 100000 in
set_option maxHeartbeats 400000 in
theorem st_long (e a b : Int) (s : ByteArray) (w : World) (hd : decide ((4000 : Int) < (s.size : Int)) = true) : Calls Try.prog 7 #[.int .i64 e, .int .i64 a, .int .i64 b, .string s] w (PV w (.bool true)) := by
  go_enter Try.func7, Try.ntmps7
  go_wp2_with fail
  refine (scores_law _).mono ?_
  rintro r w1 ⟨rfl, hb⟩
  go_wp2_with fail
  go_ret
  exact ⟨rfl, hb⟩
set_option maxRecDepth 100000 in
set_option maxHeartbeats 400000 in
theorem st_in (e a b x y z : Int) (s : ByteArray) (w : World) (hd : decide ((4000 : Int) < (s.size : Int)) = false) (t0 : decide (a < 0) = false) (t1 : decide (255 < a) = false) (t2 : decide (b < 0) = false) (t3 : decide (255 < b) = false)
    (H1 : Hid (∀ w1, Calls Try.prog 22 #[.int .i64 a] w1 (PI w1 x))) (H2 : Hid (∀ w1, Calls Try.prog 23 #[.int .i64 a] w1 (PI w1 x)))
    (H3 : Hid (∀ w1, Calls Try.prog 24 #[.int .i64 e, .int .i64 a, .int .i64 b] w1 (PI w1 y))) (H4 : Hid (∀ w1, Calls Try.prog 25 #[.int .i64 e, .int .i64 a, .int .i64 b] w1 (PI w1 y)))
    (H5 : Hid (∀ w1, Calls Try.prog 26 #[.string s] w1 (PV w1 (.int .i64 z)))) (H6 : Hid (∀ w1, Calls Try.prog 27 #[.string s] w1 (PV w1 (.int .i64 z)))) :
    Calls Try.prog 7 #[.int .i64 e, .int .i64 a, .int .i64 b, .string s] w (PV w (.bool true)) := by
  have ex : (x == x) = true := by simp
  have ey : (y == y) = true := by simp
  have ez : (z == z) = true := by simp
  go_enter Try.func7, Try.ntmps7
  go_wp2_with fail
  refine (H1.out _).mono ?_
  rintro r w1 ⟨rfl, rfl⟩
  go_wp2_with fail
  refine (H2.out _).mono ?_
  rintro r w1 ⟨rfl, rfl⟩
  go_wp2_with fail
  refine (H3.out _).mono ?_
  rintro r w1 ⟨rfl, rfl⟩
  go_wp2_with fail
  refine (H4.out _).mono ?_
  rintro r w1 ⟨rfl, rfl⟩
  go_wp2_with fail
  refine (H5.out _).mono ?_
  rintro r w1 ⟨rfl, hb1⟩
  go_wp2_with fail
  refine (H6.out _).mono ?_
  rintro r w2 ⟨rfl, hb2⟩
  replace hb2 := hb1.trans (hb2.mono hb1.size)
  go_wp2_with fail
  refine (scores_law _).mono ?_
  rintro r w3 ⟨rfl, hb3⟩
  replace hb3 := hb2.trans (hb3.mono hb2.size)
  go_wp2_with fail
  go_ret
  exact ⟨rfl, hb3⟩
set_option maxRecDepth 100000 in
set_option maxHeartbeats 400000 in
theorem st_out0 (e a b x y z : Int) (s : ByteArray) (w : World) (hd : decide ((4000 : Int) < (s.size : Int)) = false)  (t0 : decide (a < 0) = true)
    (H1 : Hid (∀ w1, Calls Try.prog 22 #[.int .i64 0] w1 (PI w1 x))) (H2 : Hid (∀ w1, Calls Try.prog 23 #[.int .i64 0] w1 (PI w1 x)))
    (H3 : Hid (∀ w1, Calls Try.prog 24 #[.int .i64 e, .int .i64 0, .int .i64 0] w1 (PI w1 y))) (H4 : Hid (∀ w1, Calls Try.prog 25 #[.int .i64 e, .int .i64 0, .int .i64 0] w1 (PI w1 y)))
    (H5 : Hid (∀ w1, Calls Try.prog 26 #[.string s] w1 (PV w1 (.int .i64 z)))) (H6 : Hid (∀ w1, Calls Try.prog 27 #[.string s] w1 (PV w1 (.int .i64 z)))) :
    Calls Try.prog 7 #[.int .i64 e, .int .i64 a, .int .i64 b, .string s] w (PV w (.bool true)) := by
  have ex : (x == x) = true := by simp
  have ey : (y == y) = true := by simp
  have ez : (z == z) = true := by simp
  go_enter Try.func7, Try.ntmps7
  go_wp2_with fail
  refine (H1.out _).mono ?_
  rintro r w1 ⟨rfl, rfl⟩
  go_wp2_with fail
  refine (H2.out _).mono ?_
  rintro r w1 ⟨rfl, rfl⟩
  go_wp2_with fail
  refine (H3.out _).mono ?_
  rintro r w1 ⟨rfl, rfl⟩
  go_wp2_with fail
  refine (H4.out _).mono ?_
  rintro r w1 ⟨rfl, rfl⟩
  go_wp2_with fail
  refine (H5.out _).mono ?_
  rintro r w1 ⟨rfl, hb1⟩
  go_wp2_with fail
  refine (H6.out _).mono ?_
  rintro r w2 ⟨rfl, hb2⟩
  replace hb2 := hb1.trans (hb2.mono hb1.size)
  go_wp2_with fail
  refine (scores_law _).mono ?_
  rintro r w3 ⟨rfl, hb3⟩
  replace hb3 := hb2.trans (hb3.mono hb2.size)
  go_wp2_with fail
  go_ret
  exact ⟨rfl, hb3⟩
set_option maxRecDepth 100000 in
set_option maxHeartbeats 400000 in
theorem st_out1 (e a b x y z : Int) (s : ByteArray) (w : World) (hd : decide ((4000 : Int) < (s.size : Int)) = false) (t0 : decide (a < 0) = false) (t1 : decide (255 < a) = true)
    (H1 : Hid (∀ w1, Calls Try.prog 22 #[.int .i64 0] w1 (PI w1 x))) (H2 : Hid (∀ w1, Calls Try.prog 23 #[.int .i64 0] w1 (PI w1 x)))
    (H3 : Hid (∀ w1, Calls Try.prog 24 #[.int .i64 e, .int .i64 0, .int .i64 0] w1 (PI w1 y))) (H4 : Hid (∀ w1, Calls Try.prog 25 #[.int .i64 e, .int .i64 0, .int .i64 0] w1 (PI w1 y)))
    (H5 : Hid (∀ w1, Calls Try.prog 26 #[.string s] w1 (PV w1 (.int .i64 z)))) (H6 : Hid (∀ w1, Calls Try.prog 27 #[.string s] w1 (PV w1 (.int .i64 z)))) :
    Calls Try.prog 7 #[.int .i64 e, .int .i64 a, .int .i64 b, .string s] w (PV w (.bool true)) := by
  have ex : (x == x) = true := by simp
  have ey : (y == y) = true := by simp
  have ez : (z == z) = true := by simp
  go_enter Try.func7, Try.ntmps7
  go_wp2_with fail
  refine (H1.out _).mono ?_
  rintro r w1 ⟨rfl, rfl⟩
  go_wp2_with fail
  refine (H2.out _).mono ?_
  rintro r w1 ⟨rfl, rfl⟩
  go_wp2_with fail
  refine (H3.out _).mono ?_
  rintro r w1 ⟨rfl, rfl⟩
  go_wp2_with fail
  refine (H4.out _).mono ?_
  rintro r w1 ⟨rfl, rfl⟩
  go_wp2_with fail
  refine (H5.out _).mono ?_
  rintro r w1 ⟨rfl, hb1⟩
  go_wp2_with fail
  refine (H6.out _).mono ?_
  rintro r w2 ⟨rfl, hb2⟩
  replace hb2 := hb1.trans (hb2.mono hb1.size)
  go_wp2_with fail
  refine (scores_law _).mono ?_
  rintro r w3 ⟨rfl, hb3⟩
  replace hb3 := hb2.trans (hb3.mono hb2.size)
  go_wp2_with fail
  go_ret
  exact ⟨rfl, hb3⟩
set_option maxRecDepth 100000 in
set_option maxHeartbeats 400000 in
theorem st_out2 (e a b x y z : Int) (s : ByteArray) (w : World) (hd : decide ((4000 : Int) < (s.size : Int)) = false) (t0 : decide (a < 0) = false) (t1 : decide (255 < a) = false) (t2 : decide (b < 0) = true)
    (H1 : Hid (∀ w1, Calls Try.prog 22 #[.int .i64 0] w1 (PI w1 x))) (H2 : Hid (∀ w1, Calls Try.prog 23 #[.int .i64 0] w1 (PI w1 x)))
    (H3 : Hid (∀ w1, Calls Try.prog 24 #[.int .i64 e, .int .i64 0, .int .i64 0] w1 (PI w1 y))) (H4 : Hid (∀ w1, Calls Try.prog 25 #[.int .i64 e, .int .i64 0, .int .i64 0] w1 (PI w1 y)))
    (H5 : Hid (∀ w1, Calls Try.prog 26 #[.string s] w1 (PV w1 (.int .i64 z)))) (H6 : Hid (∀ w1, Calls Try.prog 27 #[.string s] w1 (PV w1 (.int .i64 z)))) :
    Calls Try.prog 7 #[.int .i64 e, .int .i64 a, .int .i64 b, .string s] w (PV w (.bool true)) := by
  have ex : (x == x) = true := by simp
  have ey : (y == y) = true := by simp
  have ez : (z == z) = true := by simp
  go_enter Try.func7, Try.ntmps7
  go_wp2_with fail
  refine (H1.out _).mono ?_
  rintro r w1 ⟨rfl, rfl⟩
  go_wp2_with fail
  refine (H2.out _).mono ?_
  rintro r w1 ⟨rfl, rfl⟩
  go_wp2_with fail
  refine (H3.out _).mono ?_
  rintro r w1 ⟨rfl, rfl⟩
  go_wp2_with fail
  refine (H4.out _).mono ?_
  rintro r w1 ⟨rfl, rfl⟩
  go_wp2_with fail
  refine (H5.out _).mono ?_
  rintro r w1 ⟨rfl, hb1⟩
  go_wp2_with fail
  refine (H6.out _).mono ?_
  rintro r w2 ⟨rfl, hb2⟩
  replace hb2 := hb1.trans (hb2.mono hb1.size)
  go_wp2_with fail
  refine (scores_law _).mono ?_
  rintro r w3 ⟨rfl, hb3⟩
  replace hb3 := hb2.trans (hb3.mono hb2.size)
  go_wp2_with fail
  go_ret
  exact ⟨rfl, hb3⟩
set_option maxRecDepth 100000 in
set_option maxHeartbeats 400000 in
theorem st_out3 (e a b x y z : Int) (s : ByteArray) (w : World) (hd : decide ((4000 : Int) < (s.size : Int)) = false) (t0 : decide (a < 0) = false) (t1 : decide (255 < a) = false) (t2 : decide (b < 0) = false) (t3 : decide (255 < b) = true)
    (H1 : Hid (∀ w1, Calls Try.prog 22 #[.int .i64 0] w1 (PI w1 x))) (H2 : Hid (∀ w1, Calls Try.prog 23 #[.int .i64 0] w1 (PI w1 x)))
    (H3 : Hid (∀ w1, Calls Try.prog 24 #[.int .i64 e, .int .i64 0, .int .i64 0] w1 (PI w1 y))) (H4 : Hid (∀ w1, Calls Try.prog 25 #[.int .i64 e, .int .i64 0, .int .i64 0] w1 (PI w1 y)))
    (H5 : Hid (∀ w1, Calls Try.prog 26 #[.string s] w1 (PV w1 (.int .i64 z)))) (H6 : Hid (∀ w1, Calls Try.prog 27 #[.string s] w1 (PV w1 (.int .i64 z)))) :
    Calls Try.prog 7 #[.int .i64 e, .int .i64 a, .int .i64 b, .string s] w (PV w (.bool true)) := by
  have ex : (x == x) = true := by simp
  have ey : (y == y) = true := by simp
  have ez : (z == z) = true := by simp
  go_enter Try.func7, Try.ntmps7
  go_wp2_with fail
  refine (H1.out _).mono ?_
  rintro r w1 ⟨rfl, rfl⟩
  go_wp2_with fail
  refine (H2.out _).mono ?_
  rintro r w1 ⟨rfl, rfl⟩
  go_wp2_with fail
  refine (H3.out _).mono ?_
  rintro r w1 ⟨rfl, rfl⟩
  go_wp2_with fail
  refine (H4.out _).mono ?_
  rintro r w1 ⟨rfl, rfl⟩
  go_wp2_with fail
  refine (H5.out _).mono ?_
  rintro r w1 ⟨rfl, hb1⟩
  go_wp2_with fail
  refine (H6.out _).mono ?_
  rintro r w2 ⟨rfl, hb2⟩
  replace hb2 := hb1.trans (hb2.mono hb1.size)
  go_wp2_with fail
  refine (scores_law _).mono ?_
  rintro r w3 ⟨rfl, hb3⟩
  replace hb3 := hb2.trans (hb3.mono hb2.size)
  go_wp2_with fail
  go_ret
  exact ⟨rfl, hb3⟩
theorem scoreTells_true (e a b : Int) (s : ByteArray) (w : World) : Calls Try.prog 7 #[.int .i64 e, .int .i64 a, .int .i64 b, .string s] w (PV w (.bool true)) := by
  by_cases hd : (4000 : Int) < (s.size : Int)
  · exact st_long e a b s w (decide_eq_true hd)
  have hs : s.size ≤ 4000 := by omega
  have hd' := decide_eq_false hd
  have h5 := hid (fun w1 => whole_sc s w1 hs)
  have h6 := hid (fun w1 => bestOf_any s w1 hs)
  have h0 : (0 : Int) ≤ 0 := by omega
  have z1 := hid (fun w1 => class_any 0 w1 h0)
  have z2 := hid (fun w1 => classOf_any 0 w1)
  have z3 := hid (fun w1 => weight_any e 0 0 w1 h0 h0)
  have z4 := hid (fun w1 => weightOf_any e 0 0 w1)
  by_cases t0 : a < 0
  · exact st_out0 e a b _ _ _ s w hd' (decide_eq_true t0) z1 z2 z3 z4 h5 h6
  by_cases t1 : 255 < a
  · exact st_out1 e a b _ _ _ s w hd' (decide_eq_false t0) (decide_eq_true t1) z1 z2 z3 z4 h5 h6
  by_cases t2 : b < 0
  · exact st_out2 e a b _ _ _ s w hd' (decide_eq_false t0) (decide_eq_false t1) (decide_eq_true t2) z1 z2 z3 z4 h5 h6
  by_cases t3 : 255 < b
  · exact st_out3 e a b _ _ _ s w hd' (decide_eq_false t0) (decide_eq_false t1) (decide_eq_false t2) (decide_eq_true t3) z1 z2 z3 z4 h5 h6
  exact st_in e a b _ _ _ s w hd' (decide_eq_false t0) (decide_eq_false t1) (decide_eq_false t2) (decide_eq_false t3) (hid fun w1 => class_any a w1 (by omega)) (hid fun w1 => classOf_any a w1) (hid fun w1 => weight_any e a b w1 (by omega) (by omega)) (hid fun w1 => weightOf_any e a b w1) h5 h6
end Go.Proofs.Ytpkifomoffhpdaa
