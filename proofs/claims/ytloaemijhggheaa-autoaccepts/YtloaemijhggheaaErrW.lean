/- Whole's and Feed's errors. -/
import Derived.Test.YtloaemijhggheaaLaw
namespace Go.Proofs.Ytloaemijhggheaa
open Go.RowKit
attribute [local go_sem ↓] run_eqS run_neS
attribute [local go_sem] byte_at0 byte_at20 byte_at21 w64 S.v and63 and31 and15 and7 kw kw256

set_option maxRecDepth 100000 in
set_option maxHeartbeats 400000 in
theorem feedS_kind (e : Int) (t s : ByteArray) (w : World) (he : ¬ (1 ≤ e ∧ e ≤ 6)) : Calls Try.prog 19 #[.int .i64 e, (.agg #[.int .i64 0, .int .i64 0, .int .i64 0, .int .i64 0, .string t, .int .i64 0, .int .i64 0]), .string s] w (PSOE w ⟨0, 0, 0, 0, t, 0, 0⟩ [] 2) := by
  have H := hid (fun w1 => isEnc_no e w1 he)
  clear he
  go_enter Try.func19, Try.ntmps19
  go_wp2_with fail
  refine (H.out _).mono ?_
  rintro r w1 ⟨rfl, rfl⟩
  go_wp2_with fail
  refine bodyPost_ret ?_ rfl ⟨_, rfl, Out.nil _ _, ?_⟩
  · simp [results, Try.results19, go_sem, S.v]
  · exact (by repeat (first | exact Below.refl _ _ | assumption | (refine Below.alloc ?_ (by first | (simp; done) | (simp; omega)) _) | (refine Below.setCell ?_ (by first | (simp; done) | (simp; omega)) _) | (refine Below.drew ?_)))
set_option maxRecDepth 100000 in
set_option maxHeartbeats 400000 in
theorem feedS_long (e : Int) (t s : ByteArray) (w : World) (h1 : 1 ≤ e) (h2 : e ≤ 6) (hd : decide ((4000 : Int) < (s.size : Int)) = true) : Calls Try.prog 19 #[.int .i64 e, (.agg #[.int .i64 0, .int .i64 0, .int .i64 0, .int .i64 0, .string t, .int .i64 0, .int .i64 0]), .string s] w (PSOE w ⟨0, 0, 0, 0, t, 0, 0⟩ [] 4) := by
  go_enter Try.func19, Try.ntmps19
  go_wp2_with fail
  refine (isEnc_yes _ _ h1 h2).mono ?_
  rintro r w' ⟨rfl, rfl⟩
  go_wp2_with fail
  refine bodyPost_ret ?_ rfl ⟨_, rfl, Out.nil _ _, ?_⟩
  · simp [results, Try.results19, go_sem, S.v]
  · exact (by repeat (first | exact Below.refl _ _ | assumption | (refine Below.alloc ?_ (by first | (simp; done) | (simp; omega)) _) | (refine Below.setCell ?_ (by first | (simp; done) | (simp; omega)) _) | (refine Below.drew ?_)))
set_option maxRecDepth 100000 in
set_option maxHeartbeats 400000 in
theorem whole_err (e n : Int) (s : ByteArray) (t : S) (w : World) (hn : (n != 0) = true) (H : Hid (∀ w1, Calls Try.prog 19 #[.int .i64 e, (.agg #[.int .i64 0, .int .i64 0, .int .i64 0, .int .i64 0, .string ⟨#[]⟩, .int .i64 0, .int .i64 0]), .string s] w1 (PSOE w1 t [] n))) : Calls Try.prog 14 #[.int .i64 e, .string s] w (POE w [] n) := by
  go_enter Try.func14, Try.ntmps14
  go_wp2_with fail
  refine (H.out _).mono ?_
  rintro r w1 ⟨v, rfl, ho, hb⟩
  go_wp2_with fail
  go_ret2
  exact ⟨_, rfl, Out.nil _ _, hb.alloc hb.size _⟩
end Go.Proofs.Ytloaemijhggheaa
