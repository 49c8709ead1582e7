/- The reference's piece: the ways of Latin. -/
import Derived.Test.YtpkifomoffhpdaaPieceT
import Derived.Test.YtpkifomoffhpdaaShelfP
namespace Go.Proofs.Ytpkifomoffhpdaa
open Go.RowKit
attribute [local go_sem ↓] run_eqS run_neS
attribute [local go_sem] byte_at0 byte_at20 byte_at21 w64 S.v and63 and31 and15 and7 kw kw256
attribute [local go_sem] run_store_fn

set_option maxRecDepth 100000 in
set_option maxHeartbeats 1000000 in
theorem pieceL_a (s : ByteArray) (md : Int) (w : World) (hs : 0 < s.size) (h : lat5 s[0] = true) : Calls Try.prog 32 #[.int .i64 4, .string s, .int .i64 md] w (PP w [-1] 1 0) := by
  have H := hid (fun w1 => lat5_c s[0] w1)
  go_enter Try.func32, Try.ntmps32
  go_wp2_with fail
  refine (H.out _).mono ?_
  rintro r w' ⟨k, rfl, hk, _, rfl⟩
  replace hk := hk h
  clear h
  go_wp2_with fail
  go_ret3
  exact ⟨_, rfl, Out.one' _ _ (w.heap.size + 1 + 1 + 1) _ (by simp) (by omega), (by repeat (first | exact Below.refl _ _ | assumption | (refine Below.alloc ?_ (by first | (simp; done) | (simp; omega)) _) | (refine Below.setCell ?_ (by first | (simp; done) | (simp; omega)) _) | (refine Below.drew ?_)))⟩
set_option maxRecDepth 100000 in
set_option maxHeartbeats 1000000 in
theorem pieceL_b (s : ByteArray) (md : Int) (w : World) (hs : 0 < s.size) (h : lat5 s[0] = false) (h1 : 128 ≤ (s[0].toNat : Int)) (h2 : (s[0].toNat : Int) ≤ 159) : Calls Try.prog 32 #[.int .i64 4, .string s, .int .i64 md] w (PP w [8192 + (s[0].toNat : Int)] 1 0) := by
  have H := hid (fun w1 => lat5_c s[0] w1)
  have hb := s[0].toNat_lt
  go_enter Try.func32, Try.ntmps32
  go_wp2_with fail
  refine (H.out _).mono ?_
  rintro r w' ⟨k, rfl, _, hk, rfl⟩
  replace hk := hk h
  clear h
  go_wp2_with fail
  refine (inR_yes _ _ _ _ (by omega) (by omega)).mono ?_
  rintro r w' ⟨rfl, rfl⟩
  go_wp2_with fail
  go_ret3
  exact ⟨_, rfl, Out.one' _ _ (w.heap.size + 1 + 1 + 1 + 1) _ (by simp) (by omega), (by repeat (first | exact Below.refl _ _ | assumption | (refine Below.alloc ?_ (by first | (simp; done) | (simp; omega)) _) | (refine Below.setCell ?_ (by first | (simp; done) | (simp; omega)) _) | (refine Below.drew ?_)))⟩
set_option maxRecDepth 100000 in
set_option maxHeartbeats 1000000 in
theorem pieceL_c (s : ByteArray) (md : Int) (w : World) (hs : 0 < s.size) (h : lat5 s[0] = false) (h1 : (s[0].toNat : Int) < 128 ∨ 159 < (s[0].toNat : Int)) : Calls Try.prog 32 #[.int .i64 4, .string s, .int .i64 md] w (PP w [(s[0].toNat : Int)] 1 0) := by
  have H := hid (fun w1 => lat5_c s[0] w1)
  have hb := s[0].toNat_lt
  replace h1 := hid h1
  go_enter Try.func32, Try.ntmps32
  go_wp2_with fail
  refine (H.out _).mono ?_
  rintro r w' ⟨k, rfl, _, hk, rfl⟩
  replace hk := hk h
  clear h
  go_wp2_with fail
  refine (inR_no _ _ _ _ (by have := h1.out; omega)).mono ?_
  rintro r w' ⟨rfl, rfl⟩
  go_wp2_with fail
  go_ret3
  exact ⟨_, rfl, Out.one' _ _ (w.heap.size + 1 + 1 + 1 + 1) _ (by simp) (by omega), (by repeat (first | exact Below.refl _ _ | assumption | (refine Below.alloc ?_ (by first | (simp; done) | (simp; omega)) _) | (refine Below.setCell ?_ (by first | (simp; done) | (simp; omega)) _) | (refine Below.drew ?_)))⟩
end Go.Proofs.Ytpkifomoffhpdaa
