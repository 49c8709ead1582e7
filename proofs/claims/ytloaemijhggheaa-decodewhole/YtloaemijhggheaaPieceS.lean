/- The reference's piece: the ways of Shift. -/
import Derived.Test.YtloaemijhggheaaPieceT
import Derived.Test.YtloaemijhggheaaQX
namespace Go.Proofs.Ytloaemijhggheaa
open Go.RowKit
attribute [local go_sem ↓] run_eqS run_neS
attribute [local go_sem] byte_at0 byte_at20 byte_at21 w64 S.v and63 and31 and15 and7 kw kw256
attribute [local go_sem] run_store_fn

set_option maxRecDepth 100000 in
set_option maxHeartbeats 1000000 in
theorem pieceS_a (s : ByteArray) (md : Int) (w : World) (hs : 0 < s.size) (p1 : pre3 27 40 66 s = true) : Calls Try.prog 43 #[.int .i64 2, .string s, .int .i64 md] w (PP w [] 3 0) := by
  have hb := s[0].toNat_lt
  have H1 := hid (fun w1 => pre3_c 27 40 66 s _ p1 w1)
  clear p1
  go_enter Try.func43, Try.ntmps43
  go_wp2_with fail
  refine (H1.out _).mono ?_
  rintro r w' ⟨rfl, rfl⟩
  go_wp2_with fail
  go_ret3
  exact ⟨_, rfl, Out.nil _ _, (by repeat (first | exact Below.refl _ _ | assumption | (refine Below.alloc ?_ (by first | (simp; done) | (simp; omega)) _) | (refine Below.setCell ?_ (by first | (simp; done) | (simp; omega)) _) | (refine Below.drew ?_)))⟩
set_option maxRecDepth 100000 in
set_option maxHeartbeats 1000000 in
theorem pieceS_b (s : ByteArray) (md : Int) (w : World) (hs : 0 < s.size) (p1 : pre3 27 40 66 s = false) (p2 : pre3 27 36 66 s = true) : Calls Try.prog 43 #[.int .i64 2, .string s, .int .i64 md] w (PP w [] 3 1) := by
  have hb := s[0].toNat_lt
  have H1 := hid (fun w1 => pre3_c 27 40 66 s _ p1 w1)
  have H2 := hid (fun w1 => pre3_c 27 36 66 s _ p2 w1)
  clear p1 p2
  go_enter Try.func43, Try.ntmps43
  go_wp2_with fail
  refine (H1.out _).mono ?_
  rintro r w' ⟨rfl, rfl⟩
  go_wp2_with fail
  refine (H2.out _).mono ?_
  rintro r w' ⟨rfl, rfl⟩
  go_wp2_with fail
  go_ret3
  exact ⟨_, rfl, Out.nil _ _, (by repeat (first | exact Below.refl _ _ | assumption | (refine Below.alloc ?_ (by first | (simp; done) | (simp; omega)) _) | (refine Below.setCell ?_ (by first | (simp; done) | (simp; omega)) _) | (refine Below.drew ?_)))⟩
set_option maxRecDepth 100000 in
set_option maxHeartbeats 1000000 in
theorem pieceS_c (s : ByteArray) (md : Int) (w : World) (hs : 0 < s.size) (p1 : pre3 27 40 66 s = false) (p2 : pre3 27 36 66 s = false) (h : (s[0].toNat : Int) = 27) : Calls Try.prog 43 #[.int .i64 2, .string s, .int .i64 md] w (PP w [-1] 1 md) := by
  have hb := s[0].toNat_lt
  have H1 := hid (fun w1 => pre3_c 27 40 66 s _ p1 w1)
  have H2 := hid (fun w1 => pre3_c 27 36 66 s _ p2 w1)
  clear p1 p2
  go_enter Try.func43, Try.ntmps43
  go_wp2_with fail
  refine (H1.out _).mono ?_
  rintro r w' ⟨rfl, rfl⟩
  go_wp2_with fail
  refine (H2.out _).mono ?_
  rintro r w' ⟨rfl, rfl⟩
  go_wp2_with fail
  go_ret3
  exact ⟨_, rfl, Out.one' _ _ (w.heap.size + 1 + 1 + 1) _ (by simp) (by omega), (by repeat (first | exact Below.refl _ _ | assumption | (refine Below.alloc ?_ (by first | (simp; done) | (simp; omega)) _) | (refine Below.setCell ?_ (by first | (simp; done) | (simp; omega)) _) | (refine Below.drew ?_)))⟩
set_option maxRecDepth 100000 in
set_option maxHeartbeats 1000000 in
theorem pieceS_d1 (s : ByteArray) (w : World) (hs : 0 < s.size) (p1 : pre3 27 40 66 s = false) (p2 : pre3 27 36 66 s = false) (h1 : 127 < (s[0].toNat : Int)) : Calls Try.prog 43 #[.int .i64 2, .string s, .int .i64 0] w (PP w [-1] 1 0) := by
  have hb := s[0].toNat_lt
  have H1 := hid (fun w1 => pre3_c 27 40 66 s _ p1 w1)
  have H2 := hid (fun w1 => pre3_c 27 36 66 s _ p2 w1)
  clear p1 p2
  go_enter Try.func43, Try.ntmps43
  go_wp2_with fail
  refine (H1.out _).mono ?_
  rintro r w' ⟨rfl, rfl⟩
  go_wp2_with fail
  refine (H2.out _).mono ?_
  rintro r w' ⟨rfl, rfl⟩
  go_wp2_with fail
  go_ret3
  exact ⟨_, rfl, Out.one' _ _ (w.heap.size + 1 + 1 + 1) _ (by simp) (by omega), (by repeat (first | exact Below.refl _ _ | assumption | (refine Below.alloc ?_ (by first | (simp; done) | (simp; omega)) _) | (refine Below.setCell ?_ (by first | (simp; done) | (simp; omega)) _) | (refine Below.drew ?_)))⟩
set_option maxRecDepth 100000 in
set_option maxHeartbeats 1000000 in
theorem pieceS_d2 (s : ByteArray) (w : World) (hs : 0 < s.size) (p1 : pre3 27 40 66 s = false) (p2 : pre3 27 36 66 s = false) (h1 : (s[0].toNat : Int) = 14) : Calls Try.prog 43 #[.int .i64 2, .string s, .int .i64 0] w (PP w [-1] 1 0) := by
  have hb := s[0].toNat_lt
  have H1 := hid (fun w1 => pre3_c 27 40 66 s _ p1 w1)
  have H2 := hid (fun w1 => pre3_c 27 36 66 s _ p2 w1)
  clear p1 p2
  go_enter Try.func43, Try.ntmps43
  go_wp2_with fail
  refine (H1.out _).mono ?_
  rintro r w' ⟨rfl, rfl⟩
  go_wp2_with fail
  refine (H2.out _).mono ?_
  rintro r w' ⟨rfl, rfl⟩
  go_wp2_with fail
  go_ret3
  exact ⟨_, rfl, Out.one' _ _ (w.heap.size + 1 + 1 + 1) _ (by simp) (by omega), (by repeat (first | exact Below.refl _ _ | assumption | (refine Below.alloc ?_ (by first | (simp; done) | (simp; omega)) _) | (refine Below.setCell ?_ (by first | (simp; done) | (simp; omega)) _) | (refine Below.drew ?_)))⟩
set_option maxRecDepth 100000 in
set_option maxHeartbeats 1000000 in
theorem pieceS_d3 (s : ByteArray) (w : World) (hs : 0 < s.size) (p1 : pre3 27 40 66 s = false) (p2 : pre3 27 36 66 s = false) (h1 : (s[0].toNat : Int) = 15) : Calls Try.prog 43 #[.int .i64 2, .string s, .int .i64 0] w (PP w [-1] 1 0) := by
  have hb := s[0].toNat_lt
  have H1 := hid (fun w1 => pre3_c 27 40 66 s _ p1 w1)
  have H2 := hid (fun w1 => pre3_c 27 36 66 s _ p2 w1)
  clear p1 p2
  go_enter Try.func43, Try.ntmps43
  go_wp2_with fail
  refine (H1.out _).mono ?_
  rintro r w' ⟨rfl, rfl⟩
  go_wp2_with fail
  refine (H2.out _).mono ?_
  rintro r w' ⟨rfl, rfl⟩
  go_wp2_with fail
  go_ret3
  exact ⟨_, rfl, Out.one' _ _ (w.heap.size + 1 + 1 + 1) _ (by simp) (by omega), (by repeat (first | exact Below.refl _ _ | assumption | (refine Below.alloc ?_ (by first | (simp; done) | (simp; omega)) _) | (refine Below.setCell ?_ (by first | (simp; done) | (simp; omega)) _) | (refine Below.drew ?_)))⟩
set_option maxRecDepth 100000 in
set_option maxHeartbeats 1000000 in
theorem pieceS_e (s : ByteArray) (w : World) (hs : 0 < s.size) (p1 : pre3 27 40 66 s = false) (p2 : pre3 27 36 66 s = false) (h0 : ((s[0].toNat : Int) == 27) = false) (h1 : (s[0].toNat : Int) ≤ 127) (h2 : ((s[0].toNat : Int) == 14) = false) (h3 : ((s[0].toNat : Int) == 15) = false) : Calls Try.prog 43 #[.int .i64 2, .string s, .int .i64 0] w (PP w [(s[0].toNat : Int)] 1 0) := by
  have hb := s[0].toNat_lt
  have H1 := hid (fun w1 => pre3_c 27 40 66 s _ p1 w1)
  have H2 := hid (fun w1 => pre3_c 27 36 66 s _ p2 w1)
  clear p1 p2
  go_enter Try.func43, Try.ntmps43
  go_wp2_with fail
  refine (H1.out _).mono ?_
  rintro r w' ⟨rfl, rfl⟩
  go_wp2_with fail
  refine (H2.out _).mono ?_
  rintro r w' ⟨rfl, rfl⟩
  go_wp2_with fail
  go_ret3
  exact ⟨_, rfl, Out.one' _ _ (w.heap.size + 1 + 1 + 1 + 1) _ (by simp) (by omega), (by repeat (first | exact Below.refl _ _ | assumption | (refine Below.alloc ?_ (by first | (simp; done) | (simp; omega)) _) | (refine Below.setCell ?_ (by first | (simp; done) | (simp; omega)) _) | (refine Below.drew ?_)))⟩
set_option maxRecDepth 100000 in
set_option maxHeartbeats 1000000 in
theorem pieceS_f (s : ByteArray) (w : World) (hs : 0 < s.size) (p1 : pre3 27 40 66 s = false) (p2 : pre3 27 36 66 s = false) (h1 : (s[0].toNat : Int) = 10) : Calls Try.prog 43 #[.int .i64 2, .string s, .int .i64 1] w (PP w [10] 1 0) := by
  have hb := s[0].toNat_lt
  have H1 := hid (fun w1 => pre3_c 27 40 66 s _ p1 w1)
  have H2 := hid (fun w1 => pre3_c 27 36 66 s _ p2 w1)
  clear p1 p2
  go_enter Try.func43, Try.ntmps43
  go_wp2_with fail
  refine (H1.out _).mono ?_
  rintro r w' ⟨rfl, rfl⟩
  go_wp2_with fail
  refine (H2.out _).mono ?_
  rintro r w' ⟨rfl, rfl⟩
  go_wp2_with fail
  go_ret3
  exact ⟨_, rfl, Out.one' _ _ (w.heap.size + 1 + 1 + 1 + 1) _ (by simp) (by omega), (by repeat (first | exact Below.refl _ _ | assumption | (refine Below.alloc ?_ (by first | (simp; done) | (simp; omega)) _) | (refine Below.setCell ?_ (by first | (simp; done) | (simp; omega)) _) | (refine Below.drew ?_)))⟩
set_option maxRecDepth 100000 in
set_option maxHeartbeats 1000000 in
theorem pieceS_g (s : ByteArray) (w : World) (hs : 0 < s.size) (p1 : pre3 27 40 66 s = false) (p2 : pre3 27 36 66 s = false) (h0 : ((s[0].toNat : Int) == 27) = false) (h1 : ((s[0].toNat : Int) == 10) = false) (h2 : ¬ (33 ≤ (s[0].toNat : Int) ∧ (s[0].toNat : Int) ≤ 126)) : Calls Try.prog 43 #[.int .i64 2, .string s, .int .i64 1] w (PP w [-1] 1 1) := by
  have hb := s[0].toNat_lt
  have H1 := hid (fun w1 => pre3_c 27 40 66 s _ p1 w1)
  have H2 := hid (fun w1 => pre3_c 27 36 66 s _ p2 w1)
  clear p1 p2
  replace h2 := hid h2
  go_enter Try.func43, Try.ntmps43
  go_wp2_with fail
  refine (H1.out _).mono ?_
  rintro r w' ⟨rfl, rfl⟩
  go_wp2_with fail
  refine (H2.out _).mono ?_
  rintro r w' ⟨rfl, rfl⟩
  go_wp2_with fail
  refine (inR_no _ _ _ _ h2.out).mono ?_
  rintro r w' ⟨rfl, rfl⟩
  go_wp2_with fail
  go_ret3
  exact ⟨_, rfl, Out.one' _ _ (w.heap.size + 1 + 1 + 1) _ (by simp) (by omega), (by repeat (first | exact Below.refl _ _ | assumption | (refine Below.alloc ?_ (by first | (simp; done) | (simp; omega)) _) | (refine Below.setCell ?_ (by first | (simp; done) | (simp; omega)) _) | (refine Below.drew ?_)))⟩
set_option maxRecDepth 100000 in
set_option maxHeartbeats 1000000 in
theorem pieceS_h (s : ByteArray) (w : World) (hs : 0 < s.size) (p1 : pre3 27 40 66 s = false) (p2 : pre3 27 36 66 s = false) (h0 : ((s[0].toNat : Int) == 27) = false) (h1 : ((s[0].toNat : Int) == 10) = false) (h2 : 33 ≤ (s[0].toNat : Int)) (h3 : (s[0].toNat : Int) ≤ 126) (h4 : 33 ≤ gl s 1) (h5 : gl s 1 ≤ 126) : Calls Try.prog 43 #[.int .i64 2, .string s, .int .i64 1] w (PP w [(12288 : Int) + (94 : Int) * ((s[0].toNat : Int) - 33) + gl s 1 - 33] 2 1) := by
  have hb := s[0].toNat_lt
  have H1 := hid (fun w1 => pre3_c 27 40 66 s _ p1 w1)
  have H2 := hid (fun w1 => pre3_c 27 36 66 s _ p2 w1)
  clear p1 p2
  obtain ⟨x1, x2⟩ := gl_lt s 1
  have HG : ∀ a w1, w1.cell? a = some (.string s) → Calls Try.prog 69 #[.int .i64 1, .pointer (some a)] w1 fun e w' => e = .returned (.int .i64 (gl s 1)) ∧ w1 = w' := fun a w1 h => get_any s 1 a w1 (by decide) h
  replace HG := hid HG
  generalize gl s 1 = x at *
  go_enter Try.func43, Try.ntmps43
  go_wp2_with fail
  refine (H1.out _).mono ?_
  rintro r w' ⟨rfl, rfl⟩
  go_wp2_with fail
  refine (H2.out _).mono ?_
  rintro r w' ⟨rfl, rfl⟩
  go_wp2_with fail
  refine (inR_yes _ _ _ _ (by omega) (by omega)).mono ?_
  rintro r w' ⟨rfl, rfl⟩
  go_wp2_with fail
  refine (HG.out _ _ (by simp [go_sem])).mono ?_
  rintro r w' ⟨rfl, rfl⟩
  go_wp2_with fail
  refine (inR_yes _ _ _ _ (by omega) (by omega)).mono ?_
  rintro r w' ⟨rfl, rfl⟩
  go_wp2_with fail
  refine (HG.out _ _ (by simp [go_sem])).mono ?_
  rintro r w' ⟨rfl, rfl⟩
  go_wp2_with fail
  go_ret3
  exact ⟨_, rfl, Out.one' _ _ (w.heap.size + 1 + 1 + 1 + 1) _ (by simp) (by omega), (by repeat (first | exact Below.refl _ _ | assumption | (refine Below.alloc ?_ (by first | (simp; done) | (simp; omega)) _) | (refine Below.setCell ?_ (by first | (simp; done) | (simp; omega)) _) | (refine Below.drew ?_)))⟩
set_option maxRecDepth 100000 in
set_option maxHeartbeats 1000000 in
theorem pieceS_i1 (s : ByteArray) (w : World) (hs : 0 < s.size) (p1 : pre3 27 40 66 s = false) (p2 : pre3 27 36 66 s = false) (h0 : ((s[0].toNat : Int) == 27) = false) (h1 : ((s[0].toNat : Int) == 10) = false) (h2 : 33 ≤ (s[0].toNat : Int)) (h3 : (s[0].toNat : Int) ≤ 126) (h4 : gl s 1 = 27) : Calls Try.prog 43 #[.int .i64 2, .string s, .int .i64 1] w (PP w [-1] 1 1) := by
  have hb := s[0].toNat_lt
  have H1 := hid (fun w1 => pre3_c 27 40 66 s _ p1 w1)
  have H2 := hid (fun w1 => pre3_c 27 36 66 s _ p2 w1)
  clear p1 p2
  obtain ⟨x1, x2⟩ := gl_lt s 1
  have HG : ∀ a w1, w1.cell? a = some (.string s) → Calls Try.prog 69 #[.int .i64 1, .pointer (some a)] w1 fun e w' => e = .returned (.int .i64 (gl s 1)) ∧ w1 = w' := fun a w1 h => get_any s 1 a w1 (by decide) h
  replace HG := hid HG
  generalize gl s 1 = x at *
  subst h4
  go_enter Try.func43, Try.ntmps43
  go_wp2_with fail
  refine (H1.out _).mono ?_
  rintro r w' ⟨rfl, rfl⟩
  go_wp2_with fail
  refine (H2.out _).mono ?_
  rintro r w' ⟨rfl, rfl⟩
  go_wp2_with fail
  refine (inR_yes _ _ _ _ (by omega) (by omega)).mono ?_
  rintro r w' ⟨rfl, rfl⟩
  go_wp2_with fail
  refine (HG.out _ _ (by simp [go_sem])).mono ?_
  rintro r w' ⟨rfl, rfl⟩
  go_wp2_with fail
  refine (inR_no _ _ _ _ (by omega)).mono ?_
  rintro r w' ⟨rfl, rfl⟩
  go_wp2_with fail
  refine (HG.out _ _ (by simp [go_sem])).mono ?_
  rintro r w' ⟨rfl, rfl⟩
  go_wp2_with fail
  go_ret3
  exact ⟨_, rfl, Out.one' _ _ (w.heap.size + 1 + 1 + 1) _ (by simp) (by omega), (by repeat (first | exact Below.refl _ _ | assumption | (refine Below.alloc ?_ (by first | (simp; done) | (simp; omega)) _) | (refine Below.setCell ?_ (by first | (simp; done) | (simp; omega)) _) | (refine Below.drew ?_)))⟩
set_option maxRecDepth 100000 in
set_option maxHeartbeats 1000000 in
theorem pieceS_i2 (s : ByteArray) (w : World) (hs : 0 < s.size) (p1 : pre3 27 40 66 s = false) (p2 : pre3 27 36 66 s = false) (h0 : ((s[0].toNat : Int) == 27) = false) (h1 : ((s[0].toNat : Int) == 10) = false) (h2 : 33 ≤ (s[0].toNat : Int)) (h3 : (s[0].toNat : Int) ≤ 126) (h4 : gl s 1 < 0) : Calls Try.prog 43 #[.int .i64 2, .string s, .int .i64 1] w (PP w [-1] 1 1) := by
  have hb := s[0].toNat_lt
  have H1 := hid (fun w1 => pre3_c 27 40 66 s _ p1 w1)
  have H2 := hid (fun w1 => pre3_c 27 36 66 s _ p2 w1)
  clear p1 p2
  obtain ⟨x1, x2⟩ := gl_lt s 1
  have HG : ∀ a w1, w1.cell? a = some (.string s) → Calls Try.prog 69 #[.int .i64 1, .pointer (some a)] w1 fun e w' => e = .returned (.int .i64 (gl s 1)) ∧ w1 = w' := fun a w1 h => get_any s 1 a w1 (by decide) h
  replace HG := hid HG
  generalize gl s 1 = x at *
  go_enter Try.func43, Try.ntmps43
  go_wp2_with fail
  refine (H1.out _).mono ?_
  rintro r w' ⟨rfl, rfl⟩
  go_wp2_with fail
  refine (H2.out _).mono ?_
  rintro r w' ⟨rfl, rfl⟩
  go_wp2_with fail
  refine (inR_yes _ _ _ _ (by omega) (by omega)).mono ?_
  rintro r w' ⟨rfl, rfl⟩
  go_wp2_with fail
  refine (HG.out _ _ (by simp [go_sem])).mono ?_
  rintro r w' ⟨rfl, rfl⟩
  go_wp2_with fail
  refine (inR_no _ _ _ _ (by omega)).mono ?_
  rintro r w' ⟨rfl, rfl⟩
  go_wp2_with fail
  refine (HG.out _ _ (by simp [go_sem])).mono ?_
  rintro r w' ⟨rfl, rfl⟩
  go_wp2_with fail
  refine (HG.out _ _ (by simp [go_sem])).mono ?_
  rintro r w' ⟨rfl, rfl⟩
  go_wp2_with fail
  go_ret3
  exact ⟨_, rfl, Out.one' _ _ (w.heap.size + 1 + 1 + 1) _ (by simp) (by omega), (by repeat (first | exact Below.refl _ _ | assumption | (refine Below.alloc ?_ (by first | (simp; done) | (simp; omega)) _) | (refine Below.setCell ?_ (by first | (simp; done) | (simp; omega)) _) | (refine Below.drew ?_)))⟩
set_option maxRecDepth 100000 in
set_option maxHeartbeats 1000000 in
theorem pieceS_j (s : ByteArray) (w : World) (hs : 0 < s.size) (p1 : pre3 27 40 66 s = false) (p2 : pre3 27 36 66 s = false) (h0 : ((s[0].toNat : Int) == 27) = false) (h1 : ((s[0].toNat : Int) == 10) = false) (h2 : 33 ≤ (s[0].toNat : Int)) (h3 : (s[0].toNat : Int) ≤ 126) (h4 : ¬ (33 ≤ gl s 1 ∧ gl s 1 ≤ 126)) (h5 : (gl s 1 == 27) = false) (h6 : 0 ≤ gl s 1) : Calls Try.prog 43 #[.int .i64 2, .string s, .int .i64 1] w (PP w [-1] 2 1) := by
  have hb := s[0].toNat_lt
  have H1 := hid (fun w1 => pre3_c 27 40 66 s _ p1 w1)
  have H2 := hid (fun w1 => pre3_c 27 36 66 s _ p2 w1)
  clear p1 p2
  obtain ⟨x1, x2⟩ := gl_lt s 1
  have HG : ∀ a w1, w1.cell? a = some (.string s) → Calls Try.prog 69 #[.int .i64 1, .pointer (some a)] w1 fun e w' => e = .returned (.int .i64 (gl s 1)) ∧ w1 = w' := fun a w1 h => get_any s 1 a w1 (by decide) h
  replace HG := hid HG
  generalize gl s 1 = x at *
  replace h4 := hid h4
  go_enter Try.func43, Try.ntmps43
  go_wp2_with fail
  refine (H1.out _).mono ?_
  rintro r w' ⟨rfl, rfl⟩
  go_wp2_with fail
  refine (H2.out _).mono ?_
  rintro r w' ⟨rfl, rfl⟩
  go_wp2_with fail
  refine (inR_yes _ _ _ _ (by omega) (by omega)).mono ?_
  rintro r w' ⟨rfl, rfl⟩
  go_wp2_with fail
  refine (HG.out _ _ (by simp [go_sem])).mono ?_
  rintro r w' ⟨rfl, rfl⟩
  go_wp2_with fail
  refine (inR_no _ _ _ _ h4.out).mono ?_
  rintro r w' ⟨rfl, rfl⟩
  go_wp2_with fail
  refine (HG.out _ _ (by simp [go_sem])).mono ?_
  rintro r w' ⟨rfl, rfl⟩
  go_wp2_with fail
  refine (HG.out _ _ (by simp [go_sem])).mono ?_
  rintro r w' ⟨rfl, rfl⟩
  go_wp2_with fail
  go_ret3
  exact ⟨_, rfl, Out.one' _ _ (w.heap.size + 1 + 1 + 1) _ (by simp) (by omega), (by repeat (first | exact Below.refl _ _ | assumption | (refine Below.alloc ?_ (by first | (simp; done) | (simp; omega)) _) | (refine Below.setCell ?_ (by first | (simp; done) | (simp; omega)) _) | (refine Below.drew ?_)))⟩
end Go.Proofs.Ytloaemijhggheaa
