/- The reference's piece: its closures and its ways (Twin). -/
import Derived.Test.YtloaemijhggheaaWhole
import Derived.Test.YtloaemijhggheaaWGood2
import Derived.Test.YtloaemijhggheaaPure2
import Derived.Deep.QuietTactic
import Derived.BigQuiet
namespace Go.Proofs.Ytloaemijhggheaa
open Go.RowKit
attribute [local go_sem ↓] run_eqS run_neS
attribute [local go_sem] byte_at0 byte_at20 byte_at21 w64 S.v and63 and31 and15 and7 kw kw256

theorem run_store_fn (P : Program) (w : World) (a : Addr) (m : Mode) (f : Fn) (x y : Array Value) : (store a (.func f x y) m).run P w = stored P w a (.func f x y) m := run_store P w a _ m rfl
attribute [local go_sem] run_store_fn
set_option maxHeartbeats 400000 in
theorem inR_yes (x lo hi : Int) (w : World) (h1 : lo ≤ x) (h2 : x ≤ hi) : Calls Try.prog 70 #[.int .i64 x, .int .i64 lo, .int .i64 hi] w fun e w' => e = .returned (.bool true) ∧ w = w' := by
  go_enter Try.func70, Try.ntmps70
  go_wp2
  go_ret
  exact ⟨rfl, rfl⟩
set_option maxHeartbeats 400000 in
theorem inR_no (x lo hi : Int) (w : World) (h : ¬ (lo ≤ x ∧ x ≤ hi)) : Calls Try.prog 70 #[.int .i64 x, .int .i64 lo, .int .i64 hi] w fun e w' => e = .returned (.bool false) ∧ w = w' := by
  by_cases h1 : lo ≤ x
  · have h2 : ¬ x ≤ hi := fun h2 => h ⟨h1, h2⟩
    clear h
    go_enter Try.func70, Try.ntmps70
    go_wp2
    go_ret
    exact ⟨rfl, rfl⟩
  · clear h
    go_enter Try.func70, Try.ntmps70
    go_wp2
    go_ret
    exact ⟨rfl, rfl⟩
/-- The byte at a place; -1: there is none. -/
def gl (s : ByteArray) (i : Nat) : Int := if h : i < s.size then (s[i].toNat : Int) else -1
theorem gl_lt (s : ByteArray) (i : Nat) : -1 ≤ gl s i ∧ gl s i ≤ 255 := by
  unfold gl
  split
  · have := (s[i]).toNat_lt; omega
  · omega
set_option maxHeartbeats 400000 in
theorem get_at (s : ByteArray) (k : Nat) (a : Addr) (w : World) (hc : w.cell? a = some (.string s)) (hk : k < s.size) : Calls Try.prog 69 #[.int .i64 (k : Int), .pointer (some a)] w fun e w' => e = .returned (.int .i64 (gl s k)) ∧ w = w' := by
  have e : gl s k = (s[k].toNat : Int) := by unfold gl; rw [dif_pos hk]
  rw [e]
  clear e
  have h1 : (k : Int) < (s.size : Int) := by omega
  go_enter Try.func69, Try.ntmps69
  go_wp2_with fail
  go_ret
  exact ⟨rfl, rfl⟩
set_option maxHeartbeats 400000 in
theorem get_off (s : ByteArray) (k : Nat) (a : Addr) (w : World) (hc : w.cell? a = some (.string s)) (hk : ¬ k < s.size) : Calls Try.prog 69 #[.int .i64 (k : Int), .pointer (some a)] w fun e w' => e = .returned (.int .i64 (gl s k)) ∧ w = w' := by
  have e : gl s k = -1 := by unfold gl; rw [dif_neg hk]
  rw [e]
  clear e
  have h1 : ¬ (k : Int) < (s.size : Int) := by omega
  go_enter Try.func69, Try.ntmps69
  go_wp2_with fail
  go_ret
  exact ⟨rfl, rfl⟩
theorem get_any (s : ByteArray) (i : Int) (a : Addr) (w : World) (hi : 0 ≤ i) (hc : w.cell? a = some (.string s)) : Calls Try.prog 69 #[.int .i64 i, .pointer (some a)] w fun e w' => e = .returned (.int .i64 (gl s i.toNat)) ∧ w = w' := by
  obtain ⟨k, rfl⟩ := Int.eq_ofNat_of_zero_le hi
  rw [Int.toNat_natCast]
  by_cases hk : k < s.size
  · exact get_at s k a w hc hk
  · exact get_off s k a w hc hk
/-- A piece: what it tells, how many bytes it has, the mode behind it. -/
def PP (w : World) (l : List Int) (n m : Int) (e : Ending) (w' : World) : Prop := ∃ v, e = .returned (.tuple #[v, .int .i64 n, .int .i64 m]) ∧ Out w' w.heap.size v l ∧ Below w.heap.size w w'
set_option maxRecDepth 100000 in
set_option maxHeartbeats 1000000 in
theorem pieceT_a (s : ByteArray) (md : Int) (w : World) (hs : 0 < s.size) (h : (s[0].toNat : Int) < 128) : Calls Try.prog 43 #[.int .i64 3, .string s, .int .i64 md] w (PP w [(s[0].toNat : Int)] 1 0) := by
  go_enter Try.func43, Try.ntmps43
  go_wp2_with fail
  refine (get_any s 1 _ _ (by decide) (by simp [go_sem])).mono ?_
  rintro r w' ⟨rfl, rfl⟩
  simp only [show (1 : Int).toNat = 1 from rfl]
  go_wp2_with fail
  go_ret3
  exact ⟨_, rfl, Out.one' _ _ (w.heap.size + 1 + 1 + 1 + 1) _ (by simp) (by omega), (by repeat (first | exact Below.refl _ _ | assumption | (refine Below.alloc ?_ (by first | (simp; done) | (simp; omega)) _) | (refine Below.setCell ?_ (by first | (simp; done) | (simp; omega)) _) | (refine Below.drew ?_)))⟩
set_option maxRecDepth 100000 in
set_option maxHeartbeats 1000000 in
theorem pieceT_b (s : ByteArray) (md : Int) (w : World) (hs : 0 < s.size) (h1 : 161 ≤ (s[0].toNat : Int)) (h2 : (s[0].toNat : Int) ≤ 223) : Calls Try.prog 43 #[.int .i64 3, .string s, .int .i64 md] w (PP w [65377 + (s[0].toNat : Int) - 161] 1 0) := by
  have hb := s[0].toNat_lt
  have hx := gl_lt s 1
  go_enter Try.func43, Try.ntmps43
  go_wp2_with fail
  refine (get_any s 1 _ _ (by decide) (by simp [go_sem])).mono ?_
  rintro r w' ⟨rfl, rfl⟩
  simp only [show (1 : Int).toNat = 1 from rfl]
  generalize gl s 1 = x at *
  go_wp2_with fail
  refine (inR_yes _ _ _ _ (by omega) (by omega)).mono ?_
  rintro r w' ⟨rfl, rfl⟩
  go_wp2_with fail
  go_ret3
  exact ⟨_, rfl, Out.one' _ _ (w.heap.size + 1 + 1 + 1 + 1) _ (by simp) (by omega), (by repeat (first | exact Below.refl _ _ | assumption | (refine Below.alloc ?_ (by first | (simp; done) | (simp; omega)) _) | (refine Below.setCell ?_ (by first | (simp; done) | (simp; omega)) _) | (refine Below.drew ?_)))⟩
set_option maxRecDepth 100000 in
set_option maxHeartbeats 1000000 in
theorem pieceT_c (s : ByteArray) (md : Int) (w : World) (hs : 0 < s.size) (h0 : 128 ≤ (s[0].toNat : Int)) (h1 : ¬ (161 ≤ (s[0].toNat : Int) ∧ (s[0].toNat : Int) ≤ 223)) (h2 : ¬ (129 ≤ (s[0].toNat : Int) ∧ (s[0].toNat : Int) ≤ 159)) : Calls Try.prog 43 #[.int .i64 3, .string s, .int .i64 md] w (PP w [-1] 1 0) := by
  have g1 := hid h1
  have g2 := hid h2
  clear h1 h2
  have hb := s[0].toNat_lt
  have hx := gl_lt s 1
  go_enter Try.func43, Try.ntmps43
  go_wp2_with fail
  refine (get_any s 1 _ _ (by decide) (by simp [go_sem])).mono ?_
  rintro r w' ⟨rfl, rfl⟩
  simp only [show (1 : Int).toNat = 1 from rfl]
  generalize gl s 1 = x at *
  go_wp2_with fail
  refine (inR_no _ _ _ _ (g1.out)).mono ?_
  rintro r w' ⟨rfl, rfl⟩
  go_wp2_with fail
  refine (inR_no _ _ _ _ (g2.out)).mono ?_
  rintro r w' ⟨rfl, rfl⟩
  go_wp2_with fail
  go_ret3
  exact ⟨_, rfl, Out.one' _ _ (w.heap.size + 1 + 1 + 1) _ (by simp) (by omega), (by repeat (first | exact Below.refl _ _ | assumption | (refine Below.alloc ?_ (by first | (simp; done) | (simp; omega)) _) | (refine Below.setCell ?_ (by first | (simp; done) | (simp; omega)) _) | (refine Below.drew ?_)))⟩
set_option maxRecDepth 100000 in
set_option maxHeartbeats 1000000 in
theorem pieceT_d (s : ByteArray) (md : Int) (w : World) (hs : 0 < s.size) (h1 : 129 ≤ (s[0].toNat : Int)) (h2 : (s[0].toNat : Int) ≤ 159) (h3 : 64 ≤ gl s 1) (h4 : gl s 1 ≤ 126) : Calls Try.prog 43 #[.int .i64 3, .string s, .int .i64 md] w (PP w [(19968 : Int) + (188 : Int) * ((s[0].toNat : Int) - 129) + gl s 1 - 64] 2 0) := by
  have hb := s[0].toNat_lt
  have hx := gl_lt s 1
  obtain ⟨x1, x2⟩ := hx
  have HG : ∀ a w1, w1.cell? a = some (.string s) → Calls Try.prog 69 #[.int .i64 1, .pointer (some a)] w1 fun e w' => e = .returned (.int .i64 (gl s 1)) ∧ w1 = w' := fun a w1 h => get_any s 1 a w1 (by decide) h
  replace HG := hid HG
  generalize gl s 1 = x at *
  go_enter Try.func43, Try.ntmps43
  go_wp2_with fail
  refine (HG.out _ _ (by simp [go_sem])).mono ?_
  rintro r w' ⟨rfl, rfl⟩
  go_wp2_with fail
  refine (inR_no _ _ _ _ (by omega)).mono ?_
  rintro r w' ⟨rfl, rfl⟩
  go_wp2_with fail
  refine (inR_yes _ _ _ _ (by omega) (by omega)).mono ?_
  rintro r w' ⟨rfl, rfl⟩
  go_wp2_with fail
  refine (inR_yes _ _ _ _ (by omega) (by omega)).mono ?_
  rintro r w' ⟨rfl, rfl⟩
  go_wp2_with fail
  go_ret3
  exact ⟨_, rfl, Out.one' _ _ (w.heap.size + 1 + 1 + 1 + 1) _ (by simp) (by omega), (by repeat (first | exact Below.refl _ _ | assumption | (refine Below.alloc ?_ (by first | (simp; done) | (simp; omega)) _) | (refine Below.setCell ?_ (by first | (simp; done) | (simp; omega)) _) | (refine Below.drew ?_)))⟩
set_option maxRecDepth 100000 in
set_option maxHeartbeats 1000000 in
theorem pieceT_e (s : ByteArray) (md : Int) (w : World) (hs : 0 < s.size) (h1 : 129 ≤ (s[0].toNat : Int)) (h2 : (s[0].toNat : Int) ≤ 159) (h3 : 128 ≤ gl s 1) (h4 : gl s 1 ≤ 252) : Calls Try.prog 43 #[.int .i64 3, .string s, .int .i64 md] w (PP w [(19968 : Int) + (188 : Int) * ((s[0].toNat : Int) - 129) + gl s 1 - 65] 2 0) := by
  have hb := s[0].toNat_lt
  have hx := gl_lt s 1
  obtain ⟨x1, x2⟩ := hx
  have HG : ∀ a w1, w1.cell? a = some (.string s) → Calls Try.prog 69 #[.int .i64 1, .pointer (some a)] w1 fun e w' => e = .returned (.int .i64 (gl s 1)) ∧ w1 = w' := fun a w1 h => get_any s 1 a w1 (by decide) h
  replace HG := hid HG
  generalize gl s 1 = x at *
  go_enter Try.func43, Try.ntmps43
  go_wp2_with fail
  refine (HG.out _ _ (by simp [go_sem])).mono ?_
  rintro r w' ⟨rfl, rfl⟩
  go_wp2_with fail
  refine (inR_no _ _ _ _ (by omega)).mono ?_
  rintro r w' ⟨rfl, rfl⟩
  go_wp2_with fail
  refine (inR_yes _ _ _ _ (by omega) (by omega)).mono ?_
  rintro r w' ⟨rfl, rfl⟩
  go_wp2_with fail
  refine (inR_no _ _ _ _ (by omega)).mono ?_
  rintro r w' ⟨rfl, rfl⟩
  go_wp2_with fail
  refine (inR_yes _ _ _ _ (by omega) (by omega)).mono ?_
  rintro r w' ⟨rfl, rfl⟩
  go_wp2_with fail
  go_ret3
  exact ⟨_, rfl, Out.one' _ _ (w.heap.size + 1 + 1 + 1 + 1) _ (by simp) (by omega), (by repeat (first | exact Below.refl _ _ | assumption | (refine Below.alloc ?_ (by first | (simp; done) | (simp; omega)) _) | (refine Below.setCell ?_ (by first | (simp; done) | (simp; omega)) _) | (refine Below.drew ?_)))⟩
set_option maxRecDepth 100000 in
set_option maxHeartbeats 1000000 in
theorem pieceT_f (s : ByteArray) (md : Int) (w : World) (hs : 0 < s.size) (h1 : 129 ≤ (s[0].toNat : Int)) (h2 : (s[0].toNat : Int) ≤ 159) (h3 : 252 < gl s 1) : Calls Try.prog 43 #[.int .i64 3, .string s, .int .i64 md] w (PP w [-1] 2 0) := by
  have hb := s[0].toNat_lt
  have hx := gl_lt s 1
  obtain ⟨x1, x2⟩ := hx
  have HG : ∀ a w1, w1.cell? a = some (.string s) → Calls Try.prog 69 #[.int .i64 1, .pointer (some a)] w1 fun e w' => e = .returned (.int .i64 (gl s 1)) ∧ w1 = w' := fun a w1 h => get_any s 1 a w1 (by decide) h
  replace HG := hid HG
  generalize gl s 1 = x at *
  go_enter Try.func43, Try.ntmps43
  go_wp2_with fail
  refine (HG.out _ _ (by simp [go_sem])).mono ?_
  rintro r w' ⟨rfl, rfl⟩
  go_wp2_with fail
  refine (inR_no _ _ _ _ (by omega)).mono ?_
  rintro r w' ⟨rfl, rfl⟩
  go_wp2_with fail
  refine (inR_yes _ _ _ _ (by omega) (by omega)).mono ?_
  rintro r w' ⟨rfl, rfl⟩
  go_wp2_with fail
  refine (inR_no _ _ _ _ (by omega)).mono ?_
  rintro r w' ⟨rfl, rfl⟩
  go_wp2_with fail
  refine (inR_no _ _ _ _ (by omega)).mono ?_
  rintro r w' ⟨rfl, rfl⟩
  go_wp2_with fail
  go_ret3
  exact ⟨_, rfl, Out.one' _ _ (w.heap.size + 1 + 1 + 1) _ (by simp) (by omega), (by repeat (first | exact Below.refl _ _ | assumption | (refine Below.alloc ?_ (by first | (simp; done) | (simp; omega)) _) | (refine Below.setCell ?_ (by first | (simp; done) | (simp; omega)) _) | (refine Below.drew ?_)))⟩
set_option maxRecDepth 100000 in
set_option maxHeartbeats 1000000 in
theorem pieceT_g (s : ByteArray) (md : Int) (w : World) (hs : 0 < s.size) (h1 : 129 ≤ (s[0].toNat : Int)) (h2 : (s[0].toNat : Int) ≤ 159) (h3 : gl s 1 < 64 ∨ gl s 1 = 127) : Calls Try.prog 43 #[.int .i64 3, .string s, .int .i64 md] w (PP w [-1] 1 0) := by
  have hb := s[0].toNat_lt
  have hx := gl_lt s 1
  obtain ⟨x1, x2⟩ := hx
  have HG : ∀ a w1, w1.cell? a = some (.string s) → Calls Try.prog 69 #[.int .i64 1, .pointer (some a)] w1 fun e w' => e = .returned (.int .i64 (gl s 1)) ∧ w1 = w' := fun a w1 h => get_any s 1 a w1 (by decide) h
  replace HG := hid HG
  generalize gl s 1 = x at *
  go_enter Try.func43, Try.ntmps43
  go_wp2_with fail
  refine (HG.out _ _ (by simp [go_sem])).mono ?_
  rintro r w' ⟨rfl, rfl⟩
  go_wp2_with fail
  refine (inR_no _ _ _ _ (by omega)).mono ?_
  rintro r w' ⟨rfl, rfl⟩
  go_wp2_with fail
  refine (inR_yes _ _ _ _ (by omega) (by omega)).mono ?_
  rintro r w' ⟨rfl, rfl⟩
  go_wp2_with fail
  refine (inR_no _ _ _ _ (by omega)).mono ?_
  rintro r w' ⟨rfl, rfl⟩
  go_wp2_with fail
  refine (inR_no _ _ _ _ (by omega)).mono ?_
  rintro r w' ⟨rfl, rfl⟩
  have h5 : x < 128 := by omega
  clear h3
  go_wp2_with fail
  go_ret3
  exact ⟨_, rfl, Out.one' _ _ (w.heap.size + 1 + 1 + 1) _ (by simp) (by omega), (by repeat (first | exact Below.refl _ _ | assumption | (refine Below.alloc ?_ (by first | (simp; done) | (simp; omega)) _) | (refine Below.setCell ?_ (by first | (simp; done) | (simp; omega)) _) | (refine Below.drew ?_)))⟩
end Go.Proofs.Ytloaemijhggheaa
