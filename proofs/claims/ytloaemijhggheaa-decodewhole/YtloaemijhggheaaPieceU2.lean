/- The reference's piece: the ways of Utf. -/
import Derived.Test.YtloaemijhggheaaPieceT
namespace Go.Proofs.Ytloaemijhggheaa
open Go.RowKit
attribute [local go_sem ↓] run_eqS run_neS
attribute [local go_sem] byte_at0 byte_at20 byte_at21 w64 S.v and63 and31 and15 and7 kw kw256
attribute [local go_sem] run_store_fn

/-- What the bytes of a sequence tell: j bytes are wanted still, k are read. -/
def uGo (s : ByteArray) : Nat → Nat → Int → Int → Int → List Int × Nat
  | 0, k, _, _, c => ([c], k)
  | j + 1, k, lo, hi, c => if lo ≤ gl s k ∧ gl s k ≤ hi then uGo s j (k + 1) 128 191 (64 * c + gl s k - 128) else ([-1], k)
theorem p64 (k : Nat) (h : k ≤ 4) : (64 : Int) ^ k ≤ 16777216 := by
  match k, h with
  | 0, _ => decide
  | 1, _ => decide
  | 2, _ => decide
  | 3, _ => decide
  | 4, _ => decide
  | n + 5, h => omega
set_option maxRecDepth 100000 in
set_option maxHeartbeats 2000000 in
theorem pieceU_a (s : ByteArray) (md : Int) (w : World) (hs : 0 < s.size) (h : (s[0].toNat : Int) < 128) : Calls Try.prog 43 #[.int .i64 1, .string s, .int .i64 md] w (PP w [(s[0].toNat : Int)] 1 0) := by
  go_enter Try.func43, Try.ntmps43
  go_wp2_with fail
  go_ret3
  exact ⟨_, rfl, Out.one' _ _ (w.heap.size + 1 + 1 + 1 + 1) _ (by simp) (by omega), (by repeat (first | exact Below.refl _ _ | assumption | (refine Below.alloc ?_ (by first | (simp; done) | (simp; omega)) _) | (refine Below.setCell ?_ (by first | (simp; done) | (simp; omega)) _) | (refine Below.drew ?_)))⟩
set_option maxRecDepth 100000 in
set_option maxHeartbeats 2000000 in
theorem pieceU_b (s : ByteArray) (md : Int) (w : World) (hs : 0 < s.size) (h : 128 ≤ (s[0].toNat : Int)) (h1 : (s[0].toNat : Int) < 194 ∨ 244 < (s[0].toNat : Int)) : Calls Try.prog 43 #[.int .i64 1, .string s, .int .i64 md] w (PP w [-1] 1 0) := by
  have hb := s[0].toNat_lt
  replace h1 := hid h1
  go_enter Try.func43, Try.ntmps43
  go_wp2_with fail
  refine (inR_no _ _ _ _ (by have := h1.out; omega)).mono ?_
  rintro r w' ⟨rfl, rfl⟩
  go_wp2_with fail
  refine (inR_no _ _ _ _ (by have := h1.out; omega)).mono ?_
  rintro r w' ⟨rfl, rfl⟩
  go_wp2_with fail
  refine (inR_no _ _ _ _ (by have := h1.out; omega)).mono ?_
  rintro r w' ⟨rfl, rfl⟩
  go_wp2_with fail
  go_ret3
  exact ⟨_, rfl, Out.one' _ _ (w.heap.size + 1 + 1 + 1) _ (by simp) (by omega), (by repeat (first | exact Below.refl _ _ | assumption | (refine Below.alloc ?_ (by first | (simp; done) | (simp; omega)) _) | (refine Below.setCell ?_ (by first | (simp; done) | (simp; omega)) _) | (refine Below.drew ?_)))⟩
set_option maxRecDepth 100000 in
set_option maxHeartbeats 2000000 in
theorem pieceU_2 (s : ByteArray) (md : Int) (w : World) (hs : 0 < s.size) (h1 : 194 ≤ (s[0].toNat : Int)) (h2 : (s[0].toNat : Int) ≤ 223) (l : List Int) (m : Nat) (hu : uGo s 1 1 128 191 ((s[0].toNat : Int) % 32) = (l, m)) : Calls Try.prog 43 #[.int .i64 1, .string s, .int .i64 md] w (PP w l (m : Int) 0) := by
  have hb := s[0].toNat_lt
  have e0 : ¬ (s[0].toNat : Int) < 128 := by omega
  have e224 : ((s[0].toNat : Int) == 224) = false := by simp; omega
  have e237 : ((s[0].toNat : Int) == 237) = false := by simp; omega
  have e240 : ((s[0].toNat : Int) == 240) = false := by simp; omega
  have e244 : ((s[0].toNat : Int) == 244) = false := by simp; omega
  replace hu := hid hu
  go_enter Try.func43, Try.ntmps43
  go_wp2_with fail
  refine (inR_yes _ _ _ _ (by omega) (by omega)).mono ?_
  rintro r w' ⟨rfl, rfl⟩
  go_wp2_with fail
  go_loopw [14, 15, 16, 17] (fun a b c i wr => ∃ (j k : Nat) (L M C : Int), j + k = 2 ∧ 1 ≤ k ∧ a = .int .i64 L ∧ b = .int .i64 M ∧ c = .int .i64 C ∧ i = .int .i64 (k : Int) ∧ 0 ≤ C ∧ C < 64 ^ k ∧ 128 ≤ L ∧ M ≤ 191 ∧ uGo s j k L M C = (l, m) ∧ ((((w.alloc (.cells #[.int .i64 1] 3)).alloc (.cells #[.string s] 9)).alloc (.cells #[.func (.func 69) #[] #[.pointer (some ⟨w.heap.size + 1, 0, none⟩)]] 37)).alloc (.cells #[.int .i64 (-1)] 3)) = wr) (fun _ _ _ i _ => 2 - (intOf i).toNat)
  case atStart => exact ⟨1, 1, 128, 191, (s[0].toNat : Int) % 32, rfl, Nat.le_refl 1, rfl, rfl, by first | rfl | simp [*], rfl, by omega, by omega, by omega, by omega, hu.out, rfl⟩
  case round =>
    clear hu
    obtain ⟨j, k, L, M, C, hj, hk, rfl, rfl, rfl, rfl, g1, g2, g3, g4, hu, rfl⟩ := hrel
    have hp := p64 k (by omega)
    have hp2 : (64 : Int) ^ (k + 1) = 64 ^ k * 64 := Int.pow_succ ..
    obtain ⟨x1, x2⟩ := gl_lt s k
    have HG : ∀ a w1, w1.cell? a = some (.string s) → Calls Try.prog 69 #[.int .i64 (k : Int), .pointer (some a)] w1 fun e w' => e = .returned (.int .i64 (gl s k)) ∧ w1 = w' := fun a w1 h => get_any s (k : Int) a w1 (by omega) h
    replace HG := hid HG
    cases j with
    | zero =>
      obtain rfl : k = 2 := by omega
      rw [uGo] at hu
      obtain ⟨rfl, rfl⟩ := Prod.mk.inj hu
      clear hp2 hp HG g2
      go_wp2_with fail
      go_ret3
      exact ⟨_, rfl, Out.one' _ _ (w.heap.size + 1 + 1 + 1 + 1) _ (by simp) (by omega), (by repeat (first | exact Below.refl _ _ | assumption | (refine Below.alloc ?_ (by first | (simp; done) | (simp; omega)) _) | (refine Below.setCell ?_ (by first | (simp; done) | (simp; omega)) _) | (refine Below.drew ?_)))⟩
    | succ j =>
      rw [uGo] at hu
      generalize gl s k = x at *
      generalize (64 : Int) ^ k = p at *
      have b0 : (k : Int) < 2 := by omega
      by_cases hin : L ≤ x ∧ x ≤ M
      · rw [if_pos hin] at hu
        replace hu := hid hu
        obtain ⟨i1, i2⟩ := hin
        go_wp2_with fail
        refine (HG.out _ _ (by simp [go_sem])).mono ?_
        rintro r w' ⟨rfl, rfl⟩
        go_wp2_with fail
        refine (inR_yes _ _ _ _ i1 i2).mono ?_
        rintro r w' ⟨rfl, rfl⟩
        go_wp2_with fail
        refine (HG.out _ _ (by simp [go_sem])).mono ?_
        rintro r w' ⟨rfl, rfl⟩
        go_wp2_with fail
        go_roundw
        case rel => exact ⟨j, k + 1, 128, 191, 64 * C + x - 128, by omega, by omega, rfl, rfl, by go_num, by go_num, by omega, by omega, by omega, by omega, hu.out, trivial⟩
        case measure => simp [intOf]; omega
      · rw [if_neg hin] at hu
        obtain ⟨rfl, rfl⟩ := Prod.mk.inj hu
        replace hin := hid hin
        go_wp2_with fail
        refine (HG.out _ _ (by simp [go_sem])).mono ?_
        rintro r w' ⟨rfl, rfl⟩
        go_wp2_with fail
        refine (inR_no _ _ _ _ hin.out).mono ?_
        rintro r w' ⟨rfl, rfl⟩
        go_wp2_with fail
        go_ret3
        exact ⟨_, rfl, Out.one' _ _ (w.heap.size + 1 + 1 + 1) _ (by simp) (by omega), (by repeat (first | exact Below.refl _ _ | assumption | (refine Below.alloc ?_ (by first | (simp; done) | (simp; omega)) _) | (refine Below.setCell ?_ (by first | (simp; done) | (simp; omega)) _) | (refine Below.drew ?_)))⟩
end Go.Proofs.Ytloaemijhggheaa
