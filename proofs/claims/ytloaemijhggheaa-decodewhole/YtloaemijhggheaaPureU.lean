/- Plain mathematics: the pieces of Utf. -/
import Derived.Test.YtloaemijhggheaaQT
import Derived.Test.YtloaemijhggheaaPieceU3
import Derived.Test.YtloaemijhggheaaPieceU4
namespace Go.Proofs.Ytloaemijhggheaa
open Go.RowKit

theorem list_at' (s : ByteArray) (k : Nat) (h : k < s.size) : s.data.toList.drop k = s[k] :: s.data.toList.drop (k + 1) := by
  rw [List.drop_eq_getElem_cons (by simpa using h)]
  rfl
theorem decU_refuse {q q' : U} {b : UInt8} {l : List Int} (r : List UInt8) (hq : q.ok) (h : U.offer q b = (q', l, true)) : decU q (b :: r) = l ++ decU q' (b :: r) := conU.refuse r hq h
/-- What is told of a sequence is what the machine tells. -/
theorem uGo_dec (s : ByteArray) : ∀ (j k : Nat) (lo hi c : Int), 1 ≤ k → k ≤ s.size → U.ok (.seq ((j : Int) + 1) c) → lo = loU ((j : Int) + 1) c → hi = hiU ((j : Int) + 1) c →
    ∃ l n, uGo s (j + 1) k lo hi c = (l, n) ∧ l.length ≤ 1 ∧ k ≤ n ∧ n ≤ s.size ∧ decU (.seq ((j : Int) + 1) c) (s.data.toList.drop k) = l ++ decU .zero (s.data.toList.drop n) := by
  intro j
  induction j with
  | zero =>
    intro k lo hi c hk hz hok hlo hhi
    have e1 : ((0 : Nat) : Int) + 1 = 1 := rfl
    rw [e1] at hok hlo hhi ⊢
    rw [uGo]
    by_cases hs : k < s.size
    · rw [gl_at s k hs, list_at' s k hs]
      have hb := nb_lt s[k]; have hb0 := nb_nonneg s[k]
      by_cases hin : lo ≤ nb s[k] ∧ nb s[k] ≤ hi
      · rw [if_pos hin, uGo]
        refine ⟨_, _, rfl, Nat.le_refl 1, by omega, by omega, ?_⟩
        have h1 : lo = 128 := by rw [hlo]; unfold loU; rw [if_neg (by omega), if_neg (by omega)]
        have h2 : hi = 191 := by rw [hhi]; unfold hiU; rw [if_neg (by omega), if_neg (by omega)]
        rw [decU_once _ (offU_last c _ (by omega) (by omega))]
        rw [show 64 * c + nb s[k] - 128 = c * 64 + nb s[k] % 64 by omega]
      · rw [if_neg hin]
        refine ⟨_, _, rfl, Nat.le_refl 1, Nat.le_refl _, by omega, ?_⟩
        have : U.offer (.seq 1 c) s[k] = (.zero, [-1], true) := by simp only [U.offer]; rw [if_pos (by omega)]
        rw [decU_refuse _ hok this, list_at' s k hs]
    · rw [gl_off s k (by omega), list_end s k (by omega)]
      have h1 : 128 ≤ lo := by rw [hlo]; unfold loU; rw [if_neg (by omega), if_neg (by omega)]; omega
      rw [if_neg (by omega)]
      refine ⟨_, _, rfl, Nat.le_refl 1, Nat.le_refl _, by omega, ?_⟩
      rw [list_end s k (by omega), decU_nil, decU_nil]; rfl
  | succ j ih =>
    intro k lo hi c hk hz hok hlo hhi
    have hl128 : 128 ≤ lo := by rw [hlo]; unfold loU; repeat (first | omega | split)
    have hh191 : hi ≤ 191 := by rw [hhi]; unfold hiU; repeat (first | omega | split)
    rw [uGo]
    by_cases hs : k < s.size
    · rw [gl_at s k hs, list_at' s k hs]
      have hb := nb_lt s[k]; have hb0 := nb_nonneg s[k]
      by_cases hin : lo ≤ nb s[k] ∧ nb s[k] ≤ hi
      · rw [if_pos hin]
        have hoff := offU_more (((j + 1 : Nat) : Int) + 1) c s[k] (by omega) (by rw [← hlo]; exact hin.1) (by rw [← hhi]; exact hin.2)
        have hok2 := conU.law.step (.seq (((j + 1 : Nat) : Int) + 1) c) s[k] hok
        change U.ok (U.offer (.seq (((j + 1 : Nat) : Int) + 1) c) s[k]).1 at hok2
        rw [hoff] at hok2
        rw [decU_once _ hoff]
        have e2 : ((j + 1 : Nat) : Int) + 1 - 1 = (j : Int) + 1 := by omega
        have e3 : c * 64 + nb s[k] % 64 = 64 * c + nb s[k] - 128 := by omega
        rw [e2, e3] at hok2 ⊢
        change U.ok (.seq ((j : Int) + 1) (64 * c + nb s[k] - 128)) at hok2
        have hc : (j = 0) ∨ (j = 1 ∧ ¬ (64 * c + nb s[k] - 128 = 0) ∧ ¬ (64 * c + nb s[k] - 128 = 13)) := by
          simp only [U.ok] at hok
          by_cases hj : j = 0
          · exact Or.inl hj
          · refine Or.inr ⟨by omega, ?_, ?_⟩
            · intro e
              have c0 : c = 0 := by omega
              have : lo = 144 := by rw [hlo]; unfold loU; rw [if_neg (by omega), if_pos (by omega)]
              omega
            · intro e
              have c0 : c = 0 := by omega
              have : lo = 144 := by rw [hlo]; unfold loU; rw [if_neg (by omega), if_pos (by omega)]
              omega
        obtain ⟨l, n, h1, h2, h3, h4, h5⟩ := ih (k + 1) 128 191 (64 * c + nb s[k] - 128) (by omega) (by omega) hok2 (by unfold loU; rw [if_neg (by omega), if_neg (by omega)]) (by unfold hiU; rw [if_neg (by omega), if_neg (by omega)])
        exact ⟨l, n, h1, h2, by omega, h4, h5⟩
      · rw [if_neg hin]
        refine ⟨_, _, rfl, Nat.le_refl 1, Nat.le_refl _, by omega, ?_⟩
        have : U.offer (.seq (((j + 1 : Nat) : Int) + 1) c) s[k] = (.zero, [-1], true) := by simp only [U.offer]; rw [if_pos (by omega)]
        rw [decU_refuse _ hok this, list_at' s k hs]
    · rw [gl_off s k (by omega), list_end s k (by omega)]
      rw [if_neg (by omega)]
      refine ⟨_, _, rfl, Nat.le_refl 1, Nat.le_refl _, by omega, ?_⟩
      rw [list_end s k (by omega), decU_nil, decU_nil]; rfl
theorem offU_bad (b : UInt8) (h : 128 ≤ nb b) (h1 : nb b < 194 ∨ 244 < nb b) : U.offer .zero b = (.zero, [-1], false) := by
  simp only [U.offer]
  unfold firstU
  rw [if_neg (by omega), if_neg (by omega), if_neg (by omega), if_neg (by omega)]
theorem okU_step (q : U) (b : UInt8) (hq : U.ok q) : U.ok (U.offer q b).1 := conU.law.step q b hq
theorem okU_gen {b : UInt8} {p q : U} (hp : U.ok p) (h : U.offer p b = (q, [], false)) : q.ok := by
  have h1 := okU_step p b hp
  rw [h] at h1
  exact h1
theorem okU_of {b : UInt8} {q : U} (h : U.offer .zero b = (q, [], false)) : q.ok := okU_gen (p := .zero) trivial h
/-- From the first byte on. -/
theorem uPiece (s : ByteArray) (hs : 0 < s.size) (j : Nat) (lo hi c : Int) (md : Int) (hoff : U.offer .zero s[0] = (.seq ((j : Int) + 1) c, [], false)) (hok : U.ok (.seq ((j : Int) + 1) c)) (hlo : lo = loU ((j : Int) + 1) c) (hhi : hi = hiU ((j : Int) + 1) c)
    (H : ∀ (w : World) (l : List Int) (m : Nat), uGo s (j + 1) 1 lo hi c = (l, m) → Calls Try.prog 43 #[.int .i64 1, .string s, .int .i64 md] w (PP w l (m : Int) 0)) :
    ∃ (l : List Int) (n : Nat) (m : Int), m = 0 ∧ 0 < n ∧ n ≤ s.size ∧ l.length ≤ 1 ∧ (∀ w, Calls Try.prog 43 #[.int .i64 1, .string s, .int .i64 md] w (PP w l (n : Int) m)) ∧ decU .zero s.data.toList = l ++ decU .zero (s.data.toList.drop n) := by
  obtain ⟨l, n, h1, h2, h3, h4, h5⟩ := uGo_dec s j 1 lo hi c (Nat.le_refl 1) hs hok hlo hhi
  refine ⟨l, n, 0, rfl, by omega, h4, h2, fun w => H w l n h1, ?_⟩
  rw [← h5]
  conv => lhs; rw [list_of s hs, decU_once _ hoff]
  rfl
theorem piecesU : Pieces 1 mU (fun _ => .zero) (fun md => md = 0) where
  start := ⟨rfl, rfl⟩
  done := fun _ _ => rfl
  piece := fun s md hs _ _ => by
    have hl := list_of s hs
    have hb := nb_lt s[0]; have hb0 := nb_nonneg s[0]
    show ∃ (l : List Int) (n : Nat) (m : Int), m = 0 ∧ 0 < n ∧ n ≤ s.size ∧ l.length ≤ 1 ∧ _ ∧ decU .zero s.data.toList = l ++ decU .zero (s.data.toList.drop n)
    by_cases a1 : nb s[0] < (128 : Int)
    · exact ⟨[nb s[0]], 1, 0, rfl, by omega, by omega, Nat.le_refl 1, fun w => pieceU_a s md w hs a1, by conv => lhs; rw [hl, decU_once _ (offU_one _ a1)]⟩
    by_cases a2 : nb s[0] < (194 : Int) ∨ (244 : Int) < nb s[0]
    · exact ⟨[-1], 1, 0, rfl, by omega, by omega, Nat.le_refl 1, fun w => pieceU_b s md w hs (by unfold nb at a1; omega) a2, by conv => lhs; rw [hl, decU_once _ (offU_bad _ (by omega) a2)]⟩
    by_cases a3 : nb s[0] ≤ (223 : Int)
    · have ok := okU_of (offU_two s[0] (by omega) a3)
      exact uPiece s hs 0 128 191 (nb s[0] % 32) md (offU_two _ (by omega) a3) ok (by unfold loU; rw [if_neg (by omega), if_neg (by omega)]) (by unfold hiU; rw [if_neg (by omega), if_neg (by omega)]) fun w l m h => pieceU_2 s md w hs (by unfold nb at *; omega) a3 l m h
    by_cases a4 : nb s[0] ≤ (239 : Int)
    · have ok := okU_of (offU_three s[0] (by omega) a4)
      have off := offU_three s[0] (by omega) a4
      by_cases c1 : nb s[0] = (224 : Int)
      · exact uPiece s hs 1 160 191 (nb s[0] % 16) md off ok (by unfold loU; rw [if_pos (by omega)]) (by unfold hiU; rw [if_neg (by omega), if_neg (by omega)]) fun w l m h => pieceU_3a s md w hs c1 l m h
      by_cases c2 : nb s[0] = (237 : Int)
      · exact uPiece s hs 1 128 159 (nb s[0] % 16) md off ok (by unfold loU; rw [if_neg (by omega), if_neg (by omega)]) (by unfold hiU; rw [if_pos (by omega)]) fun w l m h => pieceU_3b s md w hs c2 l m h
      exact uPiece s hs 1 128 191 (nb s[0] % 16) md off ok (by unfold loU; rw [if_neg (by omega), if_neg (by omega)]) (by unfold hiU; rw [if_neg (by omega), if_neg (by omega)]) fun w l m h => pieceU_3c s md w hs (by unfold nb at *; omega) a4 (by simpa using c2) l m h
    · have ok := okU_of (offU_four s[0] (by omega) (by omega))
      have off := offU_four s[0] (by omega) (by omega)
      by_cases c1 : nb s[0] = (240 : Int)
      · exact uPiece s hs 2 144 191 (nb s[0] % 8) md off ok (by unfold loU; rw [if_neg (by omega), if_pos (by omega)]) (by unfold hiU; rw [if_neg (by omega), if_neg (by omega)]) fun w l m h => pieceU_4a s md w hs c1 l m h
      by_cases c2 : nb s[0] = (244 : Int)
      · exact uPiece s hs 2 128 143 (nb s[0] % 8) md off ok (by unfold loU; rw [if_neg (by omega), if_neg (by omega)]) (by unfold hiU; rw [if_neg (by omega), if_pos (by omega)]) fun w l m h => pieceU_4b s md w hs c2 l m h
      exact uPiece s hs 2 128 191 (nb s[0] % 8) md off ok (by unfold loU; rw [if_neg (by omega), if_neg (by omega)]) (by unfold hiU; rw [if_neg (by omega), if_neg (by omega)]) fun w l m h => pieceU_4c s md w hs (by unfold nb at *; omega) (by unfold nb at *; omega) l m h
end Go.Proofs.Ytloaemijhggheaa
