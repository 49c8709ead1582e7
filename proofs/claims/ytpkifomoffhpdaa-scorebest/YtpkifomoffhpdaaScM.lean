/- Scores as plain functions; what the best one is. -/
import Derived.Test.YtpkifomoffhpdaaMod
namespace Go.Proofs.Ytpkifomoffhpdaa

/-- A byte's class. -/
def claN (b : Int) : Int :=
  if 192 ≤ b then 6 else if 128 ≤ b then 5 else if b = 9 ∨ b = 10 ∨ b = 13 ∨ b = 32 then 1 else if b < 32 ∨ b = 127 then 4
  else if 48 ≤ b ∧ b ≤ 57 then 2 else if (65 ≤ b ∧ b ≤ 90) ∨ (97 ≤ b ∧ b ≤ 122) then 0 else 3
def plainN (a b : Int) : Int := if claN a < 4 ∧ claN b < 4 then 1 else 0
/-- The weight of a pair. -/
def weiN (e a b : Int) : Int :=
  if e = 1 then (if claN a = 6 ∧ claN b = 5 then 6 else 2 * plainN a b)
  else if e = 2 then (if a = 27 ∨ b = 27 then 8 else plainN a b)
  else if e = 3 then (if claN a = 5 ∧ claN b ≠ 4 then 4 else 2 * plainN a b)
  else if e = 4 then (if (claN a = 0 ∧ claN b = 6) ∨ (claN a = 6 ∧ claN b = 0) then 5 else 3 * plainN a b - 1)
  else if e = 5 then (if claN b = 4 ∧ claN a < 4 then 4 else 0)
  else if e = 6 then (if claN a = 4 ∧ claN b < 4 then 4 else 0) else 0
theorem claN_in (b : Int) : 0 ≤ claN b ∧ claN b ≤ 6 := by unfold claN; repeat (first | omega | split)
theorem plainN_in (a b : Int) : 0 ≤ plainN a b ∧ plainN a b ≤ 1 := by unfold plainN; split <;> omega
theorem weiN_in (e a b : Int) : -1 ≤ weiN e a b ∧ weiN e a b ≤ 8 := by
  have := plainN_in a b
  unfold weiN
  repeat (first | omega | split)
/-- The sum over the pairs of adjacent bytes. -/
def sumN (e : Int) : List UInt8 → Int
  | a :: b :: r => weiN e (nb a) (nb b) + sumN e (b :: r)
  | _ => 0
theorem sumN_snoc (e : Int) (a b : UInt8) : ∀ l : List UInt8, sumN e (l ++ [a, b]) = sumN e (l ++ [a]) + weiN e (nb a) (nb b)
  | [] => by simp [sumN]
  | [c] => by simp [sumN]
  | c :: d :: r => by
    have := sumN_snoc e a b (d :: r)
    simp only [List.cons_append, sumN] at this ⊢
    omega
theorem sumN_in (e : Int) : ∀ l : List UInt8, -(l.length : Int) ≤ sumN e l ∧ sumN e l ≤ 8 * (l.length : Int)
  | [] => by simp [sumN]
  | [a] => by simp [sumN]
  | a :: b :: r => by
    have h1 := sumN_in e (b :: r)
    have h2 := weiN_in e (nb a) (nb b)
    simp only [sumN, List.length_cons] at h1 ⊢
    omega
/-- The best of some encodings, in their order: the first with the greatest sum among those that are right. -/
def bestN (ok : Int → Bool) (sm : Int → Int) : List Int → Int × Int → Int × Int
  | [], p => p
  | e :: r, p => bestN ok sm r (if ok e = true ∧ (p.1 = 0 ∨ p.2 < sm e) then (e, sm e) else p)
/-- What is known of the best one of those that were looked at. -/
def BestOk (ok : Int → Bool) (sm : Int → Int) (P : Int → Prop) (p : Int × Int) : Prop :=
  (p.1 = 0 → ∀ e, P e → ok e = false) ∧ (p.1 ≠ 0 → P p.1 ∧ ok p.1 = true ∧ p.2 = sm p.1 ∧ ∀ e, P e → ok e = true → sm e ≤ p.2 ∧ (e < p.1 → sm e < p.2))
theorem bestN_ok (ok : Int → Bool) (sm : Int → Int) : ∀ (l : List Int) (P : Int → Prop) (p : Int × Int), (∀ e ∈ l, e ≠ 0) → l.Pairwise (· < ·) → (∀ e ∈ l, ∀ x, P x → x < e) → BestOk ok sm P p → BestOk ok sm (fun x => P x ∨ x ∈ l) (bestN ok sm l p)
  | [], P, p, _, _, _, h => by
    refine ⟨fun h0 e he => h.1 h0 e (he.resolve_right (by simp)), fun h0 => ?_⟩
    obtain ⟨h1, h2, h3, h4⟩ := h.2 h0
    exact ⟨Or.inl h1, h2, h3, fun e he => h4 e (he.resolve_right (by simp))⟩
  | a :: r, P, p, hn, hs, hP, h => by
    have ha : a ≠ 0 := hn a (by simp)
    have hlt : ∀ x, P x → x < a := hP a (by simp)
    have key : BestOk ok sm (fun x => P x ∨ x = a) (if ok a = true ∧ (p.1 = 0 ∨ p.2 < sm a) then (a, sm a) else p) := by
      by_cases hc : ok a = true ∧ (p.1 = 0 ∨ p.2 < sm a)
      · rw [if_pos hc]
        refine ⟨fun h0 => absurd h0 ha, fun _ => ⟨Or.inr rfl, hc.1, rfl, fun e he hk => ?_⟩⟩
        rcases he with he | rfl
        · by_cases h0 : p.1 = 0
          · rw [h.1 h0 e he] at hk; cases hk
          · have := (h.2 h0).2.2.2 e he hk
            have h5 := hc.2.resolve_left h0
            exact ⟨by omega, fun _ => by omega⟩
        · exact ⟨Int.le_refl _, fun x => absurd x (Int.lt_irrefl _)⟩
      · rw [if_neg hc]
        refine ⟨fun h0 e he => ?_, fun h0 => ?_⟩
        · rcases he with he | rfl
          · exact h.1 h0 e he
          · cases hk : ok e with
            | false => rfl
            | true => exact absurd ⟨hk, Or.inl h0⟩ hc
        · obtain ⟨h1, h2, h3, h4⟩ := h.2 h0
          refine ⟨Or.inl h1, h2, h3, fun e he hk => ?_⟩
          rcases he with he | rfl
          · exact h4 e he hk
          · have h5 : ¬ p.2 < sm e := fun x => hc ⟨hk, Or.inr x⟩
            have := hlt p.1 h1
            exact ⟨by omega, fun x => by omega⟩
    have h6 := bestN_ok ok sm r (fun x => P x ∨ x = a) _ (fun e he => hn e (by simp [he])) (List.pairwise_cons.1 hs).2 (fun e he x hx => by
      have hae : a < e := (List.pairwise_cons.1 hs).1 e he
      rcases hx with hx | rfl
      · have := hlt x hx; omega
      · exact hae) key
    simp only [bestN]
    have e1 : (fun x => (P x ∨ x = a) ∨ x ∈ r) = fun x => P x ∨ x ∈ a :: r := by
      funext x
      simp only [List.mem_cons, or_assoc]
    rw [e1] at h6
    exact h6
/-- The best encoding of all. -/
def bestE (ok : Int → Bool) (sm : Int → Int) : Int := (bestN ok sm [1, 2, 3, 4, 5, 6] (0, 0)).1
theorem bestE_ok (ok : Int → Bool) (sm : Int → Int) (h : ∀ e, ok e = true → 1 ≤ e ∧ e ≤ 6) :
    (bestE ok sm = 0 → ∀ e, ok e = false) ∧ (bestE ok sm ≠ 0 → 1 ≤ bestE ok sm ∧ bestE ok sm ≤ 6 ∧ ok (bestE ok sm) = true ∧ ∀ e, ok e = true → sm e ≤ sm (bestE ok sm) ∧ (e < bestE ok sm → sm e < sm (bestE ok sm))) := by
  have hb := bestN_ok ok sm [1, 2, 3, 4, 5, 6] (fun _ => False) (0, 0) (by simp) (by decide) (fun _ _ _ hx => hx.elim) ⟨fun _ _ hx => hx.elim, fun h0 => absurd rfl h0⟩
  have mem : ∀ e, ok e = true → (False ∨ e ∈ [1, 2, 3, 4, 5, 6]) := fun e he => Or.inr (by have := h e he; simp; omega)
  unfold bestE
  refine ⟨fun h0 e => ?_, fun h0 => ?_⟩
  · cases hk : ok e with
    | false => rfl
    | true => rw [hb.1 h0 e (mem e hk)] at hk; cases hk
  · obtain ⟨h1, h2, h3, h4⟩ := hb.2 h0
    have h5 := h _ h2
    exact ⟨h5.1, h5.2, h2, fun e he => by have := h4 e (mem e he) he; rw [h3] at this; exact this⟩
end Go.Proofs.Ytpkifomoffhpdaa
