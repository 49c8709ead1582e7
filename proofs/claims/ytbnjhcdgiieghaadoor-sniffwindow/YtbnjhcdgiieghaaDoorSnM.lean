/- Marks and labels among the first bytes as plain functions; that what is sure stays. -/
import Derived.Test.YtbnjhcdgiieghaaDoorLMath
namespace Go.Proofs.YtbnjhcdgiieghaaDoor

/- marks -/
def markL (l : List UInt8) : Int × Int :=
  if l.take 3 = [239, 187, 191] then (1, 3) else if l.take 2 = [255, 254] then (5, 2) else if l.take 2 = [254, 255] then (6, 2) else (0, 0)
def mayL (l : List UInt8) : Bool := l == [] || l == [239] || l == [239, 187] || l == [255] || l == [254]

/- labels -/
/-- The letters that are searched. -/
def kwL : List UInt8 := [99, 104, 97, 114, 115, 101, 116, 61]
inductive Sn where
  | stop
  | skip
  | hit (e : Int)
def isEndB (b : UInt8) : Bool := b == 32 || b == 9 || b == 10 || b == 13 || b == 59 || b == 34 || b == 39 || b == 62
/-- How many bytes stand ahead of the first end. -/
def upTo (p : UInt8 → Bool) : List UInt8 → Nat
  | [] => 0
  | b :: r => if p b then 0 else upTo p r + 1
/-- What a label's number counts for: the wide ones mean Utf. -/
def asUtf (e : Int) : Int := if 5 ≤ e then 1 else e
def bodyL (p : UInt8 → Bool) (v : List UInt8) : Sn :=
  if 40 < upTo p v then .skip
  else if upTo p v = v.length then .stop
  else if 0 < asUtf (findL (v.take (upTo p v))) then .hit (asUtf (findL (v.take (upTo p v)))) else .skip
def valL : List UInt8 → Sn
  | 34 :: v => bodyL (· == 34) v
  | 39 :: v => bodyL (· == 39) v
  | v => bodyL isEndB v
def atL (r : List UInt8) : Sn :=
  if r.length < 8 then (if (r.map lowB).isPrefixOf kwL then .stop else .skip)
  else if (r.map lowB).take 8 = kwL then valL (r.drop 8) else .skip
def srchL : List UInt8 → Int
  | [] => 0
  | b :: r => match atL (b :: r) with
    | .stop => 0
    | .skip => srchL r
    | .hit e => e
/-- The label among the first bytes, and whether that is sure. -/
def labelL (s : List UInt8) : Int × Bool :=
  if 0 < srchL (s.take 256) then (srchL (s.take 256), true) else (0, decide (256 ≤ s.length))

/- what is sure stays -/
theorem upTo_le (p : UInt8 → Bool) : ∀ v : List UInt8, upTo p v ≤ v.length
  | [] => Nat.le_refl _
  | b :: r => by
    simp only [upTo, List.length_cons]
    have := upTo_le p r
    split <;> omega
theorem upTo_app (p : UInt8 → Bool) (t : List UInt8) : ∀ v : List UInt8, upTo p v < v.length → upTo p (v ++ t) = upTo p v
  | [], h => absurd h (Nat.lt_irrefl _)
  | b :: r, h => by
    simp only [upTo, List.cons_append, List.length_cons] at h ⊢
    split
    · rfl
    · rename_i hb
      rw [if_neg hb] at h
      rw [upTo_app p t r (by omega)]
theorem upTo_ge (p : UInt8 → Bool) (t : List UInt8) : ∀ v : List UInt8, upTo p v ≤ upTo p (v ++ t)
  | [] => Nat.zero_le _
  | b :: r => by
    simp only [upTo, List.cons_append]
    have := upTo_ge p t r
    split <;> omega
theorem bodyL_app (p : UInt8 → Bool) (v t : List UInt8) (h : bodyL p v ≠ .stop) : bodyL p (v ++ t) = bodyL p v := by
  unfold bodyL at h ⊢
  by_cases h1 : 40 < upTo p v
  · have := upTo_ge p t v
    rw [if_pos h1, if_pos (by omega)]
  rw [if_neg h1] at h ⊢
  by_cases h2 : upTo p v = v.length
  · rw [if_pos h2] at h; exact absurd rfl h
  · have h3 := upTo_le p v
    have h4 := upTo_app p t v (by omega)
    rw [h4, if_neg h1, if_neg h2, if_neg (by simp; omega), List.take_append_of_le_length (by omega)]
theorem valL_app (v t : List UInt8) (h : valL v ≠ .stop) : valL (v ++ t) = valL v := by
  cases v with
  | nil => exact absurd rfl h
  | cons b r =>
    by_cases h1 : b = 34
    · subst h1; exact bodyL_app _ _ _ h
    by_cases h2 : b = 39
    · subst h2; exact bodyL_app _ _ _ h
    have e : ∀ x : List UInt8, valL (b :: x) = bodyL isEndB (b :: x) := fun x => by
      unfold valL
      split
      · rename_i h3; exact absurd (List.cons.inj h3).1 h1
      · rename_i h3; exact absurd (List.cons.inj h3).1 h2
      · rfl
    rw [e] at h
    rw [List.cons_append, e, e]
    exact bodyL_app isEndB (b :: r) t h
theorem pre_app {a b : List UInt8} : ∀ {k : List UInt8}, (a ++ b).isPrefixOf k = true → a.isPrefixOf k = true := by
  induction a with
  | nil => intro k _; simp [List.isPrefixOf]
  | cons x r ih =>
    intro k h
    cases k with
    | nil => simp at h
    | cons y s =>
      simp only [List.cons_append, List.isPrefixOf, Bool.and_eq_true] at h ⊢
      exact ⟨h.1, ih h.2⟩
theorem take_pre (a b : List UInt8) (h : (a ++ b).take 8 = kwL) (ha : a.length < 8) : a.isPrefixOf kwL = true := by
  rw [← h, List.take_append, List.take_of_length_le (by omega)]
  exact List.isPrefixOf_iff_prefix.2 (List.prefix_append _ _)
theorem atL_app (r t : List UInt8) (h : atL r ≠ .stop) : atL (r ++ t) = atL r := by
  unfold atL at h ⊢
  by_cases h1 : r.length < 8
  · rw [if_pos h1] at h ⊢
    by_cases h2 : (r.map lowB).isPrefixOf kwL = true
    · rw [if_pos h2] at h; exact absurd rfl h
    rw [if_neg h2]
    by_cases h3 : (r ++ t).length < 8
    · rw [if_pos h3, if_neg (fun h4 => h2 (pre_app (by rw [List.map_append] at h4; exact h4)))]
    · rw [if_neg h3, if_neg (fun h4 => h2 (take_pre _ _ (by rw [List.map_append] at h4; exact h4) (by simpa using h1)))]
  · rw [if_neg h1] at h ⊢
    rw [if_neg (by simp; omega), List.map_append, List.take_append_of_le_length (by simp; omega), List.drop_append_of_le_length (by omega)]
    by_cases h2 : (r.map lowB).take 8 = kwL
    · rw [if_pos h2] at h ⊢
      rw [if_pos h2]
      exact valL_app _ _ h
    · rw [if_neg h2, if_neg h2]
theorem bodyL_pos (p : UInt8 → Bool) (v : List UInt8) (e : Int) (h : bodyL p v = .hit e) : 0 < e := by
  unfold bodyL at h
  split at h
  · cases h
  split at h
  · cases h
  split at h
  · rename_i h3; cases h; exact h3
  · cases h
theorem valL_pos (v : List UInt8) (e : Int) (h : valL v = .hit e) : 0 < e := by
  unfold valL at h
  split at h <;> exact bodyL_pos _ _ _ h
theorem atL_pos (r : List UInt8) (e : Int) (h : atL r = .hit e) : 0 < e := by
  unfold atL at h
  split at h
  · split at h <;> cases h
  split at h
  · exact valL_pos _ _ h
  · cases h
theorem srchL_app (t : List UInt8) : ∀ r : List UInt8, 0 < srchL r → srchL (r ++ t) = srchL r
  | [], h => absurd h (by simp [srchL])
  | b :: r, h => by
    simp only [List.cons_append, srchL] at h ⊢
    have ha := atL_app (b :: r) t
    rw [List.cons_append] at ha
    cases hx : atL (b :: r) with
    | stop => rw [hx] at h; exact absurd h (by simp)
    | skip =>
      rw [hx] at h
      rw [ha (by rw [hx]; exact fun k => by cases k), hx]
      exact srchL_app t r h
    | hit e => rw [ha (by rw [hx]; exact fun k => by cases k), hx]
theorem srchL_nonneg : ∀ r : List UInt8, 0 ≤ srchL r
  | [] => by simp [srchL]
  | b :: r => by
    simp only [srchL]
    cases hx : atL (b :: r) with
    | stop => exact Int.le_refl _
    | skip => exact srchL_nonneg r
    | hit e => exact Int.le_of_lt (atL_pos _ _ hx)
/-- What is sure of a label does not change by what comes. -/
theorem labelL_stays (s t : List UInt8) (h : (labelL s).2 = true) : labelL (s ++ t) = labelL s := by
  unfold labelL at h ⊢
  by_cases hz : 256 ≤ s.length
  · rw [List.take_append_of_le_length hz]
    rw [show decide (256 ≤ (s ++ t).length) = decide (256 ≤ s.length) by simp; omega]
  · by_cases hp : 0 < srchL (s.take 256)
    · have e : srchL ((s ++ t).take 256) = srchL (s.take 256) := by
        rw [List.take_of_length_le (by omega : s.length ≤ 256)] at hp ⊢
        rw [List.take_append, List.take_of_length_le (by omega : s.length ≤ 256)]
        exact srchL_app _ s hp
      rw [e, if_pos hp, if_pos hp]
    · rw [if_neg hp] at h
      simp at h
      omega
theorem labelL_some (s : List UInt8) (h : (labelL s).1 ≠ 0) : (labelL s).2 = true := by
  unfold labelL at h ⊢
  split
  · rfl
  · rename_i hp
    rw [if_neg hp] at h
    exact absurd rfl h
theorem labelL_window (s t : List UInt8) (h : s.length = 256) : labelL (s ++ t) = labelL s ∧ (labelL s).2 = true := by
  have h2 : (labelL s).2 = true := by
    unfold labelL
    split
    · rfl
    · simp [h]
  exact ⟨labelL_stays s t h2, h2⟩
theorem mayL_three (a b c : UInt8) (r : List UInt8) : mayL (a :: b :: c :: r) = false := by simp [mayL]
theorem markL_three (a b c : UInt8) (r t : List UInt8) : markL (a :: b :: c :: r ++ t) = markL (a :: b :: c :: r) := by simp [markL]
theorem markL_one (a : UInt8) : markL [a] = (0, 0) := by simp [markL]
/-- What is sure of a mark does not change by what comes. -/
theorem mark_stays (s t : List UInt8) (h : (markL s).1 ≠ 0 ∨ mayL s = false) : markL (s ++ t) = markL s ∧ mayL (s ++ t) = false := by
  match s, h with
  | [], h => simp [markL, mayL] at h
  | [a], h =>
    rw [markL_one] at h ⊢
    have h1 : mayL [a] = false := by simpa using h
    simp [mayL] at h1
    obtain ⟨⟨n1, n2⟩, n3⟩ := h1
    constructor
    · simp [markL, n1, n2, n3]
    · cases t with
      | nil => simp [mayL, n1, n2, n3]
      | cons x r => cases r <;> simp [mayL, n1]
  | [a, b], h =>
    have hm : mayL ([a, b] ++ t) = false := by
      cases t with
      | cons x r => exact mayL_three a b x r
      | nil =>
        rcases h with h | h
        · by_cases c1 : a = 239
          · subst c1; simp [markL] at h
          · simp [mayL, c1]
        · exact h
    refine ⟨?_, hm⟩
    by_cases c1 : a = 239 ∧ b = 187
    · obtain ⟨rfl, rfl⟩ := c1
      rcases h with h | h
      · simp [markL] at h
      · simp [mayL] at h
    · cases t with
      | nil => simp
      | cons x r =>
        have n : ¬ (a = 239 ∧ b = 187 ∧ x = 191) := fun k => c1 ⟨k.1, k.2.1⟩
        simp [markL, n]
  | a :: b :: c :: r, h => exact ⟨markL_three a b c r t, by rw [List.cons_append, List.cons_append, List.cons_append]; exact mayL_three a b c (r ++ t)⟩
end Go.Proofs.YtbnjhcdgiieghaaDoor
