/- Plain mathematics: an automaton accepts what its decoder tells without a Bad. -/
import Derived.Test.YtloaemijhggheaaAutoX
import Derived.Test.YtloaemijhggheaaPure2
namespace Go.Proofs.Ytloaemijhggheaa

/-- An automaton follows a machine as long as nothing is bad. -/
structure AutoOf (e : Int) (M : Mach) (st : M.Q → Int) (gd : M.Q → Prop) : Prop where
  init : st M.init = 0 ∧ gd M.init
  step : ∀ q b, gd q → (-1 ∈ (M.offer q b).2.1 ∧ aStep e (st q) (nb b) = 9) ∨ ((M.offer q b).2.2 = false ∧ -1 ∉ (M.offer q b).2.1 ∧ aStep e (st q) (nb b) = st (M.offer q b).1 ∧ gd (M.offer q b).1)
  fin : ∀ q, gd q → (aEnds e (st q) = true ↔ -1 ∉ M.fin q)
theorem Mach.bad_in {M : Mach} {q : M.Q} {b : UInt8} (h : -1 ∈ (M.offer q b).2.1) : -1 ∈ (M.proc q b).2 := by
  unfold Mach.proc Mach.procF
  split
  · exact List.mem_append_left _ h
  · exact h
theorem AutoOf.dec {e : Int} {M : Mach} {st : M.Q → Int} {gd : M.Q → Prop} (A : AutoOf e M st gd) (l : List UInt8) : ∀ q, gd q → (aEnds e (aRun e (st q) l) = true ↔ -1 ∉ M.dec q l) := by
  induction l with
  | nil => intro q hq; rw [Mach.dec_nil]; exact A.fin q hq
  | cons b r ih =>
    intro q hq
    simp only [aRun]
    rcases A.step q b hq with ⟨h1, h2⟩ | ⟨h1, h2, h3, h4⟩
    · rw [h2, aRun_never, aEnds_never]
      have hm : -1 ∈ M.dec q (b :: r) := by
        unfold Mach.dec
        simp only [Mach.feed]
        exact List.mem_append_left _ (List.mem_append_left _ (Mach.bad_in h1))
      simp [hm]
    · have e1 : M.offer q b = ((M.offer q b).1, (M.offer q b).2.1, false) := by rw [← h1]
      rw [Mach.dec_once r e1, h3, ih _ h4]
      simp [h2]
theorem ite_q {α : Type} {c : Prop} [Decidable c] {P : α → Prop} {a b : α} (h1 : c → P a) (h2 : ¬ c → P b) : P (if c then a else b) := by
  by_cases h : c
  · rw [if_pos h]; exact h1 h
  · rw [if_neg h]; exact h2 h
theorem aW_yes (b lo hi nx : Int) (h1 : lo ≤ b) (h2 : b ≤ hi) : aW b lo hi nx = nx := by unfold aW; rw [if_pos h1, if_pos h2]
theorem aW_no (b lo hi nx : Int) (h : b < lo ∨ hi < b) : aW b lo hi nx = 9 := by
  unfold aW
  by_cases h1 : lo ≤ b
  · rw [if_pos h1, if_neg (by omega)]
  · rw [if_neg h1]
theorem no1 {x : Int} (h : 0 ≤ x) : -1 ∉ [x] := by simp; omega
theorem yes1 : (-1 : Int) ∈ [(-1 : Int)] := List.mem_singleton.2 rfl

/- Utf -/
def stU : U → Int
  | .zero => 0
  | .seq n c => if n = 1 then 1 else if n = 2 then (if c = 0 then 4 else if c = 13 then 5 else 2) else (if c = 0 then 6 else if c = 4 then 7 else 3)
theorem autoU_zero (b : UInt8) : (-1 ∈ (firstU b).2 ∧ aU1 (nb b) = 9) ∨ (-1 ∉ (firstU b).2 ∧ aU1 (nb b) = stU (firstU b).1) := by
  have h1 := nb_lt b; have h2 := nb_nonneg b
  unfold firstU
  generalize nb b = x at *
  refine ite_q (P := fun y : U × List Int => (-1 ∈ y.2 ∧ aU1 x = 9) ∨ (-1 ∉ y.2 ∧ aU1 x = stU y.1)) (fun h => Or.inr ⟨no1 h2, ?_⟩) fun a1 => ?_
  · unfold aU1; rw [if_pos h]; rfl
  refine ite_q (P := fun y : U × List Int => (-1 ∈ y.2 ∧ aU1 x = 9) ∨ (-1 ∉ y.2 ∧ aU1 x = stU y.1)) (fun h => Or.inr ⟨List.not_mem_nil, ?_⟩) fun a2 => ?_
  · unfold aU1; rw [if_neg a1, if_neg (by omega), if_pos (by omega)]; rfl
  refine ite_q (P := fun y : U × List Int => (-1 ∈ y.2 ∧ aU1 x = 9) ∨ (-1 ∉ y.2 ∧ aU1 x = stU y.1)) (fun h => Or.inr ⟨List.not_mem_nil, ?_⟩) fun a3 => ?_
  · by_cases c1 : x = 224
    · subst c1; decide
    by_cases c2 : x = 237
    · subst c2; decide
    have d1 : ¬ x % 16 = 0 := by omega
    have d2 : ¬ x % 16 = 13 := by omega
    unfold aU1
    rw [if_neg a1, if_neg (by omega), if_neg (by omega), if_neg c1, if_neg c2, if_pos (by omega)]
    simp [stU, d1, d2]
  refine ite_q (P := fun y : U × List Int => (-1 ∈ y.2 ∧ aU1 x = 9) ∨ (-1 ∉ y.2 ∧ aU1 x = stU y.1)) (fun h => Or.inr ⟨List.not_mem_nil, ?_⟩) fun a4 => Or.inl ⟨yes1, ?_⟩
  · by_cases c1 : x = 240
    · subst c1; decide
    by_cases c2 : x = 244
    · subst c2; decide
    have d1 : ¬ x % 8 = 0 := by omega
    have d2 : ¬ x % 8 = 4 := by omega
    unfold aU1
    rw [if_neg a1, if_neg (by omega), if_neg (by omega), if_neg (by omega), if_neg (by omega), if_neg (by omega), if_neg c1, if_pos (by omega)]
    simp [stU, d1, d2]
  · unfold aU1
    by_cases c1 : x < 194
    · rw [if_neg a1, if_pos c1]
    rw [if_neg a1, if_neg c1, if_neg (by omega), if_neg (by omega), if_neg (by omega), if_neg (by omega), if_neg (by omega), if_neg (by omega), if_neg (by omega)]
theorem autoU_seq (n c x : Int) (h : U.ok (.seq n c)) : aU (stU (.seq n c)) x = aW x (loU n c) (hiU n c) (n - 1) := by
  rcases h with ⟨rfl, _⟩ | ⟨rfl, _⟩ | ⟨rfl, _⟩
  · simp [stU, loU, hiU, aU]
  · simp only [stU, loU, hiU]
    by_cases c1 : c = 0
    · subst c1; simp [aU]
    by_cases c2 : c = 13
    · subst c2; simp [aU]
    simp [c1, c2, aU]
  · simp only [stU, loU, hiU]
    by_cases c1 : c = 0
    · subst c1; simp [aU]
    by_cases c2 : c = 4
    · subst c2; simp [aU]
    simp [c1, c2, aU]
theorem aStep1 (s b : Int) : aStep 1 s b = aU s b := by simp [aStep]
theorem aStep2 (s b : Int) : aStep 2 s b = aS s b := by simp [aStep]
theorem aStep3 (s b : Int) : aStep 3 s b = aT s b := by simp [aStep]
theorem aStep4 (s b : Int) : aStep 4 s b = aL s b := by simp [aStep]
theorem aStep5 (s b : Int) : aStep 5 s b = aLo s b := by simp [aStep]
theorem aStep6 (s b : Int) : aStep 6 s b = aHi s b := by simp [aStep]
theorem aU_0 (b : Int) : aU 0 b = aU1 b := by simp [aU]
theorem stepU (q : U) (b : UInt8) (hq : U.ok q) : (-1 ∈ (U.offer q b).2.1 ∧ aU (stU q) (nb b) = 9) ∨ ((U.offer q b).2.2 = false ∧ -1 ∉ (U.offer q b).2.1 ∧ aU (stU q) (nb b) = stU (U.offer q b).1 ∧ U.ok (U.offer q b).1) := by
  have hk : U.ok (U.offer q b).1 := conU.law.step q b hq
  have h1 := nb_lt b; have h2 := nb_nonneg b
  cases q with
  | zero =>
    have h := autoU_zero b
    rw [← aU_0] at h
    have e0 : U.offer .zero b = ((firstU b).1, (firstU b).2, false) := rfl
    have e1 : stU .zero = 0 := rfl
    rw [e0] at hk ⊢
    rw [e1]
    generalize firstU b = y at *
    generalize aU 0 (nb b) = z at *
    rcases h with h | ⟨h3, h4⟩
    · exact Or.inl h
    · exact Or.inr ⟨rfl, h3, h4, hk⟩
  | seq n c =>
    rw [autoU_seq n c _ hq]
    simp only [U.ok] at hq
    by_cases hr : nb b < loU n c ∨ hiU n c < nb b
    · refine Or.inl ⟨?_, aW_no _ _ _ _ hr⟩
      simp only [U.offer]
      rw [if_pos hr]
      exact yes1
    · have hhi : hiU n c ≤ 191 := by unfold hiU; split <;> (try split) <;> omega
      refine Or.inr ?_
      rw [aW_yes _ _ _ _ (by omega) (by omega)]
      simp only [U.offer] at hk ⊢
      rw [if_neg hr] at hk ⊢
      by_cases hn : n = 1
      · rw [if_pos hn] at hk ⊢
        refine ⟨rfl, no1 (by omega), ?_, hk⟩
        subst hn; simp [stU]
      · rw [if_neg hn] at hk ⊢
        refine ⟨rfl, List.not_mem_nil, ?_, hk⟩
        simp only [stU]
        rcases hq with hq | ⟨rfl, _⟩ | ⟨rfl, hc⟩
        · omega
        · simp
        · have hlo2 : loU 3 c = if c = 0 then 144 else 128 := by unfold loU; simp
          have hlo3 : loU 3 c ≤ nb b := by omega
          have d : ¬ (c * 64 + nb b % 64 = 0) ∧ ¬ (c * 64 + nb b % 64 = 13) := by
            by_cases c1 : c = 0
            · rw [hlo2, if_pos c1] at hlo3; omega
            · omega
          simp [d.1, d.2]
theorem autoU : AutoOf 1 mU stU U.ok where
  init := ⟨rfl, trivial⟩
  step := fun q b hq => by rw [aStep1]; exact stepU q b hq
  fin := fun q hq => by
    show (aEnds 1 (stU q) = true ↔ -1 ∉ U.fin q)
    cases q with
    | zero => simp [stU, U.fin, aEnds]
    | seq n c =>
      have : stU (.seq n c) ≠ 0 := by simp only [stU]; repeat (first | omega | split)
      simp [U.fin, aEnds, this]

/- Twin, Latin -/
def stT : Option UInt8 → Int
  | none => 0
  | some _ => 1
theorem aT_0 (b : Int) : aT 0 b = aT1 b := by simp [aT]
theorem aT_1 (b : Int) : aT 1 b = if b = 127 then 9 else aW b 64 252 0 := by simp [aT]
theorem stepT_0 (b : UInt8) : (-1 ∈ (firstT b).2 ∧ aT1 (nb b) = 9) ∨ (-1 ∉ (firstT b).2 ∧ aT1 (nb b) = stT (firstT b).1) := by
  have h1 := nb_lt b; have h2 := nb_nonneg b
  unfold firstT
  refine ite_q (P := fun y : Option UInt8 × List Int => (-1 ∈ y.2 ∧ aT1 (nb b) = 9) ∨ (-1 ∉ y.2 ∧ aT1 (nb b) = stT y.1)) (fun h => Or.inr ⟨no1 h2, ?_⟩) fun a1 => ?_
  · unfold aT1; rw [if_pos h]; rfl
  refine ite_q (P := fun y : Option UInt8 × List Int => (-1 ∈ y.2 ∧ aT1 (nb b) = 9) ∨ (-1 ∉ y.2 ∧ aT1 (nb b) = stT y.1)) (fun h => Or.inr ⟨no1 (by omega), ?_⟩) fun a2 => ?_
  · unfold aT1; rw [if_neg a1, if_pos (by omega), if_neg (by omega), aW_yes _ _ _ _ h.1 h.2]; rfl
  refine ite_q (P := fun y : Option UInt8 × List Int => (-1 ∈ y.2 ∧ aT1 (nb b) = 9) ∨ (-1 ∉ y.2 ∧ aT1 (nb b) = stT y.1)) (fun h => Or.inr ⟨List.not_mem_nil, ?_⟩) fun a3 => Or.inl ⟨yes1, ?_⟩
  · unfold aT1; rw [if_neg a1, if_pos (by omega), if_pos (by omega)]; rfl
  · unfold aT1
    rw [if_neg a1]
    by_cases c1 : 129 ≤ nb b
    · rw [if_pos c1, if_neg (by omega), aW_no _ _ _ _ (by omega)]
    · rw [if_neg c1, aW_no _ _ _ _ (by omega)]
theorem stepT (q : Option UInt8) (b : UInt8) (hq : twOk q) : (-1 ∈ (twOffer q b).2.1 ∧ aT (stT q) (nb b) = 9) ∨ ((twOffer q b).2.2 = false ∧ -1 ∉ (twOffer q b).2.1 ∧ aT (stT q) (nb b) = stT (twOffer q b).1 ∧ twOk (twOffer q b).1) := by
  have hk : twOk (twOffer q b).1 := conT.law.step q b hq
  have h1 := nb_lt b; have h2 := nb_nonneg b
  cases q with
  | none =>
    have h := stepT_0 b
    have e0 : twOffer none b = ((firstT b).1, (firstT b).2, false) := rfl
    have e1 : stT none = 0 := rfl
    rw [e0] at hk ⊢
    rw [e1, aT_0]
    generalize firstT b = y at *
    generalize aT1 (nb b) = z at *
    rcases h with h | ⟨h3, h4⟩
    · exact Or.inl h
    · exact Or.inr ⟨rfl, h3, h4, hk⟩
  | some k =>
    change 129 ≤ nb k ∧ nb k ≤ 159 at hq
    simp only [twOffer, stT, aT_1]
    unfold secondT
    by_cases a1 : 64 ≤ nb b ∧ nb b ≤ 126
    · rw [if_pos a1, if_neg (by omega), aW_yes _ _ _ _ (by omega) (by omega)]
      exact Or.inr ⟨rfl, no1 (by omega), rfl, trivial⟩
    rw [if_neg a1]
    by_cases a2 : 128 ≤ nb b ∧ nb b ≤ 252
    · rw [if_pos a2, if_neg (by omega), aW_yes _ _ _ _ (by omega) (by omega)]
      exact Or.inr ⟨rfl, no1 (by omega), rfl, trivial⟩
    rw [if_neg a2]
    refine Or.inl ⟨yes1, ?_⟩
    by_cases a3 : nb b = 127
    · rw [if_pos a3]
    · rw [if_neg a3, aW_no _ _ _ _ (by omega)]
theorem autoT : AutoOf 3 mT stT twOk where
  init := ⟨rfl, trivial⟩
  step := fun q b hq => by rw [aStep3]; exact stepT q b hq
  fin := fun q _ => by
    show (aEnds 3 (stT q) = true ↔ -1 ∉ optFin q)
    cases q <;> simp [stT, optFin, aEnds]
theorem aL_0 (b : Int) : aL 0 b = (if b = 129 then 9 else if b = 141 then 9 else if b = 143 then 9 else if b = 144 then 9 else if b = 157 then 9 else 0) := by simp [aL]
theorem stepLat (b : UInt8) : (-1 ∈ latinL b ∧ aL 0 (nb b) = 9) ∨ (-1 ∉ latinL b ∧ aL 0 (nb b) = 0) := by
  have h1 := nb_lt b; have h2 := nb_nonneg b
  rw [aL_0]
  unfold latinL
  by_cases a1 : nb b < 128 ∨ 160 ≤ nb b
  · rw [if_pos a1, if_neg (by omega), if_neg (by omega), if_neg (by omega), if_neg (by omega), if_neg (by omega)]
    exact Or.inr ⟨no1 h2, rfl⟩
  rw [if_neg a1]
  by_cases a2 : nb b = 129 ∨ nb b = 141 ∨ nb b = 143 ∨ nb b = 144 ∨ nb b = 157
  · rw [if_pos a2]
    refine Or.inl ⟨yes1, ?_⟩
    repeat (first | omega | split)
  · rw [if_neg a2, if_neg (by omega), if_neg (by omega), if_neg (by omega), if_neg (by omega), if_neg (by omega)]
    exact Or.inr ⟨no1 (by omega), rfl⟩
theorem autoLat : AutoOf 4 mLat (fun _ => 0) (fun _ => True) where
  init := ⟨rfl, trivial⟩
  step := fun q b _ => by
    rw [aStep4]
    have h := stepLat b
    simp only [mLat]
    generalize aL 0 (nb b) = z at *
    generalize latinL b = y at *
    rcases h with h | ⟨h3, h4⟩
    · exact Or.inl h
    · exact Or.inr ⟨trivial, h3, h4, trivial⟩
  fin := fun q _ => by simp [aEnds, mLat]

/- Shift -/
def stSh : Bool × K → Int
  | (d, .none) => if d then 1 else 0
  | (_, .esc) => 3
  | (_, .par) => 4
  | (_, .dol) => 5
  | (_, .half _) => 2
theorem aS_0 (b : Int) : aS 0 b = aS1 b := by simp [aS]
theorem aS_1 (b : Int) : aS 1 b = aS2 b := by simp [aS]
theorem aS_2 (b : Int) : aS 2 b = aW b 33 126 1 := by simp [aS]
theorem aS_3 (b : Int) : aS 3 b = aS3 b := by simp [aS]
theorem aS_4 (b : Int) : aS 4 b = aW b 66 66 0 := by simp [aS]
theorem aS_5 (b : Int) : aS 5 b = aW b 66 66 1 := by simp [aS]
theorem stepSh (q : Bool × K) (b : UInt8) (hq : shOk q) : (-1 ∈ (shOffer q b).2.1 ∧ aS (stSh q) (nb b) = 9) ∨ ((shOffer q b).2.2 = false ∧ -1 ∉ (shOffer q b).2.1 ∧ aS (stSh q) (nb b) = stSh (shOffer q b).1 ∧ shOk (shOffer q b).1) := by
  have hk : shOk (shOffer q b).1 := conSh.law.step q b hq
  have h1 := nb_lt b; have h2 := nb_nonneg b
  obtain ⟨d, k⟩ := q
  cases k with
  | none =>
    simp only [shOffer] at hk ⊢
    cases d with
    | false =>
      have e0 : stSh (false, .none) = 0 := rfl
      rw [e0, aS_0]
      unfold firstSh aS1 at *
      by_cases a1 : nb b = 27
      · rw [if_pos a1] at hk ⊢; rw [if_pos a1]
        exact Or.inr ⟨trivial, List.not_mem_nil, rfl, hk⟩
      rw [if_neg a1] at hk ⊢
      rw [if_neg a1]
      simp only [Bool.false_eq_true, if_false] at hk ⊢
      by_cases a2 : nb b = 14 ∨ nb b = 15 ∨ 127 < nb b
      · rw [if_pos a2]
        refine Or.inl ⟨yes1, ?_⟩
        repeat (first | rfl | omega | split)
      · rw [if_neg a2] at hk ⊢
        rw [if_neg (by omega), if_neg (by omega), if_neg (by omega)]
        exact Or.inr ⟨trivial, no1 h2, rfl, hk⟩
    | true =>
      have e0 : stSh (true, .none) = 1 := rfl
      rw [e0, aS_1]
      unfold firstSh firstD aS2 at *
      by_cases a1 : nb b = 27
      · rw [if_pos a1] at hk ⊢; rw [if_pos a1]
        exact Or.inr ⟨trivial, List.not_mem_nil, rfl, hk⟩
      rw [if_neg a1] at hk ⊢
      rw [if_neg a1]
      simp only [if_true] at hk ⊢
      by_cases a2 : nb b = 10
      · rw [if_pos a2] at hk ⊢
        rw [if_pos a2]
        exact Or.inr ⟨trivial, no1 h2, rfl, hk⟩
      rw [if_neg a2] at hk ⊢
      rw [if_neg a2]
      by_cases a3 : 33 ≤ nb b ∧ nb b ≤ 126
      · rw [if_pos a3] at hk ⊢
        rw [aW_yes _ _ _ _ a3.1 a3.2]
        exact Or.inr ⟨trivial, List.not_mem_nil, rfl, hk⟩
      · rw [if_neg a3, aW_no _ _ _ _ (by omega)]
        exact Or.inl ⟨yes1, rfl⟩
  | esc =>
    simp only [shOffer, stSh, aS_3] at hk ⊢
    unfold aS3
    by_cases a1 : nb b = 40
    · rw [if_pos a1] at hk ⊢
      rw [if_pos a1]
      exact Or.inr ⟨rfl, List.not_mem_nil, rfl, hk⟩
    rw [if_neg a1] at hk ⊢
    rw [if_neg a1]
    by_cases a2 : nb b = 36
    · rw [if_pos a2] at hk ⊢
      rw [if_pos a2]
      exact Or.inr ⟨rfl, List.not_mem_nil, rfl, hk⟩
    rw [if_neg a2, if_neg a2]
    exact Or.inl ⟨yes1, rfl⟩
  | par =>
    simp only [shOffer, stSh, aS_4] at hk ⊢
    by_cases a1 : nb b = 66
    · rw [if_pos a1] at hk ⊢
      rw [aW_yes _ _ _ _ (by omega) (by omega)]
      exact Or.inr ⟨rfl, List.not_mem_nil, rfl, hk⟩
    rw [if_neg a1, aW_no _ _ _ _ (by omega)]
    exact Or.inl ⟨List.mem_cons_self, rfl⟩
  | dol =>
    simp only [shOffer, stSh, aS_5] at hk ⊢
    by_cases a1 : nb b = 66
    · rw [if_pos a1] at hk ⊢
      rw [aW_yes _ _ _ _ (by omega) (by omega)]
      exact Or.inr ⟨rfl, List.not_mem_nil, rfl, hk⟩
    rw [if_neg a1, aW_no _ _ _ _ (by omega)]
    exact Or.inl ⟨List.mem_cons_self, rfl⟩
  | half c =>
    obtain ⟨rfl, q1, q2⟩ := hq
    simp only [shOffer, stSh, aS_2] at hk ⊢
    unfold secondSh
    by_cases a1 : 33 ≤ nb b ∧ nb b ≤ 126
    · rw [if_pos a1, aW_yes _ _ _ _ a1.1 a1.2]
      exact Or.inr ⟨rfl, no1 (by omega), rfl, hk⟩
    · rw [if_neg a1, aW_no _ _ _ _ (by omega)]
      exact Or.inl ⟨yes1, rfl⟩
theorem autoSh : AutoOf 2 mSh stSh shOk where
  init := ⟨rfl, trivial⟩
  step := fun q b hq => by rw [aStep2]; exact stepSh q b hq
  fin := fun q _ => by
    show (aEnds 2 (stSh q) = true ↔ -1 ∉ shFin q)
    obtain ⟨d, k⟩ := q
    cases k <;> cases d <;> simp [stSh, shFin, aEnds]

/- Low and High -/
def stLo : Int × Option UInt8 → Int
  | (h, none) => if h = 0 then 0 else 2
  | (h, some _) => if h = 0 then 1 else 3
theorem aLo_0 (b : Int) : aLo 0 b = 1 := by simp [aLo]
theorem aLo_1 (b : Int) : aLo 1 b = aWU b 0 2 := by simp [aLo]
theorem aLo_2 (b : Int) : aLo 2 b = 3 := by simp [aLo]
theorem aLo_3 (b : Int) : aLo 3 b = aW b 220 223 0 := by simp [aLo]
theorem aHi_0 (b : Int) : aHi 0 b = aWU b 1 2 := by simp [aHi]
theorem aHi_1 (b : Int) : aHi 1 b = 0 := by simp [aHi]
theorem aHi_2 (b : Int) : aHi 2 b = 3 := by simp [aHi]
theorem aHi_3 (b : Int) : aHi 3 b = aW b 220 223 1 := by simp [aHi]
theorem leadsB_iff (u : Int) : leadsB u = true ↔ u / 1024 = 54 := by simp [leadsB]
theorem trailsB_iff (u : Int) : trailsB u = true ↔ u / 1024 = 55 := by simp [trailsB]
theorem trB_iff (b : UInt8) : trB b = true ↔ nb b / 4 = 55 := by simp [trB]
theorem aWU_a (b x y : Int) (h : b < 216 ∨ 223 < b) : aWU b x y = x := by
  unfold aWU
  by_cases a : b < 216
  · rw [if_pos a]
  · rw [if_neg a, if_pos (by omega)]
theorem aWU_b (b x y : Int) (h1 : 216 ≤ b) (h2 : b < 220) : aWU b x y = y := by
  unfold aWU; rw [if_neg (by omega), if_neg (by omega), if_pos h2]
theorem aWU_c (b x y : Int) (h1 : 220 ≤ b) (h2 : b ≤ 223) : aWU b x y = 9 := by
  unfold aWU; rw [if_neg (by omega), if_neg (by omega), if_neg (by omega)]
theorem stepLo (q : Int × Option UInt8) (b : UInt8) (hq : loOk q) : (-1 ∈ (loOffer q b).2.1 ∧ aLo (stLo q) (nb b) = 9) ∨ ((loOffer q b).2.2 = false ∧ -1 ∉ (loOffer q b).2.1 ∧ aLo (stLo q) (nb b) = stLo (loOffer q b).1 ∧ loOk (loOffer q b).1) := by
  have hk : loOk (loOffer q b).1 := conLo.law.step q b hq
  have h1 := nb_lt b; have h2 := nb_nonneg b
  obtain ⟨h, k⟩ := q
  cases k with
  | none =>
    simp only [loOffer, stLo] at hk ⊢
    refine Or.inr ⟨trivial, List.not_mem_nil, ?_, hk⟩
    by_cases h0 : h = 0
    · rw [if_pos h0, if_pos h0, aLo_0]
    · rw [if_neg h0, if_neg h0, aLo_2]
  | some k =>
    have k1 := nb_lt k; have k2 := nb_nonneg k
    simp only [loOffer, stLo] at hk ⊢
    have hl := leadsB_iff (nb b * 256 + nb k)
    have ht := trailsB_iff (nb b * 256 + nb k)
    by_cases h0 : h = 0
    · rw [if_neg (by simp [h0])] at hk ⊢
      rw [if_pos h0, aLo_1]
      subst h0
      unfold unitO at *
      rw [if_neg (by simp)] at hk ⊢
      by_cases a1 : leadsB (nb b * 256 + nb k) = true
      · rw [if_pos a1] at hk ⊢
        have := hl.1 a1
        rw [aWU_b _ _ _ (by omega) (by omega)]
        refine Or.inr ⟨rfl, List.not_mem_nil, ?_, hk⟩
        show 2 = (if nb b * 256 + nb k = 0 then 0 else 2)
        rw [if_neg (by omega)]
      rw [if_neg a1] at hk ⊢
      have n1 : ¬ (nb b * 256 + nb k) / 1024 = 54 := fun x => a1 (hl.2 x)
      by_cases a2 : trailsB (nb b * 256 + nb k) = true
      · rw [if_pos a2]
        have := ht.1 a2
        rw [aWU_c _ _ _ (by omega) (by omega)]
        exact Or.inl ⟨yes1, rfl⟩
      · rw [if_neg a2] at hk ⊢
        have n2 : ¬ (nb b * 256 + nb k) / 1024 = 55 := fun x => a2 (ht.2 x)
        rw [aWU_a _ _ _ (by omega)]
        exact Or.inr ⟨rfl, no1 (by omega), rfl, hk⟩
    · rw [if_neg h0, aLo_3]
      by_cases a2 : trailsB (nb b * 256 + nb k) = true
      · rw [if_neg (by simp [a2])] at hk ⊢
        have := ht.1 a2
        rw [aW_yes _ _ _ _ (by omega) (by omega)]
        unfold unitO at *
        rw [if_pos h0] at hk ⊢
        exact Or.inr ⟨rfl, no1 (by omega), rfl, hk⟩
      · have n2 : ¬ (nb b * 256 + nb k) / 1024 = 55 := fun x => a2 (ht.2 x)
        rw [if_pos ⟨h0, by simpa using a2⟩, aW_no _ _ _ _ (by omega)]
        exact Or.inl ⟨yes1, rfl⟩
theorem autoLo : AutoOf 5 mLo stLo loOk where
  init := ⟨rfl, Or.inl rfl⟩
  step := fun q b hq => by rw [aStep5]; exact stepLo q b hq
  fin := fun q _ => by
    show (aEnds 5 (stLo q) = true ↔ -1 ∉ loFin q)
    obtain ⟨h, k⟩ := q
    by_cases h0 : h = 0 <;> cases k <;> simp [stLo, loFin, aEnds, h0]
def stHi : H → Int
  | .unit h => if h = 0 then 0 else 3
  | .mid h k => if h ≠ 0 then 1 else if nb k / 4 = 54 then 2 else 1
  | .told _ => 9
def gdHi : H → Prop
  | .unit h => halfOk h
  | .mid h k => halfOk h ∧ (trB k = true ↔ h ≠ 0)
  | .told _ => False
theorem stepHi (q : H) (b : UInt8) (hq : gdHi q) : (-1 ∈ (H.offer q b).2.1 ∧ aHi (stHi q) (nb b) = 9) ∨ ((H.offer q b).2.2 = false ∧ -1 ∉ (H.offer q b).2.1 ∧ aHi (stHi q) (nb b) = stHi (H.offer q b).1 ∧ gdHi (H.offer q b).1) := by
  have h1 := nb_lt b; have h2 := nb_nonneg b
  have hb := trB_iff b
  cases q with
  | told k => exact hq.elim
  | unit h =>
    simp only [H.offer, stHi]
    by_cases a1 : trB b = true ↔ h ≠ 0
    · rw [if_pos a1]
      refine Or.inr ⟨rfl, List.not_mem_nil, ?_, hq, a1⟩
      simp only []
      by_cases h0 : h = 0
      · rw [if_pos h0, if_neg (by simp [h0]), aHi_0]
        have n1 : ¬ nb b / 4 = 55 := fun x => (a1.1 (hb.2 x)) h0
        by_cases c1 : nb b / 4 = 54
        · rw [if_pos c1, aWU_b _ _ _ (by omega) (by omega)]
        · rw [if_neg c1, aWU_a _ _ _ (by omega)]
      · rw [if_neg h0, if_pos h0, aHi_3]
        have := hb.1 (a1.2 h0)
        rw [aW_yes _ _ _ _ (by omega) (by omega)]
    · rw [if_neg a1]
      refine Or.inl ⟨yes1, ?_⟩
      by_cases h0 : h = 0
      · rw [if_pos h0, aHi_0]
        have n1 : trB b = true := by
          cases hx : trB b with
          | true => rfl
          | false => exact absurd (by simp [hx, h0]) a1
        have := hb.1 n1
        rw [aWU_c _ _ _ (by omega) (by omega)]
      · rw [if_neg h0, aHi_3]
        have n1 : ¬ trB b = true := fun x => a1 (by simp [x, h0])
        have n2 : ¬ nb b / 4 = 55 := fun x => n1 (hb.2 x)
        rw [aW_no _ _ _ _ (by omega)]
  | mid h k =>
    obtain ⟨q1, q2⟩ := hq
    have k1 := nb_lt k; have k2 := nb_nonneg k
    have hl := leadsB_iff (nb k * 256 + nb b)
    have ht := trailsB_iff (nb k * 256 + nb b)
    have hkk := trB_iff k
    simp only [H.offer, stHi]
    unfold unitO
    by_cases h0 : h = 0
    · have hz : ¬ h ≠ 0 := by simp [h0]
      rw [if_neg hz, if_neg hz]
      have n1 : ¬ nb k / 4 = 55 := fun x => (q2.1 (hkk.2 x)) h0
      by_cases a1 : leadsB (nb k * 256 + nb b) = true
      · rw [if_pos a1]
        have := hl.1 a1
        rw [if_pos (by omega), aHi_2]
        refine Or.inr ⟨trivial, List.not_mem_nil, ?_, Or.inr a1⟩
        rw [if_neg (by omega)]
      have n2 : ¬ (nb k * 256 + nb b) / 1024 = 54 := fun x => a1 (hl.2 x)
      have a2 : ¬ trailsB (nb k * 256 + nb b) = true := fun x => by have := ht.1 x; omega
      rw [if_neg a1, if_neg a2, if_neg (by omega), aHi_1]
      exact Or.inr ⟨trivial, no1 (by omega), rfl, Or.inl rfl⟩
    · rw [if_pos h0, if_pos h0, aHi_1]
      exact Or.inr ⟨trivial, no1 (by omega), rfl, Or.inl rfl⟩
theorem autoHi : AutoOf 6 mHi stHi gdHi where
  init := ⟨rfl, Or.inl rfl⟩
  step := fun q b hq => by rw [aStep6]; exact stepHi q b hq
  fin := fun q hq => by
    show (aEnds 6 (stHi q) = true ↔ -1 ∉ H.fin q)
    cases q with
    | told k => exact hq.elim
    | unit h => by_cases h0 : h = 0 <;> simp [stHi, H.fin, aEnds, h0]
    | mid h k =>
      have : stHi (.mid h k) ≠ 0 := by simp only [stHi]; repeat (first | omega | split)
      simp [H.fin, aEnds, this]
end Go.Proofs.Ytloaemijhggheaa
