/- Plain mathematics of the machines: how many numbers are told and which; plain text. -/
import Derived.Test.YtloaemijhggheaaQG
namespace Go.Proofs.Ytloaemijhggheaa

def okN (x : Int) : Prop := -1 ≤ x ∧ x ≤ 1114111 ∧ ¬ (55296 ≤ x ∧ x ≤ 57343)
theorem ok1 : okN (-1) := by unfold okN; omega
/-- No machine tells more numbers than it has got bytes. -/
structure FewM (M : Mach) (pot : M.Q → Nat) : Prop where
  init : pot M.init = 0
  go : ∀ q b, M.ok q → (M.offer q b).2.1.length + pot (M.offer q b).1 ≤ pot q + (if (M.offer q b).2.2 then 0 else 1)
  fin : ∀ q, (M.fin q).length ≤ pot q
  num : ∀ q b, M.ok q → ∀ x ∈ (M.offer q b).2.1, okN x
  end_ : ∀ q, ∀ x ∈ M.fin q, okN x
theorem FewM.procF {e : Int} {M : Mach} {pot : M.Q → Nat} (C : Con e M) (F : FewM M pot) (b : UInt8) : ∀ n q, M.ok q → M.rank q < n → (M.procF n q b).2.length + pot (M.procF n q b).1 ≤ pot q + 1 ∧ ∀ x ∈ (M.procF n q b).2, okN x
  | 0, q, _, h => by omega
  | n + 1, q, hq, h => by
    have h1 := F.go q b hq
    have h2 := F.num q b hq
    unfold Mach.procF
    cases ha : (M.offer q b).2.2 with
    | true =>
      rw [ha] at h1
      have h3 := F.procF C b n _ (C.law.step q b hq) (by have := C.law.drop q b hq ha; omega)
      simp only [if_true] at h1 ⊢
      refine ⟨by simp only [List.length_append]; omega, fun x hx => ?_⟩
      rcases List.mem_append.1 hx with hx | hx
      · exact h2 x hx
      · exact h3.2 x hx
    | false =>
      rw [ha] at h1
      simp only [Bool.false_eq_true, if_false] at h1 ⊢
      exact ⟨h1, h2⟩
theorem FewM.feed {e : Int} {M : Mach} {pot : M.Q → Nat} (C : Con e M) (F : FewM M pot) (l : List UInt8) : ∀ q, M.ok q → (M.feed q l).2.length + pot (M.feed q l).1 ≤ pot q + l.length ∧ ∀ x ∈ (M.feed q l).2, okN x := by
  induction l with
  | nil => intro q _; simp [Mach.feed]
  | cons b r ih =>
    intro q hq
    have h1 := F.procF C b (M.rank q + 1) q hq (Nat.lt_succ_self _)
    have h2 := ih (M.proc q b).1 (C.proc_ok b hq).1
    change (M.proc q b).2.length + pot (M.proc q b).1 ≤ pot q + 1 ∧ _ at h1
    refine ⟨by simp only [Mach.feed, List.length_append, List.length_cons]; omega, fun x hx => ?_⟩
    simp only [Mach.feed] at hx
    rcases List.mem_append.1 hx with hx | hx
    · exact h1.2 x hx
    · exact h2.2 x hx
theorem FewM.dec {e : Int} {M : Mach} {pot : M.Q → Nat} (C : Con e M) (F : FewM M pot) (l : List UInt8) : (M.dec M.init l).length ≤ l.length ∧ ∀ x ∈ M.dec M.init l, okN x := by
  have h := F.feed C l M.init C.law.init
  have h2 := F.fin (M.feed M.init l).1
  have h3 := F.init
  refine ⟨by simp only [Mach.dec, List.length_append]; omega, fun x hx => ?_⟩
  simp only [Mach.dec] at hx
  rcases List.mem_append.1 hx with hx | hx
  · exact h.2 x hx
  · exact F.end_ _ x hx

/-- A statement of a list that bears at most one number. -/
theorem one_num {P : Int → Prop} {l : List Int} {x : Int} (h : l = [x]) (hx : P x) : ∀ y ∈ l, P y := by subst h; simpa using hx
def potU : U → Nat
  | .zero => 0
  | .seq _ _ => 1
theorem firstU_few (b : UInt8) : (firstU b).2.length + potU (firstU b).1 ≤ 1 ∧ ∀ x ∈ (firstU b).2, okN x := by
  have h1 := nb_lt b; have h2 := nb_nonneg b
  unfold firstU
  refine ite_p (P := fun x : U × List Int => x.2.length + potU x.1 ≤ 1 ∧ ∀ y ∈ x.2, okN y) (fun _ => ⟨Nat.le_refl 1, one_num rfl (by unfold okN; omega)⟩) fun _ => ?_
  refine ite_p (P := fun x : U × List Int => x.2.length + potU x.1 ≤ 1 ∧ ∀ y ∈ x.2, okN y) (fun _ => ⟨Nat.le_refl 1, fun y hy => by cases hy⟩) fun _ => ?_
  refine ite_p (P := fun x : U × List Int => x.2.length + potU x.1 ≤ 1 ∧ ∀ y ∈ x.2, okN y) (fun _ => ⟨Nat.le_refl 1, fun y hy => by cases hy⟩) fun _ => ?_
  refine ite_p (P := fun x : U × List Int => x.2.length + potU x.1 ≤ 1 ∧ ∀ y ∈ x.2, okN y) (fun _ => ⟨Nat.le_refl 1, fun y hy => by cases hy⟩) fun _ => ?_
  exact ⟨Nat.le_refl 1, one_num rfl ok1⟩
theorem seq_few (n c : Int) (b : UInt8) (hq : U.ok (.seq n c)) : (U.offer (.seq n c) b).2.1.length + potU (U.offer (.seq n c) b).1 ≤ 1 + (if (U.offer (.seq n c) b).2.2 then 0 else 1) ∧ ∀ x ∈ (U.offer (.seq n c) b).2.1, okN x := by
  have h1 := nb_lt b; have h2 := nb_nonneg b
  simp only [U.ok] at hq
  simp only [U.offer]
  refine ite_p (P := fun x : U × List Int × Bool => x.2.1.length + potU x.1 ≤ 1 + (if x.2.2 then 0 else 1) ∧ ∀ y ∈ x.2.1, okN y) (fun _ => ⟨Nat.le_refl 1, one_num rfl ok1⟩) fun _ => ?_
  refine ite_p (P := fun x : U × List Int × Bool => x.2.1.length + potU x.1 ≤ 1 + (if x.2.2 then 0 else 1) ∧ ∀ y ∈ x.2.1, okN y) (fun hn => ⟨Nat.le_succ 1, one_num rfl ?_⟩) fun _ => ?_
  · unfold okN; omega
  · exact ⟨Nat.le_succ 1, fun y hy => by cases hy⟩
theorem fewU : FewM mU potU where
  init := rfl
  go := fun q b hq => by
    cases q with
    | zero =>
      have h := (firstU_few b)
      simp only [mU, U.offer]
      generalize firstU b = x at h ⊢
      simpa [potU] using h.1
    | seq n c => exact (seq_few n c b hq).1
  fin := fun q => by
    cases q with
    | zero => exact Nat.zero_le _
    | seq n c => exact Nat.le_refl 1
  num := fun q b hq => by
    cases q with
    | zero =>
      have h := (firstU_few b)
      simp only [mU, U.offer]
      generalize firstU b = x at h ⊢
      exact h.2
    | seq n c => exact (seq_few n c b hq).2
  end_ := fun q => by
    cases q with
    | zero => intro x hx; cases hx
    | seq n c => exact one_num rfl ok1
def potO : Option UInt8 → Nat
  | none => 0
  | some _ => 1
theorem firstT_few (b : UInt8) : (firstT b).2.length + potO (firstT b).1 ≤ 1 ∧ ∀ x ∈ (firstT b).2, okN x := by
  have h1 := nb_lt b; have h2 := nb_nonneg b
  unfold firstT
  refine ite_p (P := fun x : Option UInt8 × List Int => x.2.length + potO x.1 ≤ 1 ∧ ∀ y ∈ x.2, okN y) (fun _ => ⟨Nat.le_refl 1, one_num rfl (by unfold okN; omega)⟩) fun _ => ?_
  refine ite_p (P := fun x : Option UInt8 × List Int => x.2.length + potO x.1 ≤ 1 ∧ ∀ y ∈ x.2, okN y) (fun _ => ⟨Nat.le_refl 1, one_num rfl (by unfold okN; omega)⟩) fun _ => ?_
  refine ite_p (P := fun x : Option UInt8 × List Int => x.2.length + potO x.1 ≤ 1 ∧ ∀ y ∈ x.2, okN y) (fun _ => ⟨Nat.le_refl 1, fun y hy => by cases hy⟩) fun _ => ?_
  exact ⟨Nat.le_refl 1, one_num rfl ok1⟩
theorem secondT_num (k b : UInt8) (hk : twOk (some k)) : ∀ x ∈ (secondT k b).1, okN x := by
  have h1 := nb_lt b; have h2 := nb_nonneg b
  change 129 ≤ nb k ∧ nb k ≤ 159 at hk
  unfold secondT
  refine ite_p (P := fun x : List Int × Bool => ∀ y ∈ x.1, okN y) (fun _ => one_num rfl (by unfold okN; omega)) fun _ => ?_
  exact ite_p (P := fun x : List Int × Bool => ∀ y ∈ x.1, okN y) (fun _ => one_num rfl (by unfold okN; omega)) fun _ => one_num rfl ok1
theorem fewT : FewM mT potO where
  init := rfl
  go := fun q b hq => by
    cases q with
    | none =>
      have h := (firstT_few b)
      simp only [mT, twOffer]
      generalize firstT b = x at h ⊢
      simpa [potO] using h.1
    | some k =>
      have h := secondT_few k b
      simp only [mT, twOffer, potO]
      omega
  fin := fun q => by
    cases q with
    | none => exact Nat.zero_le _
    | some k => exact Nat.le_refl 1
  num := fun q b hq => by
    cases q with
    | none =>
      have h := (firstT_few b)
      simp only [mT, twOffer]
      generalize firstT b = x at h ⊢
      exact h.2
    | some k => simp only [mT, twOffer]; exact secondT_num k b hq
  end_ := fun q => by
    cases q with
    | none => intro x hx; cases hx
    | some k => exact one_num rfl ok1
theorem latin_num (b : UInt8) : ∀ x ∈ latinL b, okN x := by
  have h1 := nb_lt b; have h2 := nb_nonneg b
  unfold latinL
  refine ite_p (P := fun x : List Int => ∀ y ∈ x, okN y) (fun _ => one_num rfl (by unfold okN; omega)) fun _ => ?_
  exact ite_p (P := fun x : List Int => ∀ y ∈ x, okN y) (fun _ => one_num rfl ok1) fun _ => one_num rfl (by unfold okN; omega)
theorem fewLat : FewM mLat (fun _ => 0) where
  init := rfl
  go := fun q b hq => by have := latinL_few b; simp only [mLat, Bool.false_eq_true, if_false]; omega
  fin := fun q => Nat.zero_le _
  num := fun q b hq => by simp only [mLat]; exact latin_num b
  end_ := fun q x hx => by cases hx
def potSh : Bool × K → Nat
  | (_, .none) => 0
  | (_, .esc) => 1
  | (_, .par) => 2
  | (_, .dol) => 2
  | (_, .half _) => 1
theorem firstSh_pot (d : Bool) (b : UInt8) : (firstSh d b).2.length + potSh (firstSh d b).1 ≤ 1 ∧ ∀ x ∈ (firstSh d b).2, okN x := by
  have h1 := nb_lt b; have h2 := nb_nonneg b
  unfold firstSh firstD
  refine ite_p (P := fun x : (Bool × K) × List Int => x.2.length + potSh x.1 ≤ 1 ∧ ∀ y ∈ x.2, okN y) (fun _ => ⟨Nat.le_refl 1, fun y hy => by cases hy⟩) fun _ => ?_
  refine ite_p (P := fun x : (Bool × K) × List Int => x.2.length + potSh x.1 ≤ 1 ∧ ∀ y ∈ x.2, okN y) (fun _ => ?_) fun _ => ?_
  · refine ite_p (P := fun x : (Bool × K) × List Int => x.2.length + potSh x.1 ≤ 1 ∧ ∀ y ∈ x.2, okN y) (fun _ => ⟨Nat.le_refl 1, one_num rfl (by unfold okN; omega)⟩) fun _ => ?_
    exact ite_p (P := fun x : (Bool × K) × List Int => x.2.length + potSh x.1 ≤ 1 ∧ ∀ y ∈ x.2, okN y) (fun h => ⟨Nat.le_refl 1, fun y hy => by cases hy⟩) fun _ => ⟨Nat.le_refl 1, one_num rfl ok1⟩
  · exact ite_p (P := fun x : (Bool × K) × List Int => x.2.length + potSh x.1 ≤ 1 ∧ ∀ y ∈ x.2, okN y) (fun _ => ⟨Nat.le_refl 1, one_num rfl ok1⟩) fun _ => ⟨Nat.le_refl 1, one_num rfl (by unfold okN; omega)⟩
theorem secondSh_num (k b : UInt8) (hk : 33 ≤ nb k ∧ nb k ≤ 126) : (secondSh k b).1.length ≤ 1 ∧ ∀ x ∈ (secondSh k b).1, okN x := by
  have h1 := nb_lt b; have h2 := nb_nonneg b
  unfold secondSh
  exact ite_p (P := fun x : List Int × Bool => x.1.length ≤ 1 ∧ ∀ y ∈ x.1, okN y) (fun _ => ⟨Nat.le_refl 1, one_num rfl (by unfold okN; omega)⟩) fun _ => ⟨Nat.le_refl 1, one_num rfl ok1⟩
theorem offerSh_pot (q : Bool × K) (b : UInt8) (hq : shOk q) : (shOffer q b).2.1.length + potSh (shOffer q b).1 ≤ potSh q + (if (shOffer q b).2.2 then 0 else 1) ∧ ∀ x ∈ (shOffer q b).2.1, okN x := by
  obtain ⟨d, k⟩ := q
  have drop2 : ∀ c : UInt8, (-1 :: (firstSh d c).2).length + potSh (firstSh d c).1 ≤ 2 ∧ ∀ x ∈ -1 :: (firstSh d c).2, okN x := fun c => by
    have h := firstSh_pot d c
    refine ⟨by simp only [List.length_cons]; omega, fun x hx => ?_⟩
    rcases List.mem_cons.1 hx with rfl | hx
    · exact ok1
    · exact h.2 x hx
  cases k with
  | none =>
    have h := firstSh_pot d b
    show (firstSh d b).2.length + potSh (firstSh d b).1 ≤ 0 + 1 ∧ _
    simp only [shOffer]
    generalize firstSh d b = x at h ⊢
    exact h
  | esc =>
    simp only [shOffer]
    refine ite_p (P := fun x : (Bool × K) × List Int × Bool => x.2.1.length + potSh x.1 ≤ potSh (d, .esc) + (if x.2.2 then 0 else 1) ∧ ∀ y ∈ x.2.1, okN y) (fun _ => ⟨Nat.le_refl 2, fun y hy => by cases hy⟩) fun _ => ?_
    exact ite_p (P := fun x : (Bool × K) × List Int × Bool => x.2.1.length + potSh x.1 ≤ potSh (d, .esc) + (if x.2.2 then 0 else 1) ∧ ∀ y ∈ x.2.1, okN y) (fun _ => ⟨Nat.le_refl 2, fun y hy => by cases hy⟩) fun _ => ⟨Nat.le_refl 1, one_num rfl ok1⟩
  | par =>
    simp only [shOffer]
    exact ite_p (P := fun x : (Bool × K) × List Int × Bool => x.2.1.length + potSh x.1 ≤ potSh (d, .par) + (if x.2.2 then 0 else 1) ∧ ∀ y ∈ x.2.1, okN y) (fun _ => ⟨Nat.zero_le _, fun y hy => by cases hy⟩) fun _ => drop2 40
  | dol =>
    simp only [shOffer]
    exact ite_p (P := fun x : (Bool × K) × List Int × Bool => x.2.1.length + potSh x.1 ≤ potSh (d, .dol) + (if x.2.2 then 0 else 1) ∧ ∀ y ∈ x.2.1, okN y) (fun _ => ⟨Nat.zero_le _, fun y hy => by cases hy⟩) fun _ => drop2 36
  | half c =>
    obtain ⟨_, h1, h2⟩ := hq
    have h := secondSh_num c b ⟨h1, h2⟩
    simp only [shOffer, potSh]
    exact ⟨by omega, h.2⟩
theorem fewSh : FewM mSh potSh where
  init := rfl
  go := fun q b hq => (offerSh_pot q b hq).1
  fin := fun q => by
    obtain ⟨d, k⟩ := q
    show (shFin (d, k)).length ≤ potSh (d, k)
    cases k <;> cases d <;> simp [shFin, potSh]
  num := fun q b hq => (offerSh_pot q b hq).2
  end_ := fun q => by
    obtain ⟨d, k⟩ := q
    show ∀ x ∈ shFin (d, k), okN x
    cases k <;> cases d <;> simp [shFin, okN]
def potLo : Int × Option UInt8 → Nat
  | (h, k) => (if h = 0 then 0 else 1) + potO k
theorem unitO_num (h u : Int) (hu : 0 ≤ u ∧ u ≤ 65535) : (unitO h u).2.length + (if (unitO h u).1 = 0 then 0 else 1) ≤ 1 ∧ ∀ x ∈ (unitO h u).2, okN x := by
  unfold unitO
  refine ite_p (P := fun x : Int × List Int => x.2.length + (if x.1 = 0 then 0 else 1) ≤ 1 ∧ ∀ y ∈ x.2, okN y) (fun _ => ⟨Nat.le_refl 1, one_num rfl (by unfold okN; omega)⟩) fun _ => ?_
  refine ite_p (P := fun x : Int × List Int => x.2.length + (if x.1 = 0 then 0 else 1) ≤ 1 ∧ ∀ y ∈ x.2, okN y) (fun _ => ⟨by simp only [List.length_nil]; split <;> omega, fun y hy => by cases hy⟩) fun hl => ?_
  refine ite_p (P := fun x : Int × List Int => x.2.length + (if x.1 = 0 then 0 else 1) ≤ 1 ∧ ∀ y ∈ x.2, okN y) (fun _ => ⟨Nat.le_refl 1, one_num rfl ok1⟩) fun ht => ⟨Nat.le_refl 1, one_num rfl ?_⟩
  unfold leadsB at hl
  unfold trailsB at ht
  simp at hl ht
  unfold okN
  omega
theorem offerLo_pot (q : Int × Option UInt8) (b : UInt8) : (loOffer q b).2.1.length + potLo (loOffer q b).1 ≤ potLo q + (if (loOffer q b).2.2 then 0 else 1) ∧ ∀ x ∈ (loOffer q b).2.1, okN x := by
  obtain ⟨h, k⟩ := q
  have h1 := nb_lt b; have h2 := nb_nonneg b
  cases k with
  | none => simp only [loOffer, potLo, potO]; exact ⟨by by_cases hz : h = 0 <;> simp [hz], fun y hy => by cases hy⟩
  | some k =>
    have h3 := nb_lt k; have h4 := nb_nonneg k
    have hu := unitO_num h (nb b * 256 + nb k) (by omega)
    simp only [loOffer]
    refine ite_p (P := fun x : (Int × Option UInt8) × List Int × Bool => x.2.1.length + potLo x.1 ≤ potLo (h, some k) + (if x.2.2 then 0 else 1) ∧ ∀ y ∈ x.2.1, okN y) (fun hx => ⟨?_, one_num rfl ok1⟩) fun _ => ⟨?_, hu.2⟩
    · simp [potLo, potO, hx.1]
    · simp only [potLo, potO, Bool.false_eq_true, if_false]; omega
theorem fewLo : FewM mLo potLo where
  init := rfl
  go := fun q b hq => (offerLo_pot q b).1
  fin := fun q => by
    obtain ⟨h, k⟩ := q
    show (loFin (h, k)).length ≤ potLo (h, k)
    cases k with
    | none => simp only [loFin, potLo, potO]; split <;> simp
    | some k => simp [loFin, potLo, potO]
  num := fun q b hq => (offerLo_pot q b).2
  end_ := fun q => by
    obtain ⟨h, k⟩ := q
    show ∀ x ∈ loFin (h, k), okN x
    cases k with
    | none => simp only [loFin]; split <;> simp [okN]
    | some k => simp [loFin, okN]
def potHi : H → Nat
  | .unit h => if h = 0 then 0 else 1
  | .mid h _ => (if h = 0 then 0 else 1) + 1
  | .told _ => 0
theorem offerHi_pot (q : H) (b : UInt8) (hq : q.ok) : (H.offer q b).2.1.length + potHi (H.offer q b).1 ≤ potHi q + (if (H.offer q b).2.2 then 0 else 1) ∧ ∀ x ∈ (H.offer q b).2.1, okN x := by
  have h1 := nb_lt b; have h2 := nb_nonneg b
  cases q with
  | unit h =>
    simp only [H.offer]
    exact ite_p (P := fun x : H × List Int × Bool => x.2.1.length + potHi x.1 ≤ potHi (.unit h) + (if x.2.2 then 0 else 1) ∧ ∀ y ∈ x.2.1, okN y) (fun hx => ⟨by simp [potHi], fun y hy => by cases hy⟩) fun _ => ⟨by simp [potHi], one_num rfl ok1⟩
  | mid h k =>
    have h3 := nb_lt k; have h4 := nb_nonneg k
    have hu := unitO_num h (nb k * 256 + nb b) (by omega)
    simp only [H.offer, potHi, Bool.false_eq_true, if_false]
    exact ⟨by omega, hu.2⟩
  | told k =>
    have h3 := nb_lt k; have h4 := nb_nonneg k
    have hu := unitO_num 0 (nb k * 256 + nb b) (by omega)
    simp only [H.offer]
    exact ite_p (P := fun x : H × List Int × Bool => x.2.1.length + potHi x.1 ≤ potHi (.told k) + (if x.2.2 then 0 else 1) ∧ ∀ y ∈ x.2.1, okN y) (fun hx => ⟨by simp [potHi], fun y hy => by cases hy⟩) fun _ => ⟨by simp only [potHi, Bool.false_eq_true, if_false]; omega, hu.2⟩
theorem fewHi : FewM mHi potHi where
  init := rfl
  go := fun q b hq => (offerHi_pot q b hq).1
  fin := fun q => by
    show (H.fin q).length ≤ potHi q
    cases q with
    | unit h => simp only [H.fin, potHi]; split <;> simp
    | mid h k => simp [H.fin, potHi]
    | told k => simp [H.fin, potHi]
  num := fun q b hq => (offerHi_pot q b hq).2
  end_ := fun q => by
    show ∀ x ∈ H.fin q, okN x
    cases q with
    | unit h => simp only [H.fin]; split <;> simp [okN]
    | mid h k => simp [H.fin, okN]
    | told k => simp [H.fin]

theorem Mach.proc_once {M : Mach} {q q' : M.Q} {b : UInt8} {l : List Int} (h : M.offer q b = (q', l, false)) : M.proc q b = (q', l) := by
  unfold Mach.proc Mach.procF
  rw [h]; rfl
theorem Mach.proc_twice {M : Mach} {q q1 q2 : M.Q} {b : UInt8} {l m : List Int} (h : M.offer q b = (q1, l, true)) (hr : 0 < M.rank q) (h2 : M.offer q1 b = (q2, m, false)) : M.proc q b = (q2, l ++ m) := by
  unfold Mach.proc
  obtain ⟨n, hn⟩ : ∃ n, M.rank q = n + 1 := ⟨M.rank q - 1, by omega⟩
  rw [hn]
  unfold Mach.procF
  rw [h]
  unfold Mach.procF
  rw [h2]; rfl
/-- Plain bytes are themselves. -/
def plainB (b : UInt8) : Prop := 32 ≤ nb b ∧ nb b ≤ 126
theorem dec_plain {M : Mach} (hp : ∀ b, plainB b → M.proc M.init b = (M.init, [nb b])) (hf : M.fin M.init = []) (l : List UInt8) (h : ∀ b ∈ l, plainB b) : M.dec M.init l = l.map nb := by
  have : M.feed M.init l = (M.init, l.map nb) := by
    induction l with
    | nil => rfl
    | cons b r ih => simp [Mach.feed, hp b (h b (by simp)), ih (fun c hc => h c (by simp [hc]))]
  simp [Mach.dec, this, hf]
theorem plainU (b : UInt8) (h : plainB b) : mU.proc mU.init b = (mU.init, [nb b]) := by
  have e : firstU b = (.zero, [nb b]) := by unfold firstU; rw [if_pos (by have := h.2; omega)]
  exact Mach.proc_once (M := mU) (q := .zero) (by show ((firstU b).1, (firstU b).2, false) = _; rw [e]; rfl)
theorem plainT (b : UInt8) (h : plainB b) : mT.proc mT.init b = (mT.init, [nb b]) := by
  have e : firstT b = (none, [nb b]) := by unfold firstT; rw [if_pos (by have := h.2; omega)]
  exact Mach.proc_once (M := mT) (q := none) (by show ((firstT b).1, (firstT b).2, false) = _; rw [e]; rfl)
theorem plainLat (b : UInt8) (h : plainB b) : mLat.proc mLat.init b = (mLat.init, [nb b]) := by
  have e : latinL b = [nb b] := by unfold latinL; rw [if_pos (by have := h.2; omega)]
  simp [mLat, Mach.proc, Mach.procF, e]
theorem plainSh (b : UInt8) (h : plainB b) : mSh.proc mSh.init b = (mSh.init, [nb b]) := by
  have e : firstSh false b = ((false, .none), [nb b]) := by
    have h1 := h.1; have h2 := h.2
    unfold firstSh
    rw [if_neg (by omega), if_neg (by simp), if_neg (by omega)]
  exact Mach.proc_once (M := mSh) (q := (false, .none)) (by show ((firstSh false b).1, (firstSh false b).2, false) = _; rw [e]; rfl)
end Go.Proofs.Ytloaemijhggheaa
