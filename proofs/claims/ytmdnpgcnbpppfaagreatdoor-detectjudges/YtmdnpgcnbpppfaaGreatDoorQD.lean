/- 7 texts of this proof in one file: Whole, In, Law, Pure, FewW, Pure2, ErrW. -/
import Derived.Test.YtmdnpgcnbpppfaaGreatDoorQG
import Derived.Test.YtmdnpgcnbpppfaaGreatDoorBase
import Derived.Test.YtmdnpgcnbpppfaaGreatDoorWGood2
import Derived.Deep.QuietTactic
import Derived.BigQuiet
import Derived.Laws.Runes
/- Whole: all bytes at once, and their end; End. -/
namespace Go.Proofs.YtmdnpgcnbpppfaaGreatDoor
open Go.RowKit
attribute [local go_sem ↓] run_eqS run_neS
attribute [local go_sem] byte_at0 byte_at20 byte_at21 w64 S.v and63 and31 and15 and7 kw kw256

/-- A call hands back a list and an error's number. -/
def POE (w : World) (l : List Int) (n : Int) (e : Ending) (w' : World) : Prop := ∃ v, e = .returned (.tuple #[v, .int .i64 n]) ∧ Out w' w.heap.size v l ∧ Below w.heap.size w w'
set_option maxRecDepth 100000 in
set_option maxHeartbeats 1000000 in
theorem whole_any {e : Int} {M : Mach} (C : Con e M) (G : Goods e M) (s : ByteArray) (hs : s.size ≤ 4000) (w : World) : Calls Tryz.prog 26 #[.int .i64 e, .string s] w (POE w (M.dec M.init s.data.toList) 0) := by
  have H := fun w1 => feed_any C G M.init C.law.init s hs w1
  rw [C.law.zero] at H
  simp only [S.zero] at H
  have hok := C.feed_ok s.data.toList M.init C.law.init
  have HF := hid (fun w1 => C.fin (M.feed M.init s.data.toList).1 w1 hok.1)
  have hlen : (M.feed M.init s.data.toList).2.length ≤ 24000 := by
    have := hok.2; simp at this; omega
  have hfl := C.end_ (M.feed M.init s.data.toList).1
  have hdec := hid (show M.dec M.init s.data.toList = _ ++ _ from rfl)
  clear hok
  generalize (M.feed M.init s.data.toList).2 = l at *
  generalize M.fin (M.feed M.init s.data.toList).1 = m at *
  generalize M.toS (M.feed M.init s.data.toList).1 = st at *
  replace H := hid H
  go_enter Tryz.func26, Tryz.ntmps26
  go_wp2_with fail
  refine (H.out _).mono ?_
  rintro e' w1 ⟨v, rfl, ho, hb1⟩
  replace ho := hid ho
  go_wp2_with fail
  refine (HF.out _).mono ?_
  rintro e' w2 ⟨v2, rfl, ho2, hb2⟩
  have hw := hb1.size
  have hb3 := one_box hb2
  have hA := (ho.out.below hb3)
  go_wp2_with (at_builtin; refine list_appO rfl (.tmp 20) (.tmp 23) rfl (v := v) (v2 := v2) rfl rfl hA ho2 (by have := hb3.size; omega) (by omega) ?_; intro v3 w3 ho3 hb4)
  go_ret2
  rw [hdec.out]
  exact ⟨v3, rfl, ho3, (hb1.trans (hb3.mono hw)).trans hb4⟩
end Go.Proofs.YtmdnpgcnbpppfaaGreatDoor

/- in: whether a number is an encoding's. -/
namespace Go.Proofs.YtmdnpgcnbpppfaaGreatDoor
open Go.RowKit
end Go.Proofs.YtmdnpgcnbpppfaaGreatDoor

/- What the laws call besides: decodes, in, pick, same. -/
namespace Go.Proofs.YtmdnpgcnbpppfaaGreatDoor
open Go.RowKit
attribute [local go_sem ↓] run_eqS run_neS
attribute [local go_sem] byte_at0 byte_at20 byte_at21 w64 S.v and63 and31 and15 and7 kw kw256

theorem dec0 : mU.dec mU.init [97, 195, 169, 128] = [97, 233, -1] := by decide +kernel
/-- Two lists alike. -/
theorem SameNumbers_nil (A B : Option Addr) (c d : Nat) (w : World) : Calls Tryz.prog 10 #[.slice A 0 c, .slice B 0 d] w fun e w' => e = .returned (.bool true) ∧ Below w.heap.size w w' := by
  go_enter Tryz.func10, Tryz.ntmps10
  go_wp2_with fail
  go_loop [13] (fun i => i = .int .i64 0) (fun _ => 0)
  case atStart => rfl
  case round =>
    subst hrel
    go_wp2_with fail
    go_ret
    exact ⟨rfl, Below.refl _ _⟩
set_option maxRecDepth 100000 in
set_option maxHeartbeats 400000 in
theorem SameNumbers_row (l : List Int) (g1 c1 g2 c2 : Nat) (w : World) (hl : l.length ≤ 100000) (h1 : ∀ j (hj : j < l.length), w.cell? ⟨g1, j, none⟩ = some (.int .i64 l[j])) (h2 : ∀ j (hj : j < l.length), w.cell? ⟨g2, j, none⟩ = some (.int .i64 l[j])) :
    Calls Tryz.prog 10 #[.slice (some ⟨g1, 0, none⟩) l.length c1, .slice (some ⟨g2, 0, none⟩) l.length c2] w fun e w' => e = .returned (.bool true) ∧ Below w.heap.size w w' := by
  replace h1 := hid h1
  replace h2 := hid h2
  go_enter Tryz.func10, Tryz.ntmps10
  go_wp2_with fail
  go_loopw [13] (fun i wr => ∃ k n : Nat, k ≤ l.length ∧ i = .int .i64 k ∧ wr = w.drewN n) (fun i _ => l.length - (intOf i).toNat)
  case atStart => exact ⟨0, 0, Nat.zero_le _, rfl, rfl⟩
  case round =>
    obtain ⟨k, n, hk, rfl, rfl⟩ := hrel
    by_cases hlt : k < l.length
    · have e1 := h1.out k hlt
      have e2 := h2.out k hlt
      have b0 : (0 : Int) ≤ (k : Int) := by omega
      have b1 : (k : Int) < (l.length : Int) := by omega
      go_wp2_with fail
      go_quiet (fail)
      go_wp2_with fail
      go_roundw
      case rel => exact ⟨k + 1, _, by omega, by go_num, rfl⟩
      case measure => simp [intOf]; omega
    · go_wp2_with fail
      go_ret
      exact ⟨rfl, bdrewN (Below.refl _ _) _⟩
theorem SameNumbers_any (l : List Int) (v1 v2 : Value) (B1 B2 : Nat) (w : World) (hl : l.length ≤ 100000) (h1 : Out w B1 v1 l) (h2 : Out w B2 v2 l) :
    Calls Tryz.prog 10 #[v1, v2] w fun e w' => e = .returned (.bool true) ∧ Below w.heap.size w w' := by
  by_cases h0 : 0 < l.length
  · obtain ⟨g1, c1, rfl, _, k1⟩ := h1.rows h0
    obtain ⟨g2, c2, rfl, _, k2⟩ := h2.rows h0
    exact SameNumbers_row l g1 c1 g2 c2 w hl k1 k2
  · obtain ⟨a, c, rfl⟩ := h1.shape
    obtain ⟨b, d, rfl⟩ := h2.shape
    rw [show l.length = 0 from by omega]
    exact SameNumbers_nil a b c d w
end Go.Proofs.YtmdnpgcnbpppfaaGreatDoor

/- Plain mathematics of the machines: how many numbers are told and which; plain text. -/
namespace Go.Proofs.YtmdnpgcnbpppfaaGreatDoor

def okN (x : Int) : Prop := -1 ≤ x ∧ x ≤ 1114111 ∧ ¬ (55296 ≤ x ∧ x ≤ 57343)
theorem ok1 : okN (-1) := by unfold okN; omega
/-- No machine tells more numbers than it has got bytes. -/
structure FewM (M : Mach) (pot : M.Q → Nat) : Prop where
  init : pot M.init = 0
  go : ∀ q b, M.ok q → (M.offer q b).2.1.length + pot (M.offer q b).1 ≤ pot q + (if (M.offer q b).2.2 then 0 else 1)
  fin : ∀ q, (M.fin q).length ≤ pot q
  num : ∀ q b, M.ok q → ∀ x ∈ (M.offer q b).2.1, okN x
  end_ : ∀ q, ∀ x ∈ M.fin q, okN x
theorem FewM.procF {e : Int} {M : Mach} {pot : M.Q → Nat} (C : Con e M) (F : FewM M pot) (b : UInt8) : ∀ n q, M.ok q → M.rank q < n → (M.procF n q b).2.length + pot (M.procF n q b).1 ≤ pot q + 1 ∧ ∀ x ∈ (M.procF n q b).2, okN x
  | 0, q, _, h => by omega
  | n + 1, q, hq, h => by
    have h1 := F.go q b hq
    have h2 := F.num q b hq
    unfold Mach.procF
    cases ha : (M.offer q b).2.2 with
    | true =>
      rw [ha] at h1
      have h3 := F.procF C b n _ (C.law.step q b hq) (by have := C.law.drop q b hq ha; omega)
      simp only [if_true] at h1 ⊢
      refine ⟨by simp only [List.length_append]; omega, fun x hx => ?_⟩
      rcases List.mem_append.1 hx with hx | hx
      · exact h2 x hx
      · exact h3.2 x hx
    | false =>
      rw [ha] at h1
      simp only [Bool.false_eq_true, if_false] at h1 ⊢
      exact ⟨h1, h2⟩
theorem FewM.feed {e : Int} {M : Mach} {pot : M.Q → Nat} (C : Con e M) (F : FewM M pot) (l : List UInt8) : ∀ q, M.ok q → (M.feed q l).2.length + pot (M.feed q l).1 ≤ pot q + l.length ∧ ∀ x ∈ (M.feed q l).2, okN x := by
  induction l with
  | nil => intro q _; simp [Mach.feed]
  | cons b r ih =>
    intro q hq
    have h1 := F.procF C b (M.rank q + 1) q hq (Nat.lt_succ_self _)
    have h2 := ih (M.proc q b).1 (C.proc_ok b hq).1
    change (M.proc q b).2.length + pot (M.proc q b).1 ≤ pot q + 1 ∧ _ at h1
    refine ⟨by simp only [Mach.feed, List.length_append, List.length_cons]; omega, fun x hx => ?_⟩
    simp only [Mach.feed] at hx
    rcases List.mem_append.1 hx with hx | hx
    · exact h1.2 x hx
    · exact h2.2 x hx
theorem FewM.dec {e : Int} {M : Mach} {pot : M.Q → Nat} (C : Con e M) (F : FewM M pot) (l : List UInt8) : (M.dec M.init l).length ≤ l.length ∧ ∀ x ∈ M.dec M.init l, okN x := by
  have h := F.feed C l M.init C.law.init
  have h2 := F.fin (M.feed M.init l).1
  have h3 := F.init
  refine ⟨by simp only [Mach.dec, List.length_append]; omega, fun x hx => ?_⟩
  simp only [Mach.dec] at hx
  rcases List.mem_append.1 hx with hx | hx
  · exact h.2 x hx
  · exact F.end_ _ x hx

/-- A statement of a list that bears at most one number. -/
theorem one_num {P : Int → Prop} {l : List Int} {x : Int} (h : l = [x]) (hx : P x) : ∀ y ∈ l, P y := by subst h; simpa using hx
def potU : U → Nat
  | .zero => 0
  | .seq _ _ => 1
theorem firstU_few (b : UInt8) : (firstU b).2.length + potU (firstU b).1 ≤ 1 ∧ ∀ x ∈ (firstU b).2, okN x := by
  have h1 := nb_lt b; have h2 := nb_nonneg b
  unfold firstU
  refine ite_p (P := fun x : U × List Int => x.2.length + potU x.1 ≤ 1 ∧ ∀ y ∈ x.2, okN y) (fun _ => ⟨Nat.le_refl 1, one_num rfl (by unfold okN; omega)⟩) fun _ => ?_
  refine ite_p (P := fun x : U × List Int => x.2.length + potU x.1 ≤ 1 ∧ ∀ y ∈ x.2, okN y) (fun _ => ⟨Nat.le_refl 1, fun y hy => by cases hy⟩) fun _ => ?_
  refine ite_p (P := fun x : U × List Int => x.2.length + potU x.1 ≤ 1 ∧ ∀ y ∈ x.2, okN y) (fun _ => ⟨Nat.le_refl 1, fun y hy => by cases hy⟩) fun _ => ?_
  refine ite_p (P := fun x : U × List Int => x.2.length + potU x.1 ≤ 1 ∧ ∀ y ∈ x.2, okN y) (fun _ => ⟨Nat.le_refl 1, fun y hy => by cases hy⟩) fun _ => ?_
  exact ⟨Nat.le_refl 1, one_num rfl ok1⟩
theorem seq_few (n c : Int) (b : UInt8) (hq : U.ok (.seq n c)) : (U.offer (.seq n c) b).2.1.length + potU (U.offer (.seq n c) b).1 ≤ 1 + (if (U.offer (.seq n c) b).2.2 then 0 else 1) ∧ ∀ x ∈ (U.offer (.seq n c) b).2.1, okN x := by
  have h1 := nb_lt b; have h2 := nb_nonneg b
  simp only [U.ok] at hq
  simp only [U.offer]
  refine ite_p (P := fun x : U × List Int × Bool => x.2.1.length + potU x.1 ≤ 1 + (if x.2.2 then 0 else 1) ∧ ∀ y ∈ x.2.1, okN y) (fun _ => ⟨Nat.le_refl 1, one_num rfl ok1⟩) fun _ => ?_
  refine ite_p (P := fun x : U × List Int × Bool => x.2.1.length + potU x.1 ≤ 1 + (if x.2.2 then 0 else 1) ∧ ∀ y ∈ x.2.1, okN y) (fun hn => ⟨Nat.le_succ 1, one_num rfl ?_⟩) fun _ => ?_
  · unfold okN; omega
  · exact ⟨Nat.le_succ 1, fun y hy => by cases hy⟩
theorem fewU : FewM mU potU where
  init := rfl
  go := fun q b hq => by
    cases q with
    | zero =>
      have h := (firstU_few b)
      simp only [mU, U.offer]
      generalize firstU b = x at h ⊢
      simpa [potU] using h.1
    | seq n c => exact (seq_few n c b hq).1
  fin := fun q => by
    cases q with
    | zero => exact Nat.zero_le _
    | seq n c => exact Nat.le_refl 1
  num := fun q b hq => by
    cases q with
    | zero =>
      have h := (firstU_few b)
      simp only [mU, U.offer]
      generalize firstU b = x at h ⊢
      exact h.2
    | seq n c => exact (seq_few n c b hq).2
  end_ := fun q => by
    cases q with
    | zero => intro x hx; cases hx
    | seq n c => exact one_num rfl ok1
def potO : Option UInt8 → Nat
  | none => 0
  | some _ => 1
theorem firstT_few (b : UInt8) : (firstT b).2.length + potO (firstT b).1 ≤ 1 ∧ ∀ x ∈ (firstT b).2, okN x := by
  have h1 := nb_lt b; have h2 := nb_nonneg b
  unfold firstT
  refine ite_p (P := fun x : Option UInt8 × List Int => x.2.length + potO x.1 ≤ 1 ∧ ∀ y ∈ x.2, okN y) (fun _ => ⟨Nat.le_refl 1, one_num rfl (by unfold okN; omega)⟩) fun _ => ?_
  refine ite_p (P := fun x : Option UInt8 × List Int => x.2.length + potO x.1 ≤ 1 ∧ ∀ y ∈ x.2, okN y) (fun _ => ⟨Nat.le_refl 1, one_num rfl (by unfold okN; omega)⟩) fun _ => ?_
  refine ite_p (P := fun x : Option UInt8 × List Int => x.2.length + potO x.1 ≤ 1 ∧ ∀ y ∈ x.2, okN y) (fun _ => ⟨Nat.le_refl 1, fun y hy => by cases hy⟩) fun _ => ?_
  exact ⟨Nat.le_refl 1, one_num rfl ok1⟩
theorem secondT_num (k b : UInt8) (hk : twOk (some k)) : ∀ x ∈ (secondT k b).1, okN x := by
  have h1 := nb_lt b; have h2 := nb_nonneg b
  change 129 ≤ nb k ∧ nb k ≤ 159 at hk
  unfold secondT
  refine ite_p (P := fun x : List Int × Bool => ∀ y ∈ x.1, okN y) (fun _ => one_num rfl (by unfold okN; omega)) fun _ => ?_
  exact ite_p (P := fun x : List Int × Bool => ∀ y ∈ x.1, okN y) (fun _ => one_num rfl (by unfold okN; omega)) fun _ => one_num rfl ok1
theorem fewT : FewM mT potO where
  init := rfl
  go := fun q b hq => by
    cases q with
    | none =>
      have h := (firstT_few b)
      simp only [mT, twOffer]
      generalize firstT b = x at h ⊢
      simpa [potO] using h.1
    | some k =>
      have h := secondT_few k b
      simp only [mT, twOffer, potO]
      omega
  fin := fun q => by
    cases q with
    | none => exact Nat.zero_le _
    | some k => exact Nat.le_refl 1
  num := fun q b hq => by
    cases q with
    | none =>
      have h := (firstT_few b)
      simp only [mT, twOffer]
      generalize firstT b = x at h ⊢
      exact h.2
    | some k => simp only [mT, twOffer]; exact secondT_num k b hq
  end_ := fun q => by
    cases q with
    | none => intro x hx; cases hx
    | some k => exact one_num rfl ok1
theorem latin_num (b : UInt8) : ∀ x ∈ latinL b, okN x := by
  have h1 := nb_lt b; have h2 := nb_nonneg b
  unfold latinL
  refine ite_p (P := fun x : List Int => ∀ y ∈ x, okN y) (fun _ => one_num rfl (by unfold okN; omega)) fun _ => ?_
  exact ite_p (P := fun x : List Int => ∀ y ∈ x, okN y) (fun _ => one_num rfl ok1) fun _ => one_num rfl (by unfold okN; omega)
theorem fewLat : FewM mLat (fun _ => 0) where
  init := rfl
  go := fun q b hq => by have := latinL_few b; simp only [mLat, Bool.false_eq_true, if_false]; omega
  fin := fun q => Nat.zero_le _
  num := fun q b hq => by simp only [mLat]; exact latin_num b
  end_ := fun q x hx => by cases hx
def potSh : Bool × K → Nat
  | (_, .none) => 0
  | (_, .esc) => 1
  | (_, .par) => 2
  | (_, .dol) => 2
  | (_, .half _) => 1
theorem firstSh_pot (d : Bool) (b : UInt8) : (firstSh d b).2.length + potSh (firstSh d b).1 ≤ 1 ∧ ∀ x ∈ (firstSh d b).2, okN x := by
  have h1 := nb_lt b; have h2 := nb_nonneg b
  unfold firstSh firstD
  refine ite_p (P := fun x : (Bool × K) × List Int => x.2.length + potSh x.1 ≤ 1 ∧ ∀ y ∈ x.2, okN y) (fun _ => ⟨Nat.le_refl 1, fun y hy => by cases hy⟩) fun _ => ?_
  refine ite_p (P := fun x : (Bool × K) × List Int => x.2.length + potSh x.1 ≤ 1 ∧ ∀ y ∈ x.2, okN y) (fun _ => ?_) fun _ => ?_
  · refine ite_p (P := fun x : (Bool × K) × List Int => x.2.length + potSh x.1 ≤ 1 ∧ ∀ y ∈ x.2, okN y) (fun _ => ⟨Nat.le_refl 1, one_num rfl (by unfold okN; omega)⟩) fun _ => ?_
    exact ite_p (P := fun x : (Bool × K) × List Int => x.2.length + potSh x.1 ≤ 1 ∧ ∀ y ∈ x.2, okN y) (fun h => ⟨Nat.le_refl 1, fun y hy => by cases hy⟩) fun _ => ⟨Nat.le_refl 1, one_num rfl ok1⟩
  · exact ite_p (P := fun x : (Bool × K) × List Int => x.2.length + potSh x.1 ≤ 1 ∧ ∀ y ∈ x.2, okN y) (fun _ => ⟨Nat.le_refl 1, one_num rfl ok1⟩) fun _ => ⟨Nat.le_refl 1, one_num rfl (by unfold okN; omega)⟩
theorem secondSh_num (k b : UInt8) (hk : 33 ≤ nb k ∧ nb k ≤ 126) : (secondSh k b).1.length ≤ 1 ∧ ∀ x ∈ (secondSh k b).1, okN x := by
  have h1 := nb_lt b; have h2 := nb_nonneg b
  unfold secondSh
  exact ite_p (P := fun x : List Int × Bool => x.1.length ≤ 1 ∧ ∀ y ∈ x.1, okN y) (fun _ => ⟨Nat.le_refl 1, one_num rfl (by unfold okN; omega)⟩) fun _ => ⟨Nat.le_refl 1, one_num rfl ok1⟩
theorem offerSh_pot (q : Bool × K) (b : UInt8) (hq : shOk q) : (shOffer q b).2.1.length + potSh (shOffer q b).1 ≤ potSh q + (if (shOffer q b).2.2 then 0 else 1) ∧ ∀ x ∈ (shOffer q b).2.1, okN x := by
  obtain ⟨d, k⟩ := q
  have drop2 : ∀ c : UInt8, (-1 :: (firstSh d c).2).length + potSh (firstSh d c).1 ≤ 2 ∧ ∀ x ∈ -1 :: (firstSh d c).2, okN x := fun c => by
    have h := firstSh_pot d c
    refine ⟨by simp only [List.length_cons]; omega, fun x hx => ?_⟩
    rcases List.mem_cons.1 hx with rfl | hx
    · exact ok1
    · exact h.2 x hx
  cases k with
  | none =>
    have h := firstSh_pot d b
    show (firstSh d b).2.length + potSh (firstSh d b).1 ≤ 0 + 1 ∧ _
    simp only [shOffer]
    generalize firstSh d b = x at h ⊢
    exact h
  | esc =>
    simp only [shOffer]
    refine ite_p (P := fun x : (Bool × K) × List Int × Bool => x.2.1.length + potSh x.1 ≤ potSh (d, .esc) + (if x.2.2 then 0 else 1) ∧ ∀ y ∈ x.2.1, okN y) (fun _ => ⟨Nat.le_refl 2, fun y hy => by cases hy⟩) fun _ => ?_
    exact ite_p (P := fun x : (Bool × K) × List Int × Bool => x.2.1.length + potSh x.1 ≤ potSh (d, .esc) + (if x.2.2 then 0 else 1) ∧ ∀ y ∈ x.2.1, okN y) (fun _ => ⟨Nat.le_refl 2, fun y hy => by cases hy⟩) fun _ => ⟨Nat.le_refl 1, one_num rfl ok1⟩
  | par =>
    simp only [shOffer]
    exact ite_p (P := fun x : (Bool × K) × List Int × Bool => x.2.1.length + potSh x.1 ≤ potSh (d, .par) + (if x.2.2 then 0 else 1) ∧ ∀ y ∈ x.2.1, okN y) (fun _ => ⟨Nat.zero_le _, fun y hy => by cases hy⟩) fun _ => drop2 40
  | dol =>
    simp only [shOffer]
    exact ite_p (P := fun x : (Bool × K) × List Int × Bool => x.2.1.length + potSh x.1 ≤ potSh (d, .dol) + (if x.2.2 then 0 else 1) ∧ ∀ y ∈ x.2.1, okN y) (fun _ => ⟨Nat.zero_le _, fun y hy => by cases hy⟩) fun _ => drop2 36
  | half c =>
    obtain ⟨_, h1, h2⟩ := hq
    have h := secondSh_num c b ⟨h1, h2⟩
    simp only [shOffer, potSh]
    exact ⟨by omega, h.2⟩
theorem fewSh : FewM mSh potSh where
  init := rfl
  go := fun q b hq => (offerSh_pot q b hq).1
  fin := fun q => by
    obtain ⟨d, k⟩ := q
    show (shFin (d, k)).length ≤ potSh (d, k)
    cases k <;> cases d <;> simp [shFin, potSh]
  num := fun q b hq => (offerSh_pot q b hq).2
  end_ := fun q => by
    obtain ⟨d, k⟩ := q
    show ∀ x ∈ shFin (d, k), okN x
    cases k <;> cases d <;> simp [shFin, okN]
def potLo : Int × Option UInt8 → Nat
  | (h, k) => (if h = 0 then 0 else 1) + potO k
theorem unitO_num (h u : Int) (hu : 0 ≤ u ∧ u ≤ 65535) : (unitO h u).2.length + (if (unitO h u).1 = 0 then 0 else 1) ≤ 1 ∧ ∀ x ∈ (unitO h u).2, okN x := by
  unfold unitO
  refine ite_p (P := fun x : Int × List Int => x.2.length + (if x.1 = 0 then 0 else 1) ≤ 1 ∧ ∀ y ∈ x.2, okN y) (fun _ => ⟨Nat.le_refl 1, one_num rfl (by unfold okN; omega)⟩) fun _ => ?_
  refine ite_p (P := fun x : Int × List Int => x.2.length + (if x.1 = 0 then 0 else 1) ≤ 1 ∧ ∀ y ∈ x.2, okN y) (fun _ => ⟨by simp only [List.length_nil]; split <;> omega, fun y hy => by cases hy⟩) fun hl => ?_
  refine ite_p (P := fun x : Int × List Int => x.2.length + (if x.1 = 0 then 0 else 1) ≤ 1 ∧ ∀ y ∈ x.2, okN y) (fun _ => ⟨Nat.le_refl 1, one_num rfl ok1⟩) fun ht => ⟨Nat.le_refl 1, one_num rfl ?_⟩
  unfold leadsB at hl
  unfold trailsB at ht
  simp at hl ht
  unfold okN
  omega
theorem offerLo_pot (q : Int × Option UInt8) (b : UInt8) : (loOffer q b).2.1.length + potLo (loOffer q b).1 ≤ potLo q + (if (loOffer q b).2.2 then 0 else 1) ∧ ∀ x ∈ (loOffer q b).2.1, okN x := by
  obtain ⟨h, k⟩ := q
  have h1 := nb_lt b; have h2 := nb_nonneg b
  cases k with
  | none => simp only [loOffer, potLo, potO]; exact ⟨by by_cases hz : h = 0 <;> simp [hz], fun y hy => by cases hy⟩
  | some k =>
    have h3 := nb_lt k; have h4 := nb_nonneg k
    have hu := unitO_num h (nb b * 256 + nb k) (by omega)
    simp only [loOffer]
    refine ite_p (P := fun x : (Int × Option UInt8) × List Int × Bool => x.2.1.length + potLo x.1 ≤ potLo (h, some k) + (if x.2.2 then 0 else 1) ∧ ∀ y ∈ x.2.1, okN y) (fun hx => ⟨?_, one_num rfl ok1⟩) fun _ => ⟨?_, hu.2⟩
    · simp [potLo, potO, hx.1]
    · simp only [potLo, potO, Bool.false_eq_true, if_false]; omega
theorem fewLo : FewM mLo potLo where
  init := rfl
  go := fun q b hq => (offerLo_pot q b).1
  fin := fun q => by
    obtain ⟨h, k⟩ := q
    show (loFin (h, k)).length ≤ potLo (h, k)
    cases k with
    | none => simp only [loFin, potLo, potO]; split <;> simp
    | some k => simp [loFin, potLo, potO]
  num := fun q b hq => (offerLo_pot q b).2
  end_ := fun q => by
    obtain ⟨h, k⟩ := q
    show ∀ x ∈ loFin (h, k), okN x
    cases k with
    | none => simp only [loFin]; split <;> simp [okN]
    | some k => simp [loFin, okN]
def potHi : H → Nat
  | .unit h => if h = 0 then 0 else 1
  | .mid h _ => (if h = 0 then 0 else 1) + 1
  | .told _ => 0
theorem offerHi_pot (q : H) (b : UInt8) (hq : q.ok) : (H.offer q b).2.1.length + potHi (H.offer q b).1 ≤ potHi q + (if (H.offer q b).2.2 then 0 else 1) ∧ ∀ x ∈ (H.offer q b).2.1, okN x := by
  have h1 := nb_lt b; have h2 := nb_nonneg b
  cases q with
  | unit h =>
    simp only [H.offer]
    exact ite_p (P := fun x : H × List Int × Bool => x.2.1.length + potHi x.1 ≤ potHi (.unit h) + (if x.2.2 then 0 else 1) ∧ ∀ y ∈ x.2.1, okN y) (fun hx => ⟨by simp [potHi], fun y hy => by cases hy⟩) fun _ => ⟨by simp [potHi], one_num rfl ok1⟩
  | mid h k =>
    have h3 := nb_lt k; have h4 := nb_nonneg k
    have hu := unitO_num h (nb k * 256 + nb b) (by omega)
    simp only [H.offer, potHi, Bool.false_eq_true, if_false]
    exact ⟨by omega, hu.2⟩
  | told k =>
    have h3 := nb_lt k; have h4 := nb_nonneg k
    have hu := unitO_num 0 (nb k * 256 + nb b) (by omega)
    simp only [H.offer]
    exact ite_p (P := fun x : H × List Int × Bool => x.2.1.length + potHi x.1 ≤ potHi (.told k) + (if x.2.2 then 0 else 1) ∧ ∀ y ∈ x.2.1, okN y) (fun hx => ⟨by simp [potHi], fun y hy => by cases hy⟩) fun _ => ⟨by simp only [potHi, Bool.false_eq_true, if_false]; omega, hu.2⟩
theorem fewHi : FewM mHi potHi where
  init := rfl
  go := fun q b hq => (offerHi_pot q b hq).1
  fin := fun q => by
    show (H.fin q).length ≤ potHi q
    cases q with
    | unit h => simp only [H.fin, potHi]; split <;> simp
    | mid h k => simp [H.fin, potHi]
    | told k => simp [H.fin, potHi]
  num := fun q b hq => (offerHi_pot q b hq).2
  end_ := fun q => by
    show ∀ x ∈ H.fin q, okN x
    cases q with
    | unit h => simp only [H.fin]; split <;> simp [okN]
    | mid h k => simp [H.fin, okN]
    | told k => simp [H.fin]

theorem Mach.proc_once {M : Mach} {q q' : M.Q} {b : UInt8} {l : List Int} (h : M.offer q b = (q', l, false)) : M.proc q b = (q', l) := by
  unfold Mach.proc Mach.procF
  rw [h]; rfl
theorem Mach.proc_twice {M : Mach} {q q1 q2 : M.Q} {b : UInt8} {l m : List Int} (h : M.offer q b = (q1, l, true)) (hr : 0 < M.rank q) (h2 : M.offer q1 b = (q2, m, false)) : M.proc q b = (q2, l ++ m) := by
  unfold Mach.proc
  obtain ⟨n, hn⟩ : ∃ n, M.rank q = n + 1 := ⟨M.rank q - 1, by omega⟩
  rw [hn]
  unfold Mach.procF
  rw [h]
  unfold Mach.procF
  rw [h2]; rfl
/-- Plain bytes are themselves. -/
def plainB (b : UInt8) : Prop := 32 ≤ nb b ∧ nb b ≤ 126
theorem dec_plain {M : Mach} (hp : ∀ b, plainB b → M.proc M.init b = (M.init, [nb b])) (hf : M.fin M.init = []) (l : List UInt8) (h : ∀ b ∈ l, plainB b) : M.dec M.init l = l.map nb := by
  have : M.feed M.init l = (M.init, l.map nb) := by
    induction l with
    | nil => rfl
    | cons b r ih => simp [Mach.feed, hp b (h b (by simp)), ih (fun c hc => h c (by simp [hc]))]
  simp [Mach.dec, this, hf]
theorem plainU (b : UInt8) (h : plainB b) : mU.proc mU.init b = (mU.init, [nb b]) := by
  have e : firstU b = (.zero, [nb b]) := by unfold firstU; rw [if_pos (by have := h.2; omega)]
  exact Mach.proc_once (M := mU) (q := .zero) (by show ((firstU b).1, (firstU b).2, false) = _; rw [e]; rfl)
theorem plainT (b : UInt8) (h : plainB b) : mT.proc mT.init b = (mT.init, [nb b]) := by
  have e : firstT b = (none, [nb b]) := by unfold firstT; rw [if_pos (by have := h.2; omega)]
  exact Mach.proc_once (M := mT) (q := none) (by show ((firstT b).1, (firstT b).2, false) = _; rw [e]; rfl)
theorem plainLat (b : UInt8) (h : plainB b) : mLat.proc mLat.init b = (mLat.init, [nb b]) := by
  have e : latinL b = [nb b] := by unfold latinL; rw [if_pos (by have := h.2; omega)]
  simp [mLat, Mach.proc, Mach.procF, e]
theorem plainSh (b : UInt8) (h : plainB b) : mSh.proc mSh.init b = (mSh.init, [nb b]) := by
  have e : firstSh false b = ((false, .none), [nb b]) := by
    have h1 := h.1; have h2 := h.2
    unfold firstSh
    rw [if_neg (by omega), if_neg (by simp), if_neg (by omega)]
  exact Mach.proc_once (M := mSh) (q := (false, .none)) (by show ((firstSh false b).1, (firstSh false b).2, false) = _; rw [e]; rfl)
end Go.Proofs.YtmdnpgcnbpppfaaGreatDoor

/- The walks over the laws DecodeFew and DecodePlain. -/
namespace Go.Proofs.YtmdnpgcnbpppfaaGreatDoor
open Go.RowKit
attribute [local go_sem ↓] run_eqS run_neS
attribute [local go_sem] byte_at0 byte_at20 byte_at21 w64 S.v and63 and31 and15 and7 kw kw256

theorem few_of (e : Int) (h1 : 1 ≤ e) (h2 : e ≤ 6) : ∃ M, Full e M ∧ ∀ l, (M.dec M.init l).length ≤ l.length ∧ ∀ x ∈ M.dec M.init l, okN x := by
  obtain h | h | h | h | h | h : e = 1 ∨ e = 2 ∨ e = 3 ∨ e = 4 ∨ e = 5 ∨ e = 6 := by omega
  all_goals subst h
  · exact ⟨_, fullU, fewU.dec conU⟩
  · exact ⟨_, fullSh, fewSh.dec conSh⟩
  · exact ⟨_, fullT, fewT.dec conT⟩
  · exact ⟨_, fullLat, fewLat.dec conLat⟩
  · exact ⟨_, fullLo, fewLo.dec conLo⟩
  · exact ⟨_, fullHi, fewHi.dec conHi⟩
theorem plain_of (e : Int) (h1 : 1 ≤ e) (h2 : e ≤ 4) : ∃ M, Full e M ∧ ∀ l : List UInt8, (∀ b ∈ l, plainB b) → M.dec M.init l = l.map nb := by
  obtain h | h | h | h : e = 1 ∨ e = 2 ∨ e = 3 ∨ e = 4 := by omega
  all_goals subst h
  · exact ⟨_, fullU, dec_plain plainU rfl⟩
  · exact ⟨_, fullSh, dec_plain plainSh rfl⟩
  · exact ⟨_, fullT, dec_plain plainT rfl⟩
  · exact ⟨_, fullLat, dec_plain plainLat rfl⟩

end Go.Proofs.YtmdnpgcnbpppfaaGreatDoor

/- Plain mathematics: every number, coded, is told back. -/
namespace Go.Proofs.YtmdnpgcnbpppfaaGreatDoor

theorem Mach.once {M : Mach} {q q' : M.Q} {b : UInt8} {l : List Int} (h : M.offer q b = (q', l, false)) : M.proc q b = (q', l) := by
  unfold Mach.proc Mach.procF
  rw [h]; rfl
theorem Mach.dec_once {M : Mach} {q q' : M.Q} {b : UInt8} {l : List Int} (r : List UInt8) (h : M.offer q b = (q', l, false)) : M.dec q (b :: r) = l ++ M.dec q' r := by
  unfold Mach.dec
  simp [Mach.feed, Mach.once h]
theorem Mach.dec_nil {M : Mach} (q : M.Q) : M.dec q [] = M.fin q := by simp [Mach.dec, Mach.feed]
def decU (q : U) (l : List UInt8) : List Int := mU.dec q l
def decL (q : Int × Option UInt8) (l : List UInt8) : List Int := mLo.dec q l
def decH (q : H) (l : List UInt8) : List Int := mHi.dec q l
theorem decU_once {q q' : U} {b : UInt8} {l : List Int} (r : List UInt8) (h : U.offer q b = (q', l, false)) : decU q (b :: r) = l ++ decU q' r := Mach.dec_once (M := mU) r h
theorem decU_nil (q : U) : decU q [] = q.fin := Mach.dec_nil (M := mU) q
theorem decL_once {q q' : Int × Option UInt8} {b : UInt8} {l : List Int} (r : List UInt8) (h : loOffer q b = (q', l, false)) : decL q (b :: r) = l ++ decL q' r := Mach.dec_once (M := mLo) r h
theorem decH_once {q q' : H} {b : UInt8} {l : List Int} (r : List UInt8) (h : H.offer q b = (q', l, false)) : decH q (b :: r) = l ++ decH q' r := Mach.dec_once (M := mHi) r h
theorem nb_of (k : Nat) (h : k < 256) : nb (UInt8.ofNat k) = (k : Int) := by unfold nb; simp; omega

theorem offU_one (b : UInt8) (h : nb b < 128) : U.offer .zero b = (.zero, [nb b], false) := by
  simp only [U.offer]
  unfold firstU
  rw [if_pos h]
theorem offU_two (b : UInt8) (h1 : 194 ≤ nb b) (h2 : nb b ≤ 223) : U.offer .zero b = (.seq 1 (nb b % 32), [], false) := by
  simp only [U.offer]
  unfold firstU
  rw [if_neg (by omega), if_pos ⟨h1, h2⟩]
theorem offU_three (b : UInt8) (h1 : 224 ≤ nb b) (h2 : nb b ≤ 239) : U.offer .zero b = (.seq 2 (nb b % 16), [], false) := by
  simp only [U.offer]
  unfold firstU
  rw [if_neg (by omega), if_neg (by omega), if_pos ⟨h1, h2⟩]
theorem offU_four (b : UInt8) (h1 : 240 ≤ nb b) (h2 : nb b ≤ 244) : U.offer .zero b = (.seq 3 (nb b % 8), [], false) := by
  simp only [U.offer]
  unfold firstU
  rw [if_neg (by omega), if_neg (by omega), if_neg (by omega), if_pos ⟨h1, h2⟩]
theorem offU_last (c : Int) (b : UInt8) (h1 : 128 ≤ nb b) (h2 : nb b ≤ 191) : U.offer (.seq 1 c) b = (.zero, [c * 64 + nb b % 64], false) := by
  simp only [U.offer]
  rw [if_neg (by unfold loU hiU; rw [if_neg (by omega), if_neg (by omega), if_neg (by omega), if_neg (by omega)]; omega), if_pos trivial]
theorem offU_more (n c : Int) (b : UInt8) (hn : n ≠ 1) (h1 : loU n c ≤ nb b) (h2 : nb b ≤ hiU n c) : U.offer (.seq n c) b = (.seq (n - 1) (c * 64 + nb b % 64), [], false) := by
  simp only [U.offer]
  rw [if_neg (by omega), if_neg hn]
theorem dec_encode (n : Int) (h0 : 0 ≤ n) (h1 : n ≤ 1114111) (h2 : ¬ (55296 ≤ n ∧ n ≤ 57343)) : mU.dec mU.init (Utf8.encode n).data.toList = [n] := by
  show decU .zero (Utf8.encode n).data.toList = [n]
  have hv : Utf8.valid n = true := by simp [Utf8.valid]; omega
  obtain ⟨c, rfl⟩ := Int.eq_ofNat_of_zero_le h0
  unfold Utf8.encode
  simp only [hv, if_true, Int.toNat_natCast]
  by_cases a1 : c < 128
  · rw [if_pos a1]
    have e := nb_of c (by omega)
    show decU .zero [UInt8.ofNat c] = _
    rw [decU_once _ (offU_one _ (by omega)), decU_nil, e]; rfl
  rw [if_neg a1]
  by_cases a2 : c < 2048
  · rw [if_pos a2]
    have e0 := nb_of (192 + c / 64) (by omega)
    have e1 := nb_of (128 + c % 64) (by omega)
    show decU .zero [UInt8.ofNat (192 + c / 64), UInt8.ofNat (128 + c % 64)] = _
    rw [decU_once _ (offU_two _ (by omega) (by omega)), decU_once _ (offU_last _ _ (by omega) (by omega)), decU_nil, e0, e1]
    simp only [U.fin, List.nil_append, List.append_nil, List.cons.injEq, and_true]
    omega
  rw [if_neg a2]
  by_cases a3 : c < 65536
  · rw [if_pos a3]
    have e0 := nb_of (224 + c / 4096) (by omega)
    have e1 := nb_of (128 + c / 64 % 64) (by omega)
    have e2 := nb_of (128 + c % 64) (by omega)
    show decU .zero [UInt8.ofNat (224 + c / 4096), UInt8.ofNat (128 + c / 64 % 64), UInt8.ofNat (128 + c % 64)] = _
    rw [decU_once _ (offU_three _ (by omega) (by omega)), decU_once _ (offU_more _ _ _ (by omega) (by unfold loU; rw [e0, e1]; split <;> (try split) <;> omega) (by unfold hiU; rw [e0, e1]; split <;> (try split) <;> omega)),
      show (2 : Int) - 1 = 1 from rfl, decU_once _ (offU_last _ _ (by omega) (by omega)), decU_nil, e0, e1, e2]
    simp only [U.fin, List.nil_append, List.append_nil, List.cons.injEq, and_true]
    omega
  rw [if_neg a3]
  have e0 := nb_of (240 + c / 262144) (by omega)
  have e1 := nb_of (128 + c / 4096 % 64) (by omega)
  have e2 := nb_of (128 + c / 64 % 64) (by omega)
  have e3 := nb_of (128 + c % 64) (by omega)
  show decU .zero [UInt8.ofNat (240 + c / 262144), UInt8.ofNat (128 + c / 4096 % 64), UInt8.ofNat (128 + c / 64 % 64), UInt8.ofNat (128 + c % 64)] = _
  rw [decU_once _ (offU_four _ (by omega) (by omega)), decU_once _ (offU_more _ _ _ (by omega) (by unfold loU; rw [e0, e1]; split <;> (try split) <;> omega) (by unfold hiU; rw [e0, e1]; split <;> (try split) <;> omega)),
    show (3 : Int) - 1 = 2 from rfl, decU_once _ (offU_more _ _ _ (by omega) (by unfold loU; rw [e0, e1, e2]; split <;> (try split) <;> omega) (by unfold hiU; rw [e0, e1, e2]; split <;> (try split) <;> omega)),
    show (2 : Int) - 1 = 1 from rfl, decU_once _ (offU_last _ _ (by omega) (by omega)), decU_nil, e0, e1, e2, e3]
  simp only [U.fin, List.nil_append, List.append_nil, List.cons.injEq, and_true]
  omega

/- pairs of bytes -/
theorem lo_unit (x y : UInt8) (r : List UInt8) (u : Int) (hu : nb y * 256 + nb x = u) (h1 : leadsB u = false) (h2 : trailsB u = false) : decL (0, none) (x :: y :: r) = u :: decL (0, none) r := by
  have a : loOffer (0, none) x = ((0, some x), [], false) := rfl
  have b : loOffer (0, some x) y = ((0, none), [u], false) := by
    simp [loOffer, unitO, hu, h1, h2]
  rw [decL_once _ a, decL_once _ b]; rfl
theorem lo_pair (x y z t : UInt8) (r : List UInt8) (u v : Int) (hu : nb y * 256 + nb x = u) (hv : nb t * 256 + nb z = v) (h1 : leadsB u = true) (h2 : trailsB v = true) (h0 : u ≠ 0) : decL (0, none) (x :: y :: z :: t :: r) = (65536 + (u % 1024) * 1024 + v % 1024) :: decL (0, none) r := by
  have a : loOffer (0, none) x = ((0, some x), [], false) := rfl
  have b : loOffer (0, some x) y = ((u, none), [], false) := by
    simp [loOffer, unitO, hu, h1]
  have c : loOffer (u, none) z = ((u, some z), [], false) := rfl
  have d : loOffer (u, some z) t = ((0, none), [65536 + (u % 1024) * 1024 + v % 1024], false) := by
    simp [loOffer, unitO, hv, h2, h0]
  rw [decL_once _ a, decL_once _ b, decL_once _ c, decL_once _ d]; rfl
theorem hi_unit (x y : UInt8) (r : List UInt8) (u : Int) (hu : nb y * 256 + nb x = u) (h1 : leadsB u = false) (h2 : trailsB u = false) : decH (.unit 0) (y :: x :: r) = u :: decH (.unit 0) r := by
  have ht : trB y = false := by
    have := nb_lt x; have := nb_nonneg x
    unfold trailsB at h2; unfold trB
    simp at h2 ⊢; omega
  have a : H.offer (.unit 0) y = (.mid 0 y, [], false) := by
    simp [H.offer, ht]
  have b : H.offer (.mid 0 y) x = (.unit 0, [u], false) := by
    simp [H.offer, unitO, hu, h1, h2]
  rw [decH_once _ a, decH_once _ b]; rfl
theorem hi_pair (x y z t : UInt8) (r : List UInt8) (u v : Int) (hu : nb y * 256 + nb x = u) (hv : nb t * 256 + nb z = v) (h1 : leadsB u = true) (h2 : trailsB v = true) (h0 : u ≠ 0) : decH (.unit 0) (y :: x :: t :: z :: r) = (65536 + (u % 1024) * 1024 + v % 1024) :: decH (.unit 0) r := by
  have hy : trB y = false := by
    have := nb_lt x; have := nb_nonneg x
    unfold leadsB at h1; unfold trB
    simp at h1 ⊢; omega
  have ht : trB t = true := by
    have := nb_lt z; have := nb_nonneg z
    unfold trailsB at h2; unfold trB
    simp at h2 ⊢; omega
  have a : H.offer (.unit 0) y = (.mid 0 y, [], false) := by
    simp [H.offer, hy]
  have b : H.offer (.mid 0 y) x = (.unit u, [], false) := by
    simp [H.offer, unitO, hu, h1]
  have c : H.offer (.unit u) t = (.mid u t, [], false) := by
    simp [H.offer, ht, h0]
  have d : H.offer (.mid u t) z = (.unit 0, [65536 + (u % 1024) * 1024 + v % 1024], false) := by
    simp [H.offer, unitO, hv, h0]
  rw [decH_once _ a, decH_once _ b, decH_once _ c, decH_once _ d]; rfl
end Go.Proofs.YtmdnpgcnbpppfaaGreatDoor

/- Whole's and Feed's errors. -/
namespace Go.Proofs.YtmdnpgcnbpppfaaGreatDoor
open Go.RowKit
attribute [local go_sem ↓] run_eqS run_neS
attribute [local go_sem] byte_at0 byte_at20 byte_at21 w64 S.v and63 and31 and15 and7 kw kw256

set_option maxRecDepth 100000 in
set_option maxHeartbeats 400000 in
theorem feedS_kind (e : Int) (t s : ByteArray) (w : World) (he : ¬ (1 ≤ e ∧ e ≤ 6)) : Calls Tryz.prog 44 #[.int .i64 e, (.agg #[.int .i64 0, .int .i64 0, .int .i64 0, .int .i64 0, .string t, .int .i64 0, .int .i64 0]), .string s] w (PSOE w ⟨0, 0, 0, 0, t, 0, 0⟩ [] 2) := by
  have H := hid (fun w1 => isEnc_no e w1 he)
  clear he
  go_enter Tryz.func44, Tryz.ntmps44
  go_wp2_with fail
  refine (H.out _).mono ?_
  rintro r w1 ⟨rfl, rfl⟩
  go_wp2_with fail
  refine bodyPost_ret ?_ rfl ⟨_, rfl, Out.nil _ _, ?_⟩
  · simp [results, Tryz.results44, go_sem, S.v]
  · exact (by repeat (first | exact Below.refl _ _ | assumption | (refine Below.alloc ?_ (by first | (simp; done) | (simp; omega)) _) | (refine Below.setCell ?_ (by first | (simp; done) | (simp; omega)) _) | (refine Below.drew ?_)))
set_option maxRecDepth 100000 in
set_option maxHeartbeats 400000 in
theorem feedS_long (e : Int) (t s : ByteArray) (w : World) (h1 : 1 ≤ e) (h2 : e ≤ 6) (hd : decide ((4000 : Int) < (s.size : Int)) = true) : Calls Tryz.prog 44 #[.int .i64 e, (.agg #[.int .i64 0, .int .i64 0, .int .i64 0, .int .i64 0, .string t, .int .i64 0, .int .i64 0]), .string s] w (PSOE w ⟨0, 0, 0, 0, t, 0, 0⟩ [] 4) := by
  go_enter Tryz.func44, Tryz.ntmps44
  go_wp2_with fail
  refine (isEnc_yes _ _ h1 h2).mono ?_
  rintro r w' ⟨rfl, rfl⟩
  go_wp2_with fail
  refine bodyPost_ret ?_ rfl ⟨_, rfl, Out.nil _ _, ?_⟩
  · simp [results, Tryz.results44, go_sem, S.v]
  · exact (by repeat (first | exact Below.refl _ _ | assumption | (refine Below.alloc ?_ (by first | (simp; done) | (simp; omega)) _) | (refine Below.setCell ?_ (by first | (simp; done) | (simp; omega)) _) | (refine Below.drew ?_)))
set_option maxRecDepth 100000 in
set_option maxHeartbeats 400000 in
theorem whole_err (e n : Int) (s : ByteArray) (t : S) (w : World) (hn : (n != 0) = true) (H : Hid (∀ w1, Calls Tryz.prog 44 #[.int .i64 e, (.agg #[.int .i64 0, .int .i64 0, .int .i64 0, .int .i64 0, .string ⟨#[]⟩, .int .i64 0, .int .i64 0]), .string s] w1 (PSOE w1 t [] n))) : Calls Tryz.prog 26 #[.int .i64 e, .string s] w (POE w [] n) := by
  go_enter Tryz.func26, Tryz.ntmps26
  go_wp2_with fail
  refine (H.out _).mono ?_
  rintro r w1 ⟨v, rfl, ho, hb⟩
  go_wp2_with fail
  go_ret2
  exact ⟨_, rfl, Out.nil _ _, hb.alloc hb.size _⟩
end Go.Proofs.YtmdnpgcnbpppfaaGreatDoor
