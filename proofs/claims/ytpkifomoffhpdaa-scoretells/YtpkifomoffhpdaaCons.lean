/- Each encoding's machine keeps its law; what is known of each encoding. -/
import Derived.Test.YtpkifomoffhpdaaGen
namespace Go.Proofs.Ytpkifomoffhpdaa
open Go.RowKit

theorem ite_p {α : Type} {c : Prop} [Decidable c] {P : α → Prop} {a b : α} (h1 : c → P a) (h2 : ¬ c → P b) : P (if c then a else b) := by
  by_cases h : c
  · rw [if_pos h]; exact h1 h
  · rw [if_neg h]; exact h2 h
theorem firstU_ok (b : UInt8) : (firstU b).1.ok ∧ (firstU b).2.length ≤ 1 := by
  have h1 := nb_lt b; have h2 := nb_nonneg b
  unfold firstU
  refine ite_p (P := fun x : U × List Int => x.1.ok ∧ x.2.length ≤ 1) (fun _ => ⟨trivial, Nat.le_refl 1⟩) fun _ => ?_
  refine ite_p (P := fun x : U × List Int => x.1.ok ∧ x.2.length ≤ 1) (fun _ => ⟨Or.inl ⟨rfl, by omega, by omega, by omega⟩, Nat.zero_le 1⟩) fun _ => ?_
  refine ite_p (P := fun x : U × List Int => x.1.ok ∧ x.2.length ≤ 1) (fun _ => ⟨Or.inr (Or.inl ⟨rfl, by omega, by omega⟩), Nat.zero_le 1⟩) fun _ => ?_
  refine ite_p (P := fun x : U × List Int => x.1.ok ∧ x.2.length ≤ 1) (fun _ => ⟨Or.inr (Or.inr ⟨rfl, by omega, by omega⟩), Nat.zero_le 1⟩) fun _ => ?_
  exact ⟨trivial, Nat.le_refl 1⟩
theorem firstT_ok (b : UInt8) : twOk (firstT b).1 ∧ (firstT b).2.length ≤ 1 := by
  unfold firstT
  refine ite_p (P := fun x : Option UInt8 × List Int => twOk x.1 ∧ x.2.length ≤ 1) (fun _ => ⟨trivial, Nat.le_refl 1⟩) fun _ => ?_
  refine ite_p (P := fun x : Option UInt8 × List Int => twOk x.1 ∧ x.2.length ≤ 1) (fun _ => ⟨trivial, Nat.le_refl 1⟩) fun _ => ?_
  refine ite_p (P := fun x : Option UInt8 × List Int => twOk x.1 ∧ x.2.length ≤ 1) (fun h => ⟨h, Nat.zero_le 1⟩) fun _ => ?_
  exact ⟨trivial, Nat.le_refl 1⟩
theorem secondT_few (b c : UInt8) : (secondT b c).1.length ≤ 1 := by
  unfold secondT
  refine ite_p (P := fun x : List Int × Bool => x.1.length ≤ 1) (fun _ => Nat.le_refl 1) fun _ => ?_
  exact ite_p (P := fun x : List Int × Bool => x.1.length ≤ 1) (fun _ => Nat.le_refl 1) fun _ => Nat.le_refl 1
theorem latinL_few (b : UInt8) : (latinL b).length ≤ 1 := by
  unfold latinL
  refine ite_p (P := fun x : List Int => x.length ≤ 1) (fun _ => Nat.le_refl 1) fun _ => ?_
  exact ite_p (P := fun x : List Int => x.length ≤ 1) (fun _ => Nat.le_refl 1) fun _ => Nat.le_refl 1
theorem lawU : mU.Law where
  zero := rfl
  init := trivial
  step := fun q b hq => by
    have h1 := nb_lt b; have h2 := nb_nonneg b
    cases q with
    | zero =>
      have h := firstU_ok b
      simp only [mU, U.offer]
      generalize firstU b = x at h ⊢
      exact h.1
    | seq n c =>
      change U.ok (.seq n c) at hq
      show (U.offer (.seq n c) b).1.ok
      simp only [U.ok] at hq
      simp only [U.offer]
      by_cases h : nb b < loU n c ∨ hiU n c < nb b
      · rw [if_pos h]; trivial
      rw [if_neg h]
      by_cases hn : n = 1
      · rw [if_pos hn]; trivial
      rw [if_neg hn]
      simp only [U.ok]
      unfold loU hiU at h
      omega
  drop := fun q b hq h => by
    cases q with
    | zero => cases h
    | seq n c =>
      change (U.offer (.seq n c) b).2.2 = true at h
      show (U.offer (.seq n c) b).1.rank < 1
      simp only [U.offer] at h ⊢
      by_cases h1 : nb b < loU n c ∨ hiU n c < nb b
      · rw [if_pos h1]; decide
      · rw [if_neg h1] at h
        split at h <;> cases h
theorem lawT : mT.Law where
  zero := rfl
  init := trivial
  step := fun q b _ => by
    cases q with
    | none =>
      have h := firstT_ok b
      simp only [mT, twOffer]
      generalize firstT b = x at h ⊢
      exact h.1
    | some k => trivial
  drop := fun q b _ h => by
    cases q with
    | none => cases h
    | some k => show 0 < 1; decide
theorem lawLat : mLat.Law where
  zero := rfl
  init := trivial
  step := fun _ _ _ => trivial
  drop := fun _ _ _ h => by cases h
theorem firstSh_all (d : Bool) (b : UInt8) : shOk (firstSh d b).1 ∧ shRank (firstSh d b).1 ≤ 1 ∧ (firstSh d b).2.length ≤ 1 := by
  unfold firstSh firstD
  refine ite_p (P := fun x : (Bool × K) × List Int => shOk x.1 ∧ shRank x.1 ≤ 1 ∧ x.2.length ≤ 1) (fun _ => ⟨trivial, Nat.le_refl 1, Nat.zero_le 1⟩) fun _ => ?_
  refine ite_p (P := fun x : (Bool × K) × List Int => shOk x.1 ∧ shRank x.1 ≤ 1 ∧ x.2.length ≤ 1) (fun _ => ?_) fun _ => ?_
  · refine ite_p (P := fun x : (Bool × K) × List Int => shOk x.1 ∧ shRank x.1 ≤ 1 ∧ x.2.length ≤ 1) (fun _ => ⟨trivial, Nat.zero_le 1, Nat.le_refl 1⟩) fun _ => ?_
    exact ite_p (P := fun x : (Bool × K) × List Int => shOk x.1 ∧ shRank x.1 ≤ 1 ∧ x.2.length ≤ 1) (fun h => ⟨⟨rfl, h.1, h.2⟩, Nat.le_refl 1, Nat.zero_le 1⟩) fun _ => ⟨trivial, Nat.zero_le 1, Nat.le_refl 1⟩
  · exact ite_p (P := fun x : (Bool × K) × List Int => shOk x.1 ∧ shRank x.1 ≤ 1 ∧ x.2.length ≤ 1) (fun _ => ⟨trivial, Nat.zero_le 1, Nat.le_refl 1⟩) fun _ => ⟨trivial, Nat.zero_le 1, Nat.le_refl 1⟩
theorem firstSh_ok (d : Bool) (b : UInt8) : shOk (firstSh d b).1 := (firstSh_all d b).1
theorem firstSh_rank (d : Bool) (b : UInt8) : shRank (firstSh d b).1 ≤ 1 := (firstSh_all d b).2.1
theorem firstSh_few (d : Bool) (b : UInt8) : (firstSh d b).2.length ≤ 1 := (firstSh_all d b).2.2
theorem lawSh : mSh.Law where
  zero := rfl
  init := trivial
  step := fun q b hq => by
    obtain ⟨d, k⟩ := q
    show shOk (shOffer (d, k) b).1
    cases k with
    | none => exact firstSh_ok d b
    | esc => simp only [shOffer]; split <;> (try split) <;> trivial
    | par => simp only [shOffer]; split <;> first | trivial | exact firstSh_ok d 40
    | dol => simp only [shOffer]; split <;> first | trivial | exact firstSh_ok d 36
    | half c => trivial
  drop := fun q b hq h => by
    obtain ⟨d, k⟩ := q
    change (shOffer (d, k) b).2.2 = true at h
    show shRank (shOffer (d, k) b).1 < shRank (d, k)
    cases k with
    | none => cases h
    | esc =>
      simp only [shOffer] at h ⊢
      split at h
      · cases h
      split at h
      · cases h
      · rw [if_neg ‹_›, if_neg ‹_›]; exact Nat.zero_lt_one
    | par =>
      simp only [shOffer] at h ⊢
      split at h
      · cases h
      · rw [if_neg ‹_›]; exact Nat.lt_succ_of_le (firstSh_rank d 40)
    | dol =>
      simp only [shOffer] at h ⊢
      split at h
      · cases h
      · rw [if_neg ‹_›]; exact Nat.lt_succ_of_le (firstSh_rank d 36)
    | half c => show 0 < 1; decide
theorem unitO_ok (h u : Int) : halfOk (unitO h u).1 := by
  unfold unitO
  split
  · exact .inl rfl
  split
  · rename_i hl; exact .inr hl
  split
  · exact .inl rfl
  · exact .inl rfl
theorem lawLo : mLo.Law where
  zero := rfl
  init := .inl rfl
  step := fun q b hq => by
    obtain ⟨h, k⟩ := q
    show loOk (loOffer (h, k) b).1
    cases k with
    | none => exact hq
    | some k =>
      simp only [loOffer]
      split
      · exact .inl rfl
      · exact unitO_ok _ _
  drop := fun q b hq hh => by
    obtain ⟨h, k⟩ := q
    change (loOffer (h, k) b).2.2 = true at hh
    show loRank (loOffer (h, k) b).1 < loRank (h, k)
    cases k with
    | none => cases hh
    | some k =>
      simp only [loOffer] at hh ⊢
      split at hh
      · rename_i hx
        rw [if_pos hx]
        simp [loRank, hx.1]
      · cases hh
theorem lawHi : mHi.Law where
  zero := rfl
  init := .inl rfl
  step := fun q b hq => by
    show (H.offer q b).1.ok
    cases q with
    | unit h =>
      simp only [H.offer]
      split
      · exact ⟨hq, ‹_›⟩
      · trivial
    | mid h k => exact unitO_ok _ _
    | told k =>
      simp only [H.offer]
      split
      · exact .inl rfl
      · exact unitO_ok _ _
  drop := fun q b hq h => by
    change (H.offer q b).2.2 = true at h
    cases q with
    | unit h' => simp only [H.offer] at h; split at h <;> cases h
    | mid h' k => cases h
    | told k => simp only [H.offer] at h; split at h <;> cases h

theorem conU : Con 1 mU where
  law := lawU
  lo := by decide
  hi := by decide
  off := fun q b w hq => offer_1 _ _ b _ _ w (hid fun w1 => offerU_any q b w1 hq)
  fin := fun q w hq => by
    cases q with
    | zero => exact finish_zero 1 w
    | seq n c =>
      refine finish_bad 1 _ w (sEq_ne fun e => ?_) rfl rfl
      have := congrArg S.need e
      change U.ok (.seq n c) at hq
      simp only [U.ok] at hq
      change n = 0 at this
      omega
  few := fun q b _ => by
    cases q with
    | zero => simp only [mU, U.offer]; exact Nat.le_succ_of_le (firstU_ok b).2
    | seq n c => show (U.offer (.seq n c) b).2.1.length ≤ 2; simp only [U.offer]; split <;> (try split) <;> simp
  end_ := fun q => by
    cases q with
    | zero => exact Nat.zero_le _
    | seq n c => exact Nat.le_succ 1
  low := fun q => by
    cases q with
    | zero => exact Nat.zero_le _
    | seq n c => exact Nat.le_succ 1
theorem conT : Con 3 mT where
  law := lawT
  lo := by decide
  hi := by decide
  off := fun q b w hq => offer_3 _ _ b _ _ w (hid fun w1 => offerT_any q b w1)
  fin := fun q w hq => by
    cases q with
    | none => exact finish_zero 3 w
    | some k =>
      refine finish_bad 3 _ w (sEq_ne fun e => ?_) rfl rfl
      have := congrArg (fun s => s.kept.size) e
      simp [mT, twS, keptO, ByteArray.size] at this
  few := fun q b _ => by
    cases q with
    | none => simp only [mT, twOffer]; exact Nat.le_succ_of_le (firstT_ok b).2
    | some k => simp only [mT, twOffer]; exact Nat.le_succ_of_le (secondT_few k b)
  end_ := fun q => by
    cases q with
    | none => exact Nat.zero_le _
    | some k => exact Nat.le_succ 1
  low := fun q => by
    cases q with
    | none => exact Nat.zero_le _
    | some k => exact Nat.le_succ 1
theorem conLat : Con 4 mLat where
  law := lawLat
  lo := by decide
  hi := by decide
  off := fun q b w hq => by simp only [mLat]; exact offer_4 b _ w (hid fun w1 => latin_any b w1)
  fin := fun q w hq => finish_zero 4 w
  few := fun q b _ => by simp only [mLat]; exact Nat.le_succ_of_le (latinL_few b)
  end_ := fun q => Nat.zero_le _
  low := fun q => Nat.zero_le _
theorem conSh : Con 2 mSh where
  law := lawSh
  lo := by decide
  hi := by decide
  off := fun q b w hq => offer_2 _ _ b _ _ w (hid fun w1 => offerSh_any q b w1 hq)
  fin := fun q w hq => by
    by_cases h : sEq (shS q) ⟨0, 0, 0, 0, ⟨#[]⟩, 0, 0⟩ = true
    · have e := sEq_eq h
      have hz : shFin q = [] := by
        obtain ⟨d, k⟩ := q
        have := congrArg (fun s => s.kept.size) e
        cases k <;> simp [shS, K.kept, ByteArray.size] at this
        rfl
      show Calls _ _ #[_, (.agg #[.int .i64 ((shS q).need), .int .i64 ((shS q).code), .int .i64 ((shS q).lo), .int .i64 ((shS q).hi), .string ((shS q).kept), .int .i64 ((shS q).half), .int .i64 ((shS q).mode)])] _ (PO w (shFin q))
      rw [hz, e]
      exact finish_zero 2 w
    · exact finish_2 _ _ w (Bool.eq_false_iff.2 h) (hid fun w1 => finSh_any q w1 hq)
  few := fun q b _ => by
    obtain ⟨d, k⟩ := q
    show (shOffer (d, k) b).2.1.length ≤ 2
    have h1 := firstSh_few d b; have h2 := firstSh_few d 40; have h3 := firstSh_few d 36
    cases k with
    | none => simp only [shOffer]; omega
    | esc => simp only [shOffer]; split <;> (try split) <;> simp [dropSh]
    | par => simp only [shOffer]; split <;> simp [dropSh]; omega
    | dol => simp only [shOffer]; split <;> simp [dropSh]; omega
    | half c => simp only [shOffer]; unfold secondSh; split <;> simp
  end_ := fun q => by
    obtain ⟨d, k⟩ := q
    show (shFin (d, k)).length ≤ 2
    cases k <;> cases d <;> simp [shFin]
  low := fun q => by
    obtain ⟨d, k⟩ := q
    show shRank (d, k) ≤ 2
    cases k <;> simp [shRank]
theorem unitO_few (h u : Int) : (unitO h u).2.length ≤ 1 := by
  unfold unitO
  refine ite_p (P := fun x : Int × List Int => x.2.length ≤ 1) (fun _ => Nat.le_refl 1) fun _ => ?_
  refine ite_p (P := fun x : Int × List Int => x.2.length ≤ 1) (fun _ => Nat.zero_le 1) fun _ => ?_
  exact ite_p (P := fun x : Int × List Int => x.2.length ≤ 1) (fun _ => Nat.le_refl 1) fun _ => Nat.le_refl 1
theorem conLo : Con 5 mLo where
  law := lawLo
  lo := by decide
  hi := by decide
  off := fun q b w hq => offer_5 _ _ b _ _ w (hid fun w1 => offerLo_any q b w1 hq)
  fin := fun q w hq => by
    obtain ⟨h, k⟩ := q
    by_cases hz : h = 0 ∧ k = none
    · obtain ⟨rfl, rfl⟩ := hz
      exact finish_zero 5 w
    · have hf : loFin (h, k) = [-1] := by
        cases k with
        | none => simp [loFin]; intro e; exact hz ⟨e, rfl⟩
        | some k => rfl
      show Calls _ _ #[_, (.agg #[.int .i64 ((loS (h, k)).need), .int .i64 ((loS (h, k)).code), .int .i64 ((loS (h, k)).lo), .int .i64 ((loS (h, k)).hi), .string ((loS (h, k)).kept), .int .i64 ((loS (h, k)).half), .int .i64 ((loS (h, k)).mode)])] _ (PO w (loFin (h, k)))
      rw [hf]
      refine finish_bad 5 _ w (sEq_ne fun e => hz ⟨congrArg S.half e, ?_⟩) rfl rfl
      have := congrArg (fun s => s.kept.size) e
      cases k with
      | none => rfl
      | some k => simp [loS, keptO, ByteArray.size] at this
  few := fun q b _ => by
    obtain ⟨h, k⟩ := q
    show (loOffer (h, k) b).2.1.length ≤ 2
    cases k with
    | none => simp [loOffer]
    | some k => have := unitO_few h (nb b * 256 + nb k); simp only [loOffer]; split <;> simp; omega
  end_ := fun q => by
    obtain ⟨h, k⟩ := q
    show (loFin (h, k)).length ≤ 2
    cases k with
    | none => simp only [loFin]; split <;> simp
    | some k => simp [loFin]
  low := fun q => by
    obtain ⟨h, k⟩ := q
    show loRank (h, k) ≤ 2
    simp only [loRank]; split <;> omega
theorem conHi : Con 6 mHi where
  law := lawHi
  lo := by decide
  hi := by decide
  off := fun q b w hq => offer_6 _ _ b _ _ w (hid fun w1 => offerHi_any q b w1 hq)
  fin := fun q w hq => by
    cases q with
    | unit h =>
      by_cases hz : h = 0
      · subst hz; exact finish_zero 6 w
      · have hf : H.fin (.unit h) = [-1] := by simp [H.fin, hz]
        show Calls _ _ #[_, (.agg #[.int .i64 ((H.toS (.unit h)).need), .int .i64 ((H.toS (.unit h)).code), .int .i64 ((H.toS (.unit h)).lo), .int .i64 ((H.toS (.unit h)).hi), .string ((H.toS (.unit h)).kept), .int .i64 ((H.toS (.unit h)).half), .int .i64 ((H.toS (.unit h)).mode)])] _ (PO w (H.fin (.unit h)))
        rw [hf]
        exact finish_6 _ _ w (sEq_ne fun e => hz (congrArg S.half e)) (hid fun w1 => finishHi_bad _ _ w1)
    | mid h k =>
      refine finish_6 _ _ w (sEq_ne fun e => ?_) (hid fun w1 => finishHi_bad _ _ w1)
      have := congrArg (fun s => s.kept.size) e
      simp [mHi, H.toS, ByteArray.size] at this
    | told k =>
      refine finish_6 _ _ w (sEq_ne fun e => ?_) (hid fun w1 => finishHi_told _ w1)
      have := congrArg (fun s => s.kept.size) e
      simp [mHi, H.toS, ByteArray.size] at this
  few := fun q b _ => by
    show (H.offer q b).2.1.length ≤ 2
    cases q with
    | unit h => simp only [H.offer]; split <;> simp
    | mid h k => have := unitO_few h (nb k * 256 + nb b); simp only [H.offer]; omega
    | told k => have := unitO_few 0 (nb k * 256 + nb b); simp only [H.offer]; split <;> simp; omega
  end_ := fun q => by
    show (H.fin q).length ≤ 2
    cases q with
    | unit h => simp only [H.fin]; split <;> simp
    | mid h k => simp [H.fin]
    | told k => simp [H.fin]
  low := fun q => Nat.zero_le _
end Go.Proofs.Ytpkifomoffhpdaa
