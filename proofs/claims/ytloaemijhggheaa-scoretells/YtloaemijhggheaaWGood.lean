/- Good: which states are taken. -/
import Derived.Test.YtloaemijhggheaaQG
import Derived.Deep.QuietTactic
import Derived.BigQuiet
namespace Go.Proofs.Ytloaemijhggheaa
open Go.RowKit
attribute [local go_sem ↓] run_eqS run_neS
attribute [local go_sem] byte_at0 byte_at20 byte_at21 w64 S.v and63 and31 and15 and7 kw kw256

/-- A call answers whether something holds. -/
def GoodIs (w : World) (p : Prop) (e : Ending) (w' : World) : Prop := ∃ g : Bool, e = .returned (.bool g) ∧ (g = true ↔ p) ∧ Below w.heap.size w w'
theorem GoodIs.yes {w w' : World} {p : Prop} {e : Ending} (h : GoodIs w p e w') (hp : p) : e = .returned (.bool true) ∧ Below w.heap.size w w' := by
  obtain ⟨g, rfl, hg, hb⟩ := h
  rw [hg.2 hp]; exact ⟨rfl, hb⟩
theorem GoodIs.no {w w' : World} {p : Prop} {e : Ending} (h : GoodIs w p e w') (hp : ¬ p) : e = .returned (.bool false) ∧ Below w.heap.size w w' := by
  obtain ⟨g, rfl, hg, hb⟩ := h
  have : g = false := by cases g with | false => rfl | true => exact (hp (hg.1 rfl)).elim
  rw [this]; exact ⟨rfl, hb⟩

theorem bdrewN {B : Nat} {a w : World} (h : Below B a w) (n : Nat) : Below B a (w.drewN n) := ⟨h.os, h.tape, h.output, h.size, h.block⟩
/-- Which codes may be there when n bytes lack. -/
def reachB (n c : Int) : Bool := if n = 1 then decide (2 ≤ c) && (decide (c ≤ 17407) && !(c / 32 == 27)) else if n = 2 then decide (0 ≤ c) && decide (c ≤ 271) else if n = 3 then decide (0 ≤ c) && decide (c ≤ 4) else false
set_option maxRecDepth 100000 in
set_option maxHeartbeats 400000 in
theorem reach_1a (c : Int) (h : c < 2) (w : World) : Calls Try.prog 75 #[.int .i64 1, .int .i64 c] w fun e w' => e = .returned (.bool false) ∧ w = w' := by
  go_enter Try.func75, Try.ntmps75
  go_wp2_with fail
  go_ret
  exact ⟨rfl, rfl⟩
set_option maxRecDepth 100000 in
set_option maxHeartbeats 400000 in
theorem reach_1b (c : Int) (h : 2 ≤ c) (h2 : 17407 < c) (w : World) : Calls Try.prog 75 #[.int .i64 1, .int .i64 c] w fun e w' => e = .returned (.bool false) ∧ w = w' := by
  go_enter Try.func75, Try.ntmps75
  go_wp2_with fail
  go_ret
  exact ⟨rfl, rfl⟩
set_option maxRecDepth 100000 in
set_option maxHeartbeats 400000 in
theorem reach_1c (c : Int) (h : 2 ≤ c) (h2 : c ≤ 17407) (w : World) : Calls Try.prog 75 #[.int .i64 1, .int .i64 c] w fun e w' => e = .returned (.bool (!(c / 32 == 27))) ∧ w = w' := by
  go_enter Try.func75, Try.ntmps75
  go_wp2_with fail
  go_ret
  exact ⟨rfl, rfl⟩
set_option maxRecDepth 100000 in
set_option maxHeartbeats 400000 in
theorem reach_2a (c : Int) (h : c < 0) (w : World) : Calls Try.prog 75 #[.int .i64 2, .int .i64 c] w fun e w' => e = .returned (.bool false) ∧ w = w' := by
  go_enter Try.func75, Try.ntmps75
  go_wp2_with fail
  go_ret
  exact ⟨rfl, rfl⟩
set_option maxRecDepth 100000 in
set_option maxHeartbeats 400000 in
theorem reach_2b (c : Int) (h : 0 ≤ c) (h2 : 271 < c) (w : World) : Calls Try.prog 75 #[.int .i64 2, .int .i64 c] w fun e w' => e = .returned (.bool false) ∧ w = w' := by
  have d : decide (c ≤ 271) = false := by simp; omega
  go_enter Try.func75, Try.ntmps75
  go_wp2_with fail
  go_ret
  exact ⟨rfl, rfl⟩
set_option maxRecDepth 100000 in
set_option maxHeartbeats 400000 in
theorem reach_2c (c : Int) (h : 0 ≤ c) (h2 : c ≤ 271) (w : World) : Calls Try.prog 75 #[.int .i64 2, .int .i64 c] w fun e w' => e = .returned (.bool true) ∧ w = w' := by
  have d : decide (c ≤ 271) = true := by simp; omega
  go_enter Try.func75, Try.ntmps75
  go_wp2_with fail
  go_ret
  exact ⟨rfl, rfl⟩
set_option maxRecDepth 100000 in
set_option maxHeartbeats 400000 in
theorem reach_3a (c : Int) (h : c < 0) (w : World) : Calls Try.prog 75 #[.int .i64 3, .int .i64 c] w fun e w' => e = .returned (.bool false) ∧ w = w' := by
  go_enter Try.func75, Try.ntmps75
  go_wp2_with fail
  go_ret
  exact ⟨rfl, rfl⟩
set_option maxRecDepth 100000 in
set_option maxHeartbeats 400000 in
theorem reach_3b (c : Int) (h : 0 ≤ c) (h2 : 4 < c) (w : World) : Calls Try.prog 75 #[.int .i64 3, .int .i64 c] w fun e w' => e = .returned (.bool false) ∧ w = w' := by
  have d : decide (c ≤ 4) = false := by simp; omega
  go_enter Try.func75, Try.ntmps75
  go_wp2_with fail
  go_ret
  exact ⟨rfl, rfl⟩
set_option maxRecDepth 100000 in
set_option maxHeartbeats 400000 in
theorem reach_3c (c : Int) (h : 0 ≤ c) (h2 : c ≤ 4) (w : World) : Calls Try.prog 75 #[.int .i64 3, .int .i64 c] w fun e w' => e = .returned (.bool true) ∧ w = w' := by
  have d : decide (c ≤ 4) = true := by simp; omega
  go_enter Try.func75, Try.ntmps75
  go_wp2_with fail
  go_ret
  exact ⟨rfl, rfl⟩
set_option maxRecDepth 100000 in
set_option maxHeartbeats 400000 in
theorem reach_n (n c : Int) (h1 : (n == 1) = false) (h2 : (n == 2) = false) (h3 : (n == 3) = false) (w : World) : Calls Try.prog 75 #[.int .i64 n, .int .i64 c] w fun e w' => e = .returned (.bool false) ∧ w = w' := by
  go_enter Try.func75, Try.ntmps75
  go_wp2_with fail
  go_ret
  exact ⟨rfl, rfl⟩
theorem reach_any (n c : Int) (w : World) : Calls Try.prog 75 #[.int .i64 n, .int .i64 c] w fun e w' => e = .returned (.bool (reachB n c)) ∧ w = w' := by
  by_cases h1 : n = 1
  · subst h1
    by_cases ha : c < 2
    · rw [show reachB 1 c = false from by simp [reachB]; omega]; exact reach_1a c ha w
    by_cases hb : 17407 < c
    · rw [show reachB 1 c = false from by simp [reachB]; omega]; exact reach_1b c (by omega) hb w
    · rw [show reachB 1 c = !(c / 32 == 27) from by
        have e1 : decide (2 ≤ c) = true := by simp; omega
        have e2 : decide (c ≤ 17407) = true := by simp; omega
        simp [reachB, e1, e2]]
      exact reach_1c c (by omega) (by omega) w
  by_cases h2 : n = 2
  · subst h2
    by_cases ha : c < 0
    · rw [show reachB 2 c = false from by simp [reachB]; omega]; exact reach_2a c ha w
    by_cases hb : 271 < c
    · rw [show reachB 2 c = false from by simp [reachB]; omega]; exact reach_2b c (by omega) hb w
    · rw [show reachB 2 c = true from by simp [reachB]; omega]; exact reach_2c c (by omega) (by omega) w
  by_cases h3 : n = 3
  · subst h3
    by_cases ha : c < 0
    · rw [show reachB 3 c = false from by simp [reachB]; omega]; exact reach_3a c ha w
    by_cases hb : 4 < c
    · rw [show reachB 3 c = false from by simp [reachB]; omega]; exact reach_3b c (by omega) hb w
    · rw [show reachB 3 c = true from by simp [reachB]; omega]; exact reach_3c c (by omega) (by omega) w
  · rw [show reachB n c = false from by simp [reachB, h1, h2, h3]]
    exact reach_n n c (by simp [h1]) (by simp [h2]) (by simp [h3]) w

set_option maxRecDepth 100000 in
set_option maxHeartbeats 400000 in
theorem goodU_zero (s : S) (w : World) (h : sEq s ⟨0, 0, 0, 0, ⟨#[]⟩, 0, 0⟩ = true) : Calls Try.prog 46 #[(.agg #[.int .i64 s.need, .int .i64 s.code, .int .i64 s.lo, .int .i64 s.hi, .string s.kept, .int .i64 s.half, .int .i64 s.mode])] w fun e w' => e = .returned (.bool true) ∧ Below w.heap.size w w' := by
  go_enter Try.func46, Try.ntmps46
  go_wp2_with fail
  go_ret
  exact ⟨rfl, (by repeat (first | exact Below.refl _ _ | assumption | (refine Below.alloc ?_ (by first | (simp; done) | (simp; omega)) _) | (refine Below.setCell ?_ (by first | (simp; done) | (simp; omega)) _) | (refine Below.drew ?_)))⟩
set_option maxRecDepth 100000 in
set_option maxHeartbeats 400000 in
theorem goodU_far (s : S) (w : World) (h : sEq s ⟨0, 0, 0, 0, ⟨#[]⟩, 0, 0⟩ = false) (h2 : reachB s.need s.code = false) : Calls Try.prog 46 #[(.agg #[.int .i64 s.need, .int .i64 s.code, .int .i64 s.lo, .int .i64 s.hi, .string s.kept, .int .i64 s.half, .int .i64 s.mode])] w fun e w' => e = .returned (.bool false) ∧ Below w.heap.size w w' := by
  have H : ∀ w1, Calls Try.prog 75 #[.int .i64 s.need, .int .i64 s.code] w1 fun e w' => e = .returned (.bool false) ∧ w' = w1 := fun w1 => (h2 ▸ reach_any s.need s.code w1).mono fun _ _ ⟨a, b⟩ => ⟨a, b.symm⟩
  replace H := hid H
  clear h2
  go_enter Try.func46, Try.ntmps46
  go_wp2_with fail
  go_quiet ((go_at_call 75; exact Calls.quiet_of_same (H.out _)))
  go_wp2_with fail
  go_ret
  exact ⟨rfl, bdrewN ((Below.refl _ _).alloc (Nat.le_refl _) _) _⟩
set_option maxRecDepth 100000 in
set_option maxHeartbeats 400000 in
theorem goodU_seq (s : S) (g : Bool) (w : World) (h : sEq s ⟨0, 0, 0, 0, ⟨#[]⟩, 0, 0⟩ = false) (h2 : reachB s.need s.code = true) (h3 : sEq s (seqS s.need s.code) = g) : Calls Try.prog 46 #[(.agg #[.int .i64 s.need, .int .i64 s.code, .int .i64 s.lo, .int .i64 s.hi, .string s.kept, .int .i64 s.half, .int .i64 s.mode])] w fun e w' => e = .returned (.bool g) ∧ Below w.heap.size w w' := by
  have H := fun w1 => reach_any s.need s.code w1
  rw [h2] at H
  replace H := hid H
  clear h2
  have H2 := hid (fun w1 => seq_any s.need s.code w1)
  generalize seqS s.need s.code = t at *
  go_enter Try.func46, Try.ntmps46
  go_wp2_with fail
  go_region_held3 (fun w' => w'.cell? ⟨w.heap.size, 0, none⟩ = some (.int .i64 s.need) ∧ w'.cell? ⟨w.heap.size, 1, none⟩ = some (.int .i64 s.code) ∧ w'.cell? ⟨w.heap.size, 2, none⟩ = some (.int .i64 s.lo) ∧ w'.cell? ⟨w.heap.size, 3, none⟩ = some (.int .i64 s.hi) ∧ w'.cell? ⟨w.heap.size, 4, none⟩ = some (.string s.kept) ∧ w'.cell? ⟨w.heap.size, 5, none⟩ = some (.int .i64 s.half) ∧ w'.cell? ⟨w.heap.size, 6, none⟩ = some (.int .i64 s.mode))
    (first | go_keep | (with_reducible exact k1))
    (first
      | (go_at_call 75; refine (H.out _).mono ?_; rintro e w1 ⟨rfl, rfl⟩)
      | (go_at_call 76; refine (H2.out _).mono ?_; rintro e w1 ⟨rfl, hb1⟩; have hb2 := undrew hb1; have k1 := ((HasS.new w s).below hb2 (by simp)).cells))
  go_wp2_with fail
  go_ret
  exact ⟨rfl, one_box hb2⟩
theorem goodU_any (s : S) (w : World) : Calls Try.prog 46 #[(.agg #[.int .i64 s.need, .int .i64 s.code, .int .i64 s.lo, .int .i64 s.hi, .string s.kept, .int .i64 s.half, .int .i64 s.mode])] w (GoodIs w (∃ q : U, q.ok ∧ q.toS = s)) := by
  cases h : sEq s ⟨0, 0, 0, 0, ⟨#[]⟩, 0, 0⟩ with
  | true => exact (goodU_zero s w h).mono fun e w' ⟨he, hb⟩ => ⟨true, he, ⟨fun _ => ⟨.zero, trivial, (sEq_eq h).symm⟩, fun _ => rfl⟩, hb⟩
  | false =>
    have hne : s ≠ .zero := fun e => by subst e; exact absurd (sEq_self _) (by rw [show sEq S.zero S.zero = false from h]; decide)
    have key : (∃ q : U, q.ok ∧ q.toS = s) → reachB s.need s.code = true ∧ sEq s (seqS s.need s.code) = true := by
      rintro ⟨q, hq, rfl⟩
      cases q with
      | zero => exact (hne rfl).elim
      | seq n c =>
        refine ⟨?_, sEq_self _⟩
        simp only [U.ok] at hq
        show reachB n c = true
        rcases hq with ⟨rfl, a, b, d⟩ | ⟨rfl, a, b⟩ | ⟨rfl, a, b⟩
        · simp [reachB, a, b, d]
        · simp [reachB, a, b]
        · simp [reachB, a, b]
    cases h2 : reachB s.need s.code with
    | false => exact (goodU_far s w h h2).mono fun e w' ⟨he, hb⟩ => ⟨false, he, ⟨(fun x => by cases x), fun x => by rw [h2] at key; cases (key x).1⟩, hb⟩
    | true =>
      refine (goodU_seq s _ w h h2 rfl).mono fun e w' ⟨he, hb⟩ => ⟨_, he, ⟨fun x => ⟨.seq s.need s.code, ?_, (sEq_eq x).symm⟩, fun x => (key x).2⟩, hb⟩
      simp only [U.ok]
      unfold reachB at h2
      by_cases h1 : s.need = 1
      · rw [if_pos h1] at h2
        simp at h2
        exact .inl ⟨h1, h2.1, h2.2.1, h2.2.2⟩
      rw [if_neg h1] at h2
      by_cases h1 : s.need = 2
      · rw [if_pos h1] at h2
        simp at h2
        exact .inr (.inl ⟨h1, h2.1, h2.2⟩)
      rw [if_neg h1] at h2
      by_cases h1 : s.need = 3
      · rw [if_pos h1] at h2
        simp at h2
        exact .inr (.inr ⟨h1, h2.1, h2.2⟩)
      rw [if_neg h1] at h2
      cases h2

set_option maxRecDepth 100000 in
set_option maxHeartbeats 400000 in
theorem goodT_off (s : S) (w : World) (h : sEq s ⟨0, 0, 0, 0, s.kept, 0, 0⟩ = false) : Calls Try.prog 48 #[(.agg #[.int .i64 s.need, .int .i64 s.code, .int .i64 s.lo, .int .i64 s.hi, .string s.kept, .int .i64 s.half, .int .i64 s.mode])] w fun e w' => e = .returned (.bool false) ∧ Below w.heap.size w w' := by
  go_enter Try.func48, Try.ntmps48
  go_wp2_with fail
  go_ret
  exact ⟨rfl, (by repeat (first | exact Below.refl _ _ | assumption | (refine Below.alloc ?_ (by first | (simp; done) | (simp; omega)) _) | (refine Below.setCell ?_ (by first | (simp; done) | (simp; omega)) _) | (refine Below.drew ?_)))⟩
set_option maxRecDepth 100000 in
set_option maxHeartbeats 400000 in
theorem goodT_none (w : World) : Calls Try.prog 48 #[(.agg #[.int .i64 0, .int .i64 0, .int .i64 0, .int .i64 0, .string ⟨#[]⟩, .int .i64 0, .int .i64 0])] w fun e w' => e = .returned (.bool true) ∧ Below w.heap.size w w' := by
  have h := sEq_self ⟨0, 0, 0, 0, ⟨#[]⟩, 0, 0⟩
  go_enter Try.func48, Try.ntmps48
  go_wp2_with fail
  go_ret
  exact ⟨rfl, (by repeat (first | exact Below.refl _ _ | assumption | (refine Below.alloc ?_ (by first | (simp; done) | (simp; omega)) _) | (refine Below.setCell ?_ (by first | (simp; done) | (simp; omega)) _) | (refine Below.drew ?_)))⟩
set_option maxRecDepth 100000 in
set_option maxHeartbeats 400000 in
theorem goodT_long (k : ByteArray) (w : World) (h0 : (k.toList == []) = false) (_h0' : ¬ k.toList = []) (h1 : ((k.size : Int) == 1) = false) : Calls Try.prog 48 #[(.agg #[.int .i64 0, .int .i64 0, .int .i64 0, .int .i64 0, .string k, .int .i64 0, .int .i64 0])] w fun e w' => e = .returned (.bool false) ∧ Below w.heap.size w w' := by
  have h := sEq_self ⟨0, 0, 0, 0, k, 0, 0⟩
  have h00 : k.toList.isEmpty = false := by cases hk : k.toList <;> simp_all
  go_enter Try.func48, Try.ntmps48
  go_wp2_with fail
  go_ret
  exact ⟨rfl, (by repeat (first | exact Below.refl _ _ | assumption | (refine Below.alloc ?_ (by first | (simp; done) | (simp; omega)) _) | (refine Below.setCell ?_ (by first | (simp; done) | (simp; omega)) _) | (refine Below.drew ?_)))⟩
set_option maxRecDepth 100000 in
set_option maxHeartbeats 400000 in
theorem goodT_one (k : UInt8) (g : Bool) (w : World) (H : Hid (∀ w1, Calls Try.prog 78 #[.int .i64 (k.toNat : Int)] w1 fun e w' => e = .returned (.bool g) ∧ w1 = w')) : Calls Try.prog 48 #[(.agg #[.int .i64 0, .int .i64 0, .int .i64 0, .int .i64 0, .string ⟨#[k]⟩, .int .i64 0, .int .i64 0])] w fun e w' => e = .returned (.bool g) ∧ Below w.heap.size w w' := by
  have h := sEq_self ⟨0, 0, 0, 0, ⟨#[k]⟩, 0, 0⟩
  go_enter Try.func48, Try.ntmps48
  go_wp2_with fail
  refine (H.out _).mono ?_
  rintro e w1 ⟨rfl, rfl⟩
  go_wp2_with fail
  go_ret
  exact ⟨rfl, (by repeat (first | exact Below.refl _ _ | assumption | (refine Below.alloc ?_ (by first | (simp; done) | (simp; omega)) _) | (refine Below.setCell ?_ (by first | (simp; done) | (simp; omega)) _) | (refine Below.drew ?_)))⟩
/-- A string is empty, one byte, or longer. -/
theorem kept_cases (k : ByteArray) : k = ⟨#[]⟩ ∨ (∃ b, k = ⟨#[b]⟩) ∨ (((k.toList == []) = false ∧ ¬ k.toList = []) ∧ ((k.size : Int) == 1) = false ∧ 1 < (k.size : Int)) := by
  obtain ⟨⟨l⟩⟩ := k
  have e : (⟨⟨l⟩⟩ : ByteArray).toList = l := by rw [ByteArray.toList_eq]
  have z : (⟨⟨l⟩⟩ : ByteArray).size = l.length := rfl
  rw [e, z]
  match l with
  | [] => exact .inl rfl
  | [b] => exact .inr (.inl ⟨b, rfl⟩)
  | a :: b :: r => exact .inr (.inr ⟨⟨rfl, by simp⟩, by simp; omega, by simp; omega⟩)
theorem goodT_any (s : S) (w : World) : Calls Try.prog 48 #[(.agg #[.int .i64 s.need, .int .i64 s.code, .int .i64 s.lo, .int .i64 s.hi, .string s.kept, .int .i64 s.half, .int .i64 s.mode])] w (GoodIs w (∃ q, twOk q ∧ twS q = s)) := by
  cases h : sEq s ⟨0, 0, 0, 0, s.kept, 0, 0⟩ with
  | false =>
    refine (goodT_off s w h).mono fun e w' ⟨he, hb⟩ => ⟨false, he, ⟨(fun x => by cases x), ?_⟩, hb⟩
    rintro ⟨q, _, rfl⟩
    exact absurd (sEq_self (twS q)) (by rw [show sEq (twS q) (twS q) = false from h]; decide)
  | true =>
    obtain ⟨a, b, c, d, k, f, g⟩ := s
    have e := sEq_eq h
    simp only [S.mk.injEq] at e
    obtain ⟨rfl, rfl, rfl, rfl, _, rfl, rfl⟩ := e
    rcases kept_cases k with rfl | ⟨b, rfl⟩ | ⟨⟨h0, h0'⟩, h1, h2⟩
    · exact (goodT_none w).mono fun e w' ⟨he, hb⟩ => ⟨true, he, ⟨fun _ => ⟨none, trivial, rfl⟩, fun _ => rfl⟩, hb⟩
    · by_cases hb : 129 ≤ nb b ∧ nb b ≤ 159
      · exact (goodT_one b true w (hid fun w1 => begins_yes _ w1 hb.1 hb.2)).mono fun e w' ⟨he, hb'⟩ => ⟨true, he, ⟨fun _ => ⟨some b, hb, rfl⟩, fun _ => rfl⟩, hb'⟩
      · refine (goodT_one b false w (hid fun w1 => begins_no _ w1 hb)).mono fun e w' ⟨he, hb'⟩ => ⟨false, he, ⟨(fun x => by cases x), ?_⟩, hb'⟩
        rintro ⟨q, hq, e⟩
        cases q with
        | none => simp [twS, keptO] at e
        | some c => simp [twS, keptO] at e; subst e; exact (hb hq).elim
    · refine (goodT_long k w h0 h0' h1).mono fun e w' ⟨he, hb⟩ => ⟨false, he, ⟨(fun x => by cases x), ?_⟩, hb⟩
      rintro ⟨q, hq, e⟩
      have ek : keptO q = k := congrArg S.kept e
      subst ek
      cases q with
      | none => exact absurd (by rw [ByteArray.toList_eq]; rfl) h0'
      | some c => simp [keptO, ByteArray.size] at h2
end Go.Proofs.Ytloaemijhggheaa
