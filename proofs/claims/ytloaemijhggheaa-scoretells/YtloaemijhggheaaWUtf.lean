/- The walks over Utf. -/
import Derived.Test.YtloaemijhggheaaBase
namespace Go.Proofs.Ytloaemijhggheaa
open Go.RowKit
attribute [local go_sem ↓] run_eqS run_neS
attribute [local go_sem] byte_at0 byte_at20 byte_at21 w64 S.v and63 and31 and15 and7 kw kw256

/-- A call hands back a state. -/
def PS (w : World) (s : S) (e : Ending) (w' : World) : Prop := e = .returned s.v ∧ Below w.heap.size w w'

set_option maxRecDepth 100000 in
set_option maxHeartbeats 400000 in
theorem seq_20 (w : World) : Calls Try.prog 76 #[.int .i64 2, .int .i64 0] w (PS w ⟨2, 0, 160, 191, ⟨#[]⟩, 0, 0⟩) := by
  go_enter Try.func76, Try.ntmps76
  go_wp2_with fail
  refine bodyPost_ret (ret_S rfl rfl ((HasS.new _ ⟨2, 0, 160, 191, ⟨#[]⟩, 0, 0⟩).alloc _)) rfl ⟨rfl, ?_⟩
  exact (by repeat (first | exact Below.refl _ _ | assumption | (refine Below.alloc ?_ (by first | (simp; done) | (simp; omega)) _) | (refine Below.setCell ?_ (by first | (simp; done) | (simp; omega)) _) | (refine Below.drew ?_)))
set_option maxRecDepth 100000 in
set_option maxHeartbeats 400000 in
theorem seq_213 (w : World) : Calls Try.prog 76 #[.int .i64 2, .int .i64 13] w (PS w ⟨2, 13, 128, 159, ⟨#[]⟩, 0, 0⟩) := by
  go_enter Try.func76, Try.ntmps76
  go_wp2_with fail
  refine bodyPost_ret (ret_S rfl rfl ((HasS.new _ ⟨2, 13, 128, 159, ⟨#[]⟩, 0, 0⟩).alloc _)) rfl ⟨rfl, ?_⟩
  exact (by repeat (first | exact Below.refl _ _ | assumption | (refine Below.alloc ?_ (by first | (simp; done) | (simp; omega)) _) | (refine Below.setCell ?_ (by first | (simp; done) | (simp; omega)) _) | (refine Below.drew ?_)))
set_option maxRecDepth 100000 in
set_option maxHeartbeats 400000 in
theorem seq_2 (c : Int) (a0 : (c == 0) = false) (a1 : (c == 13) = false) (w : World) : Calls Try.prog 76 #[.int .i64 2, .int .i64 c] w (PS w ⟨2, c, 128, 191, ⟨#[]⟩, 0, 0⟩) := by
  go_enter Try.func76, Try.ntmps76
  go_wp2_with fail
  refine bodyPost_ret (ret_S rfl rfl ((HasS.new _ ⟨2, c, 128, 191, ⟨#[]⟩, 0, 0⟩).alloc _)) rfl ⟨rfl, ?_⟩
  exact (by repeat (first | exact Below.refl _ _ | assumption | (refine Below.alloc ?_ (by first | (simp; done) | (simp; omega)) _) | (refine Below.setCell ?_ (by first | (simp; done) | (simp; omega)) _) | (refine Below.drew ?_)))
set_option maxRecDepth 100000 in
set_option maxHeartbeats 400000 in
theorem seq_30 (w : World) : Calls Try.prog 76 #[.int .i64 3, .int .i64 0] w (PS w ⟨3, 0, 144, 191, ⟨#[]⟩, 0, 0⟩) := by
  go_enter Try.func76, Try.ntmps76
  go_wp2_with fail
  refine bodyPost_ret (ret_S rfl rfl ((HasS.new _ ⟨3, 0, 144, 191, ⟨#[]⟩, 0, 0⟩).alloc _)) rfl ⟨rfl, ?_⟩
  exact (by repeat (first | exact Below.refl _ _ | assumption | (refine Below.alloc ?_ (by first | (simp; done) | (simp; omega)) _) | (refine Below.setCell ?_ (by first | (simp; done) | (simp; omega)) _) | (refine Below.drew ?_)))
set_option maxRecDepth 100000 in
set_option maxHeartbeats 400000 in
theorem seq_34 (w : World) : Calls Try.prog 76 #[.int .i64 3, .int .i64 4] w (PS w ⟨3, 4, 128, 143, ⟨#[]⟩, 0, 0⟩) := by
  go_enter Try.func76, Try.ntmps76
  go_wp2_with fail
  refine bodyPost_ret (ret_S rfl rfl ((HasS.new _ ⟨3, 4, 128, 143, ⟨#[]⟩, 0, 0⟩).alloc _)) rfl ⟨rfl, ?_⟩
  exact (by repeat (first | exact Below.refl _ _ | assumption | (refine Below.alloc ?_ (by first | (simp; done) | (simp; omega)) _) | (refine Below.setCell ?_ (by first | (simp; done) | (simp; omega)) _) | (refine Below.drew ?_)))
set_option maxRecDepth 100000 in
set_option maxHeartbeats 400000 in
theorem seq_3 (c : Int) (a0 : (c == 0) = false) (a1 : (c == 4) = false) (w : World) : Calls Try.prog 76 #[.int .i64 3, .int .i64 c] w (PS w ⟨3, c, 128, 191, ⟨#[]⟩, 0, 0⟩) := by
  go_enter Try.func76, Try.ntmps76
  go_wp2_with fail
  refine bodyPost_ret (ret_S rfl rfl ((HasS.new _ ⟨3, c, 128, 191, ⟨#[]⟩, 0, 0⟩).alloc _)) rfl ⟨rfl, ?_⟩
  exact (by repeat (first | exact Below.refl _ _ | assumption | (refine Below.alloc ?_ (by first | (simp; done) | (simp; omega)) _) | (refine Below.setCell ?_ (by first | (simp; done) | (simp; omega)) _) | (refine Below.drew ?_)))
set_option maxRecDepth 100000 in
set_option maxHeartbeats 400000 in
theorem seq_n (n c : Int) (a0 : (n == 2) = false) (a1 : (n == 3) = false) (w : World) : Calls Try.prog 76 #[.int .i64 n, .int .i64 c] w (PS w ⟨n, c, 128, 191, ⟨#[]⟩, 0, 0⟩) := by
  go_enter Try.func76, Try.ntmps76
  go_wp2_with fail
  refine bodyPost_ret (ret_S rfl rfl ((HasS.new _ ⟨n, c, 128, 191, ⟨#[]⟩, 0, 0⟩).alloc _)) rfl ⟨rfl, ?_⟩
  exact (by repeat (first | exact Below.refl _ _ | assumption | (refine Below.alloc ?_ (by first | (simp; done) | (simp; omega)) _) | (refine Below.setCell ?_ (by first | (simp; done) | (simp; omega)) _) | (refine Below.drew ?_)))
theorem seq_any (n c : Int) (w : World) : Calls Try.prog 76 #[.int .i64 n, .int .i64 c] w (PS w (seqS n c)) := by
  unfold seqS loU hiU
  by_cases h2 : n = 2
  · subst h2
    by_cases h0 : c = 0
    · subst h0; exact seq_20 w
    · by_cases h13 : c = 13
      · subst h13; exact seq_213 w
      · rw [if_neg (by omega), if_neg (by omega), if_neg (by omega), if_neg (by omega)]
        exact seq_2 c (by simp [h0]) (by simp [h13]) w
  · by_cases h3 : n = 3
    · subst h3
      by_cases h0 : c = 0
      · subst h0; exact seq_30 w
      · by_cases h4 : c = 4
        · subst h4; exact seq_34 w
        · rw [if_neg (by omega), if_neg (by omega), if_neg (by omega), if_neg (by omega)]
          exact seq_3 c (by simp [h0]) (by simp [h4]) w
    · rw [if_neg (by omega), if_neg (by omega), if_neg (by omega), if_neg (by omega)]
      exact seq_n n c (by simp [h2]) (by simp [h3]) w

set_option maxRecDepth 100000 in
set_option maxHeartbeats 400000 in
theorem firstU_a (b : UInt8) (w : World) (h : nb b < 128) : Calls Try.prog 101 #[.int .i64 (nb b)] w (PSO w .zero [nb b]) := by
  unfold nb at *
  go_enter Try.func101, Try.ntmps101
  go_wp2_with fail
  refine bodyPost_ret ?_ rfl ⟨_, rfl, Out.one _ _ _ ?_, ?_⟩
  · simp [results, Try.results101, go_sem, S.v, S.zero]
  · simp
  · exact (by repeat (first | exact Below.refl _ _ | assumption | (refine Below.alloc ?_ (by first | (simp; done) | (simp; omega)) _) | (refine Below.setCell ?_ (by first | (simp; done) | (simp; omega)) _) | (refine Below.drew ?_)))
set_option maxRecDepth 100000 in
set_option maxHeartbeats 400000 in
theorem firstU_b (b : UInt8) (w : World) (h1 : 194 ≤ nb b) (h2 : nb b ≤ 223) : Calls Try.prog 101 #[.int .i64 (nb b)] w (PSO w (seqS 1 (nb b % 32)) []) := by
  have H := seq_any 1 (nb b % 32)
  unfold nb at *
  generalize seqS 1 ((b.toNat : Int) % 32) = s at H ⊢
  replace H := hid H
  have g : ¬ (b.toNat : Int) < 128 := by omega
  go_enter Try.func101, Try.ntmps101
  go_wp2_with fail
  refine (H.out _).mono ?_
  rintro e w1 ⟨rfl, hb1⟩
  obtain ⟨hc, hf⟩ := bcell hb1
  go_wp2_with fail
  refine bodyPost_ret ?_ rfl ⟨_, rfl, Out.nil _ _, ?_⟩
  · simp [results, Try.results101, go_sem, S.v, hc]
  · exact put7 (one_box hb1) (by omega) _ _ _ _ _ _ _
set_option maxRecDepth 100000 in
set_option maxHeartbeats 400000 in
theorem firstU_c (b : UInt8) (w : World) (h1 : 224 ≤ nb b) (h2 : nb b ≤ 239) : Calls Try.prog 101 #[.int .i64 (nb b)] w (PSO w (seqS 2 (nb b % 16)) []) := by
  have H := seq_any 2 (nb b % 16)
  unfold nb at *
  generalize seqS 2 ((b.toNat : Int) % 16) = s at H ⊢
  replace H := hid H
  have g : ¬ (b.toNat : Int) < 128 := by omega
  have g2 : ¬ (b.toNat : Int) ≤ 223 := by omega
  go_enter Try.func101, Try.ntmps101
  go_wp2_with fail
  refine (H.out _).mono ?_
  rintro e w1 ⟨rfl, hb1⟩
  obtain ⟨hc, hf⟩ := bcell hb1
  go_wp2_with fail
  refine bodyPost_ret ?_ rfl ⟨_, rfl, Out.nil _ _, ?_⟩
  · simp [results, Try.results101, go_sem, S.v, hc]
  · exact put7 (one_box hb1) (by omega) _ _ _ _ _ _ _
set_option maxRecDepth 100000 in
set_option maxHeartbeats 400000 in
theorem firstU_d (b : UInt8) (w : World) (h1 : 240 ≤ nb b) (h2 : nb b ≤ 244) : Calls Try.prog 101 #[.int .i64 (nb b)] w (PSO w (seqS 3 (nb b % 8)) []) := by
  have H := seq_any 3 (nb b % 8)
  unfold nb at *
  generalize seqS 3 ((b.toNat : Int) % 8) = s at H ⊢
  replace H := hid H
  have g : ¬ (b.toNat : Int) < 128 := by omega
  have g2 : ¬ (b.toNat : Int) ≤ 223 := by omega
  have g3 : ¬ (b.toNat : Int) ≤ 239 := by omega
  go_enter Try.func101, Try.ntmps101
  go_wp2_with fail
  refine (H.out _).mono ?_
  rintro e w1 ⟨rfl, hb1⟩
  obtain ⟨hc, hf⟩ := bcell hb1
  go_wp2_with fail
  refine bodyPost_ret ?_ rfl ⟨_, rfl, Out.nil _ _, ?_⟩
  · simp [results, Try.results101, go_sem, S.v, hc]
  · exact put7 (one_box hb1) (by omega) _ _ _ _ _ _ _
set_option maxRecDepth 100000 in
set_option maxHeartbeats 400000 in
theorem firstU_e (b : UInt8) (w : World) (h : (128 ≤ nb b ∧ nb b < 194) ∨ 244 < nb b) : Calls Try.prog 101 #[.int .i64 (nb b)] w (PSO w .zero [-1]) := by
  unfold nb at *
  rcases h with ⟨h1, h2⟩ | h
  all_goals
    go_enter Try.func101, Try.ntmps101
    go_wp2_with fail
    refine (bad_any _).mono ?_
    rintro e w1 ⟨rfl, rfl⟩
    go_wp2_with fail
    refine bodyPost_ret ?_ rfl ⟨_, rfl, Out.one _ _ _ ?_, ?_⟩
    · simp [results, Try.results101, go_sem, S.v, S.zero]
    · simp
    · exact (by repeat (first | exact Below.refl _ _ | assumption | (refine Below.alloc ?_ (by first | (simp; done) | (simp; omega)) _) | (refine Below.setCell ?_ (by first | (simp; done) | (simp; omega)) _) | (refine Below.drew ?_)))
theorem firstU_any (b : UInt8) (w : World) : Calls Try.prog 101 #[.int .i64 (nb b)] w (PSO w (firstU b).1.toS (firstU b).2) := by
  unfold firstU
  split
  · exact firstU_a b w ‹_›
  split
  · exact firstU_b b w (by omega) (by omega)
  split
  · exact firstU_c b w (by omega) (by omega)
  split
  · exact firstU_d b w (by omega) (by omega)
  · exact firstU_e b w (by omega)

set_option maxRecDepth 100000 in
set_option maxHeartbeats 400000 in
theorem offerU_zero (b : UInt8) (w : World) : Calls Try.prog 92 #[(.agg #[.int .i64 0, .int .i64 0, .int .i64 0, .int .i64 0, .string ⟨#[]⟩, .int .i64 0, .int .i64 0]), .int .i64 (nb b)] w (PSOB w (firstU b).1.toS (firstU b).2 false) := by
  have H := fun w1 => firstU_any b w1
  generalize (firstU b).2 = l at H ⊢
  generalize (firstU b).1.toS = s at H ⊢
  replace H := hid H
  unfold nb at *
  go_enter Try.func92, Try.ntmps92
  go_wp2_with fail
  refine (H.out _).mono ?_
  rintro e w1 ⟨v, rfl, ho, hb1⟩
  obtain ⟨hc, hf⟩ := bcell hb1
  replace ho := hid ho
  go_wp2_with fail
  refine bodyPost_ret (ret_SOB rfl rfl (((HasS.box2 hb1).put7 s).put7 s)) rfl ⟨v, rfl, ?_, ?_⟩
  · exact ((ho.out.put7 (by simp) _ _ _ _ _ _ _).put7 (by simp) _ _ _ _ _ _ _).base (by simp; omega)
  · exact put7 (put7 (two_boxes hb1) (by omega) _ _ _ _ _ _ _) (by omega) _ _ _ _ _ _ _
set_option maxRecDepth 100000 in
set_option maxHeartbeats 400000 in
theorem offerU_bad (n c lo hi : Int) (b : UInt8) (w : World) (hn : (n == 0) = false) (h : nb b < lo ∨ hi < nb b) : Calls Try.prog 92 #[(.agg #[.int .i64 n, .int .i64 c, .int .i64 lo, .int .i64 hi, .string ⟨#[]⟩, .int .i64 0, .int .i64 0]), .int .i64 (nb b)] w (PSOB w .zero [-1] true) := by
  unfold nb at *
  obtain h' | ⟨h1, h2⟩ : (b.toNat : Int) < lo ∨ (¬ (b.toNat : Int) < lo ∧ hi < (b.toNat : Int)) := by omega
  all_goals
    clear h
    go_enter Try.func92, Try.ntmps92
    go_wp2_with fail
    refine (bad_any _).mono ?_
    rintro e w1 ⟨rfl, rfl⟩
    go_wp2_with fail
    refine bodyPost_ret ?_ rfl ⟨_, rfl, Out.one _ _ _ ?_, ?_⟩
    · simp [results, Try.results92, go_sem, S.v, S.zero]
    · simp; omega
    · exact (by repeat (first | exact Below.refl _ _ | assumption | (refine Below.alloc ?_ (by first | (simp; done) | (simp; omega)) _) | (refine Below.setCell ?_ (by first | (simp; done) | (simp; omega)) _) | (refine Below.drew ?_)))
theorem joined (c : Int) (b : UInt8) (h0 : 0 ≤ c) (h1 : c ≤ 20000) : bits .or .i64 (c * 64) (nb b % 64) = c * 64 + nb b % 64 :=
  or_join 6 _ _ (by omega) (by simp) (by omega) (by omega) (by omega) (by omega)
set_option maxRecDepth 100000 in
set_option maxHeartbeats 400000 in
theorem offerU_last (c lo hi : Int) (b : UInt8) (w : World) (h1 : lo ≤ nb b) (h2 : nb b ≤ hi) (c0 : 0 ≤ c) (c1 : c ≤ 20000) : Calls Try.prog 92 #[(.agg #[.int .i64 1, .int .i64 c, .int .i64 lo, .int .i64 hi, .string ⟨#[]⟩, .int .i64 0, .int .i64 0]), .int .i64 (nb b)] w (PSOB w .zero [c * 64 + nb b % 64] false) := by
  have hj := joined c b c0 c1
  unfold nb at *
  go_enter Try.func92, Try.ntmps92
  go_wp2_with fail
  refine bodyPost_ret ?_ rfl ⟨_, rfl, Out.one _ _ _ ?_, ?_⟩
  · simp [results, Try.results92, go_sem, S.v, S.zero]
  · simp; omega
  · exact (by repeat (first | exact Below.refl _ _ | assumption | (refine Below.alloc ?_ (by first | (simp; done) | (simp; omega)) _) | (refine Below.setCell ?_ (by first | (simp; done) | (simp; omega)) _) | (refine Below.drew ?_)))
set_option maxRecDepth 100000 in
set_option maxHeartbeats 400000 in
theorem offerU_more (n c lo hi : Int) (b : UInt8) (w : World) (h1 : lo ≤ nb b) (h2 : nb b ≤ hi) (c0 : 0 ≤ c) (c1 : c ≤ 20000) (n1 : 2 ≤ n) (n2 : n ≤ 3) : Calls Try.prog 92 #[(.agg #[.int .i64 n, .int .i64 c, .int .i64 lo, .int .i64 hi, .string ⟨#[]⟩, .int .i64 0, .int .i64 0]), .int .i64 (nb b)] w (PSOB w (seqS (n - 1) (c * 64 + nb b % 64)) [] false) := by
  have hj := joined c b c0 c1
  have H := seq_any (n - 1) (c * 64 + nb b % 64)
  unfold nb at *
  have a0 : (n == 0) = false := by simp; omega
  have a1 : (n == 1) = false := by simp; omega
  generalize seqS (n - 1) (c * 64 + (b.toNat : Int) % 64) = s at H ⊢
  replace H := hid H
  go_enter Try.func92, Try.ntmps92
  go_wp2_with fail
  refine (H.out _).mono ?_
  rintro e w1 ⟨rfl, hb1⟩
  obtain ⟨hc, hf⟩ := bcell hb1
  go_wp2_with fail
  refine bodyPost_ret (ret_SOB rfl rfl (((HasS.box2 hb1).put7 s).put7 s)) rfl ⟨_, rfl, Out.nil _ _, ?_⟩
  · exact put7 (put7 (two_boxes hb1) (by omega) _ _ _ _ _ _ _) (by omega) _ _ _ _ _ _ _
theorem offerU_any (q : U) (b : UInt8) (w : World) (hq : q.ok) : Calls Try.prog 92 #[(.agg #[.int .i64 q.toS.need, .int .i64 q.toS.code, .int .i64 q.toS.lo, .int .i64 q.toS.hi, .string q.toS.kept, .int .i64 q.toS.half, .int .i64 q.toS.mode]), .int .i64 (nb b)] w (PSOB w (q.offer b).1.toS (q.offer b).2.1 (q.offer b).2.2) := by
  cases q with
  | zero => simpa only [U.toS, S.zero, U.offer] using offerU_zero b w
  | seq n c =>
    simp only [U.ok] at hq
    by_cases h1 : nb b < loU n c ∨ hiU n c < nb b
    · have e : U.offer (.seq n c) b = (.zero, [-1], true) := by simp only [U.offer]; rw [if_pos h1]
      rw [e]
      simpa only [U.toS, S.zero, seqS] using offerU_bad n c _ _ b w (by simp; omega) h1
    by_cases h2 : n = 1
    · subst h2
      have e : U.offer (.seq 1 c) b = (.zero, [c * 64 + nb b % 64], false) := by simp only [U.offer]; rw [if_neg h1, if_pos trivial]
      rw [e]
      simpa only [U.toS, S.zero, seqS] using offerU_last c (loU 1 c) (hiU 1 c) b w (by omega) (by omega) (by omega) (by omega)
    · have e : U.offer (.seq n c) b = (.seq (n - 1) (c * 64 + nb b % 64), [], false) := by simp only [U.offer]; rw [if_neg h1, if_neg h2]
      rw [e]
      simpa only [U.toS, S.zero, seqS] using offerU_more n c (loU n c) (hiU n c) b w (by omega) (by omega) (by omega) (by omega) (by omega) (by omega)
end Go.Proofs.Ytloaemijhggheaa
