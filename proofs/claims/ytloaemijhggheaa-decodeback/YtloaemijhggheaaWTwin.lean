/- The walks over Twin and Latin. -/
import Derived.Test.YtloaemijhggheaaBase
namespace Go.Proofs.Ytloaemijhggheaa
open Go.RowKit
attribute [local go_sem ↓] run_eqS run_neS
attribute [local go_sem] byte_at0 byte_at20 byte_at21 w64 S.v and63 and31 and15 and7 kw kw256

set_option maxRecDepth 100000 in
set_option maxHeartbeats 400000 in
theorem begins_yes (b : Int) (w : World) (h1 : 129 ≤ b) (h2 : b ≤ 159) :
    Calls Try.prog 78 #[.int .i64 b] w fun e w' => e = .returned (.bool true) ∧ w = w' := by
  go_enter Try.func78, Try.ntmps78
  go_wp2
  go_ret
  exact ⟨rfl, rfl⟩
set_option maxRecDepth 100000 in
set_option maxHeartbeats 400000 in
theorem begins_no (b : Int) (w : World) (h : ¬ (129 ≤ b ∧ b ≤ 159)) :
    Calls Try.prog 78 #[.int .i64 b] w fun e w' => e = .returned (.bool false) ∧ w = w' := by
  by_cases h1 : 129 ≤ b
  · have h2 : ¬ b ≤ 159 := fun h2 => h ⟨h1, h2⟩
    clear h
    go_enter Try.func78, Try.ntmps78
    go_wp2
    go_ret
    exact ⟨rfl, rfl⟩
  · clear h
    go_enter Try.func78, Try.ntmps78
    go_wp2
    go_ret
    exact ⟨rfl, rfl⟩

set_option maxRecDepth 100000 in
set_option maxHeartbeats 400000 in
theorem firstT_a (b : UInt8) (w : World) (h : nb b < 128) : Calls Try.prog 104 #[.int .i64 (nb b)] w (PSO w (twS none) [nb b]) := by
  unfold nb at *
  go_enter Try.func104, Try.ntmps104
  go_wp2_with fail
  refine bodyPost_ret ?_ rfl ⟨_, rfl, Out.one _ _ _ ?_, ?_⟩
  · simp [results, Try.results104, go_sem, S.v, twS, keptO]
  · simp
  · exact (by repeat (first | exact Below.refl _ _ | assumption | (refine Below.alloc ?_ (by first | (simp; done) | (simp; omega)) _) | (refine Below.setCell ?_ (by first | (simp; done) | (simp; omega)) _) | (refine Below.drew ?_)))
set_option maxRecDepth 100000 in
set_option maxHeartbeats 400000 in
theorem firstT_b (b : UInt8) (w : World) (h1 : 161 ≤ nb b) (h2 : nb b ≤ 223) : Calls Try.prog 104 #[.int .i64 (nb b)] w (PSO w (twS none) [65377 + nb b - 161]) := by
  unfold nb at *
  have h0 : ¬ (b.toNat : Int) < 128 := by omega
  go_enter Try.func104, Try.ntmps104
  go_wp2_with fail
  refine bodyPost_ret ?_ rfl ⟨_, rfl, Out.one _ _ _ ?_, ?_⟩
  · simp [results, Try.results104, go_sem, S.v, twS, keptO]
  · simp
  · exact (by repeat (first | exact Below.refl _ _ | assumption | (refine Below.alloc ?_ (by first | (simp; done) | (simp; omega)) _) | (refine Below.setCell ?_ (by first | (simp; done) | (simp; omega)) _) | (refine Below.drew ?_)))
set_option maxRecDepth 100000 in
set_option maxHeartbeats 400000 in
theorem firstT_c (b : UInt8) (w : World) (h1 : 129 ≤ nb b) (h2 : nb b ≤ 159) : Calls Try.prog 104 #[.int .i64 (nb b)] w (PSO w (twS (some b)) []) := by
  unfold nb at *
  have h0 : ¬ (b.toNat : Int) < 128 := by omega
  have h3 : ¬ 161 ≤ (b.toNat : Int) := by omega
  go_enter Try.func104, Try.ntmps104
  go_wp2_with fail
  refine (begins_yes _ _ h1 h2).mono ?_
  rintro e w' ⟨rfl, rfl⟩
  go_wp2_with fail
  refine (keep_any _ _).mono ?_
  rintro e w1 ⟨rfl, hb1⟩
  obtain ⟨hc, hf⟩ := bcell hb1
  go_wp2_with fail
  refine bodyPost_ret ?_ rfl ⟨_, rfl, Out.nil _ _, ?_⟩
  · simp [results, Try.results104, go_sem, S.v, twS, keptO, hc]
  · exact put7 (Below.trans ((Below.refl w.heap.size w).alloc (Nat.le_refl _) _) (hb1.mono (by simp))) (Nat.le_refl _) _ _ _ _ _ _ _
set_option maxRecDepth 100000 in
set_option maxHeartbeats 400000 in
theorem firstT_d (b : UInt8) (w : World) (h0 : ¬ nb b < 128) (h1 : ¬ (161 ≤ nb b ∧ nb b ≤ 223)) (h2 : ¬ (129 ≤ nb b ∧ nb b ≤ 159)) : Calls Try.prog 104 #[.int .i64 (nb b)] w (PSO w (twS none) [-1]) := by
  unfold nb at *
  have HB := begins_no _ (w := w.alloc (.cells #[.int .i64 0, .int .i64 0, .int .i64 0, .int .i64 0, .string ⟨#[]⟩, .int .i64 0, .int .i64 0] 30)) h2
  replace HB := hid HB
  clear h2
  obtain h3 | ⟨h3, h4⟩ : ¬ 161 ≤ (b.toNat : Int) ∨ (161 ≤ (b.toNat : Int) ∧ ¬ (b.toNat : Int) ≤ 223) := by omega
  all_goals
    clear h1
    go_enter Try.func104, Try.ntmps104
    go_wp2_with fail
    refine HB.out.mono ?_
    rintro e w' ⟨rfl, rfl⟩
    go_wp2_with fail
    refine (bad_any _).mono ?_
    rintro e w1 ⟨rfl, rfl⟩
    go_wp2_with fail
    refine bodyPost_ret ?_ rfl ⟨_, rfl, Out.one _ _ _ ?_, ?_⟩
    · simp [results, Try.results104, go_sem, S.v, twS, keptO]
    · simp
    · exact (by repeat (first | exact Below.refl _ _ | assumption | (refine Below.alloc ?_ (by first | (simp; done) | (simp; omega)) _) | (refine Below.setCell ?_ (by first | (simp; done) | (simp; omega)) _) | (refine Below.drew ?_)))
theorem firstT_any (b : UInt8) (w : World) : Calls Try.prog 104 #[.int .i64 (nb b)] w (PSO w (twS (firstT b).1) (firstT b).2) := by
  unfold firstT
  split
  · exact firstT_a b w ‹_›
  split
  · exact firstT_b b w (by omega) (by omega)
  split
  · exact firstT_c b w (by omega) (by omega)
  · exact firstT_d b w ‹_› ‹_› ‹_›

set_option maxRecDepth 100000 in
set_option maxHeartbeats 400000 in
theorem secondT_a (b c : UInt8) (w : World) (h1 : 64 ≤ nb c) (h2 : nb c ≤ 126) : Calls Try.prog 105 #[.int .i64 (nb b), .int .i64 (nb c)] w (POB w [19968 + 188 * (nb b - 129) + nb c - 64] false) := by
  have hb := nb_lt b
  have hb0 := nb_nonneg b
  unfold nb at *
  go_enter Try.func105, Try.ntmps105
  go_wp2_with fail
  go_ret2
  exact ⟨_, rfl, Out.one _ _ _ (Nat.le_refl _), (Below.refl _ _).alloc (Nat.le_refl _) _⟩
set_option maxRecDepth 100000 in
set_option maxHeartbeats 400000 in
theorem secondT_b (b c : UInt8) (w : World) (h1 : 128 ≤ nb c) (h2 : nb c ≤ 252) : Calls Try.prog 105 #[.int .i64 (nb b), .int .i64 (nb c)] w (POB w [19968 + 188 * (nb b - 129) + nb c - 65] false) := by
  have hb := nb_lt b
  have hb0 := nb_nonneg b
  unfold nb at *
  have h0 : ¬ (c.toNat : Int) ≤ 126 := by omega
  go_enter Try.func105, Try.ntmps105
  go_wp2_with fail
  go_ret2
  exact ⟨_, rfl, Out.one _ _ _ (Nat.le_refl _), (Below.refl _ _).alloc (Nat.le_refl _) _⟩
set_option maxRecDepth 100000 in
set_option maxHeartbeats 400000 in
theorem secondT_c (b c : UInt8) (w : World) (h1 : ¬ (64 ≤ nb c ∧ nb c ≤ 126)) (h2 : ¬ (128 ≤ nb c ∧ nb c ≤ 252)) : Calls Try.prog 105 #[.int .i64 (nb b), .int .i64 (nb c)] w (POB w [-1] (decide (nb c ≤ 127))) := by
  have hb := nb_lt b
  have hb0 := nb_nonneg b
  unfold nb at *
  obtain h3 | h3 | h3 : (c.toNat : Int) < 64 ∨ ((c.toNat : Int) = 127) ∨ 252 < (c.toNat : Int) := by omega
  · have hd : decide ((c.toNat : Int) ≤ 127) = true := by simp; omega
    clear h1 h2
    rw [hd]
    go_enter Try.func105, Try.ntmps105
    go_wp2_with fail
    refine (bad_any _).mono ?_
    rintro e w1 ⟨rfl, rfl⟩
    go_wp2_with fail
    go_ret2
    exact ⟨_, rfl, Out.one _ _ _ (Nat.le_refl _), (Below.refl _ _).alloc (Nat.le_refl _) _⟩
  · clear h1 h2
    rw [h3]
    clear h3
    go_enter Try.func105, Try.ntmps105
    go_wp2_with fail
    refine (bad_any _).mono ?_
    rintro e w1 ⟨rfl, rfl⟩
    go_wp2_with fail
    go_ret2
    exact ⟨_, rfl, Out.one _ _ _ (Nat.le_refl _), (Below.refl _ _).alloc (Nat.le_refl _) _⟩
  · have hd : decide ((c.toNat : Int) ≤ 127) = false := by simp; omega
    clear h1 h2
    rw [hd]
    go_enter Try.func105, Try.ntmps105
    go_wp2_with fail
    refine (bad_any _).mono ?_
    rintro e w1 ⟨rfl, rfl⟩
    go_wp2_with fail
    go_ret2
    exact ⟨_, rfl, Out.one _ _ _ (Nat.le_refl _), (Below.refl _ _).alloc (Nat.le_refl _) _⟩
theorem secondT_any (b c : UInt8) (w : World) : Calls Try.prog 105 #[.int .i64 (nb b), .int .i64 (nb c)] w (POB w (secondT b c).1 (secondT b c).2) := by
  unfold secondT
  split
  · exact secondT_a b c w (by omega) (by omega)
  split
  · exact secondT_b b c w (by omega) (by omega)
  · exact secondT_c b c w ‹_› ‹_›

set_option maxRecDepth 100000 in
set_option maxHeartbeats 400000 in
theorem offerT_none (b : UInt8) (w : World) : Calls Try.prog 94 #[(.agg #[.int .i64 0, .int .i64 0, .int .i64 0, .int .i64 0, .string ⟨#[]⟩, .int .i64 0, .int .i64 0]), .int .i64 (nb b)] w (PSOB w (twS (firstT b).1) (firstT b).2 false) := by
  have H := fun w1 => firstT_any b w1
  generalize (firstT b).2 = l at H ⊢
  generalize twS (firstT b).1 = s at H ⊢
  replace H := hid H
  unfold nb at *
  go_enter Try.func94, Try.ntmps94
  go_wp2_with fail
  refine (H.out _).mono ?_
  rintro e w1 ⟨v, rfl, ho, hb1⟩
  obtain ⟨hc, hf⟩ := bcell hb1
  have ho' := hid ho
  clear ho
  go_wp2_with fail
  refine bodyPost_ret (ret_SOB rfl rfl (((HasS.box2 hb1).put7 s).put7 s)) rfl ⟨v, rfl, ?_, ?_⟩
  · exact ((ho'.out.put7 (by simp) _ _ _ _ _ _ _).put7 (by simp) _ _ _ _ _ _ _).base (by simp; omega)
  · exact put7 (put7 (two_boxes hb1) (by omega) _ _ _ _ _ _ _) (by omega) _ _ _ _ _ _ _
set_option maxRecDepth 100000 in
set_option maxHeartbeats 400000 in
theorem offerT_some (k b : UInt8) (w : World) : Calls Try.prog 94 #[(.agg #[.int .i64 0, .int .i64 0, .int .i64 0, .int .i64 0, .string ⟨#[k]⟩, .int .i64 0, .int .i64 0]), .int .i64 (nb b)] w (PSOB w (twS none) (secondT k b).1 (secondT k b).2) := by
  have H := fun w1 => secondT_any k b w1
  generalize (secondT k b).1 = l at H ⊢
  generalize (secondT k b).2 = a at H ⊢
  replace H := hid H
  unfold nb at *
  go_enter Try.func94, Try.ntmps94
  go_wp2_with fail
  refine (H.out _).mono ?_
  rintro e w1 ⟨v, rfl, ho, hb1⟩
  obtain ⟨hc, hf⟩ := bcell hb1
  have ho' := hid ho
  clear ho
  go_wp2_with fail
  refine bodyPost_ret ?_ rfl ⟨v, rfl, ?_, ?_⟩
  · simp [results, Try.results94, go_sem, S.v, twS, keptO, hc]
  · exact (ho'.out.put7 (by simp) _ _ _ _ _ _ _).base (by simp; omega)
  · exact put7 (two_boxes hb1) (by omega) _ _ _ _ _ _ _
theorem offerT_any (q : Option UInt8) (b : UInt8) (w : World) : Calls Try.prog 94 #[(.agg #[.int .i64 ((twS q).need), .int .i64 ((twS q).code), .int .i64 ((twS q).lo), .int .i64 ((twS q).hi), .string ((twS q).kept), .int .i64 ((twS q).half), .int .i64 ((twS q).mode)]), .int .i64 (nb b)] w (PSOB w (twS (twOffer q b).1) (twOffer q b).2.1 (twOffer q b).2.2) := by
  cases q with
  | none => simpa only [twS, keptO, twOffer] using offerT_none b w
  | some k => simpa only [twS, keptO, twOffer] using offerT_some k b w
set_option maxRecDepth 100000 in
set_option maxHeartbeats 400000 in
theorem latin_a (b : UInt8) (w : World) (h : nb b < 128 ∨ 160 ≤ nb b) : Calls Try.prog 97 #[.int .i64 (nb b)] w (PO w [nb b]) := by
  unfold nb at *
  obtain h' | ⟨h1, h2⟩ : (b.toNat : Int) < 128 ∨ (¬ (b.toNat : Int) < 128 ∧ 160 ≤ (b.toNat : Int)) := by omega
  all_goals
    clear h
    go_enter Try.func97, Try.ntmps97
    go_wp2_with fail
    go_ret
    exact ⟨_, rfl, Out.one _ _ _ (Nat.le_refl _), (Below.refl _ _).alloc (Nat.le_refl _) _⟩
set_option maxRecDepth 100000 in
set_option maxHeartbeats 400000 in
theorem latin_b (b : UInt8) (w : World) (h : nb b = 129 ∨ nb b = 141 ∨ nb b = 143 ∨ nb b = 144 ∨ nb b = 157) : Calls Try.prog 97 #[.int .i64 (nb b)] w (PO w [-1]) := by
  generalize nb b = n at *
  rcases h with rfl | rfl | rfl | rfl | rfl
  all_goals
    go_enter Try.func97, Try.ntmps97
    go_wp2_with fail
    refine (bad_any _).mono ?_
    rintro e w1 ⟨rfl, rfl⟩
    go_wp2_with fail
    go_ret
    exact ⟨_, rfl, Out.one _ _ _ (Nat.le_refl _), (Below.refl _ _).alloc (Nat.le_refl _) _⟩
set_option maxRecDepth 100000 in
set_option maxHeartbeats 400000 in
theorem latin_c (b : UInt8) (w : World) (h : ¬ (nb b < 128 ∨ 160 ≤ nb b)) (h' : ¬ (nb b = 129 ∨ nb b = 141 ∨ nb b = 143 ∨ nb b = 144 ∨ nb b = 157)) : Calls Try.prog 97 #[.int .i64 (nb b)] w (PO w [8192 + nb b]) := by
  generalize nb b = n at *
  have h1 : 128 ≤ n := by omega
  have h2 : n < 160 := by omega
  have a1 : (n == 129) = false := by simp; omega
  have a2 : (n == 141) = false := by simp; omega
  have a3 : (n == 143) = false := by simp; omega
  have a4 : (n == 144) = false := by simp; omega
  have a5 : (n == 157) = false := by simp; omega
  clear h h'
  go_enter Try.func97, Try.ntmps97
  go_wp2_with fail
  go_ret
  exact ⟨_, rfl, Out.one _ _ _ (Nat.le_refl _), (Below.refl _ _).alloc (Nat.le_refl _) _⟩
theorem latin_any (b : UInt8) (w : World) : Calls Try.prog 97 #[.int .i64 (nb b)] w (PO w (latinL b)) := by
  unfold latinL
  split
  · exact latin_a b w ‹_›
  split
  · exact latin_b b w ‹_›
  · exact latin_c b w ‹_› ‹_›
end Go.Proofs.Ytloaemijhggheaa
