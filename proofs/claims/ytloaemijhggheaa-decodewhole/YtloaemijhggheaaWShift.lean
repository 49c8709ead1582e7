/- The walks over Shift. -/
import Derived.Test.YtloaemijhggheaaApp
import Derived.Deep.RegionHeld3
import Derived.Deep.QuietTactic
import Derived.BigQuiet
import Derived.Deep.DeepCutAuto
namespace Go.Proofs.Ytloaemijhggheaa
open Go.RowKit
attribute [local go_sem ↓] run_eqS run_neS
attribute [local go_sem] byte_at0 byte_at20 byte_at21 w64 S.v and63 and31 and15 and7 kw kw256

set_option maxHeartbeats 400000 in
theorem isHalf_yes (b : Int) (w : World) (h1 : 33 ≤ b) (h2 : b ≤ 126) :
    Calls Try.prog 77 #[.int .i64 b] w fun e w' => e = .returned (.bool true) ∧ w = w' := by
  go_enter Try.func77, Try.ntmps77
  go_wp2
  go_ret
  exact ⟨rfl, rfl⟩
set_option maxHeartbeats 400000 in
theorem isHalf_no (b : Int) (w : World) (h : ¬ (33 ≤ b ∧ b ≤ 126)) :
    Calls Try.prog 77 #[.int .i64 b] w fun e w' => e = .returned (.bool false) ∧ w = w' := by
  by_cases h1 : 33 ≤ b
  · have h2 : ¬ b ≤ 126 := fun h2 => h ⟨h1, h2⟩
    clear h
    go_enter Try.func77, Try.ntmps77
    go_wp2
    go_ret
    exact ⟨rfl, rfl⟩
  · clear h
    go_enter Try.func77, Try.ntmps77
    go_wp2
    go_ret
    exact ⟨rfl, rfl⟩

set_option maxRecDepth 100000 in
set_option maxHeartbeats 400000 in
theorem firstD_nl (w : World) : Calls Try.prog 109 #[.int .i64 10] w (PSO w .zero [10]) := by
  go_enter Try.func109, Try.ntmps109
  go_wp2_with fail
  refine bodyPost_ret ?_ rfl ⟨_, rfl, Out.one _ _ _ ?_, ?_⟩
  · simp [results, Try.results109, go_sem, S.v, S.zero]
  · simp
  · exact (by repeat (first | exact Below.refl _ _ | assumption | (refine Below.alloc ?_ (by first | (simp; done) | (simp; omega)) _) | (refine Below.setCell ?_ (by first | (simp; done) | (simp; omega)) _) | (refine Below.drew ?_)))
set_option maxRecDepth 100000 in
set_option maxHeartbeats 400000 in
theorem firstD_half (b : UInt8) (w : World) (h1 : 33 ≤ nb b) (h2 : nb b ≤ 126) : Calls Try.prog 109 #[.int .i64 (nb b)] w (PSO w ⟨0, 0, 0, 0, ⟨#[b]⟩, 0, 1⟩ []) := by
  have H2 := keep_any b
  unfold nb at *
  replace H2 := hid H2
  have a0 : ((b.toNat : Int) == 10) = false := by simp; omega
  go_enter Try.func109, Try.ntmps109
  go_wp2_with fail
  refine (isHalf_yes _ _ h1 h2).mono ?_
  rintro e w' ⟨rfl, rfl⟩
  go_wp2_with fail
  refine (H2.out _).mono ?_
  rintro e w1 ⟨rfl, hb1⟩
  obtain ⟨hc, hf⟩ := bcell hb1
  go_wp2_with fail
  refine bodyPost_ret (ret_SO rfl rfl ((HasS.box1 hb1).put7 ⟨0, 0, 0, 0, ⟨#[b]⟩, 0, 1⟩)) rfl ⟨_, rfl, Out.nil _ _, ?_⟩
  exact put7 (one_box hb1) (by omega) _ _ _ _ _ _ _
set_option maxRecDepth 100000 in
set_option maxHeartbeats 400000 in
theorem firstD_bad (b : Int) (w : World) (h0 : (b == 10) = false) (h : ¬ (33 ≤ b ∧ b ≤ 126)) : Calls Try.prog 109 #[.int .i64 b] w (PSO w ⟨0, 0, 0, 0, ⟨#[]⟩, 0, 1⟩ [-1]) := by
  have H := fun w1 => isHalf_no b w1 h
  replace H := hid H
  clear h
  go_enter Try.func109, Try.ntmps109
  go_wp2_with fail
  refine (H.out _).mono ?_
  rintro e w' ⟨rfl, rfl⟩
  go_wp2_with fail
  refine (bad_any _).mono ?_
  rintro e w1 ⟨rfl, rfl⟩
  go_wp2_with fail
  refine bodyPost_ret ?_ rfl ⟨_, rfl, Out.one' _ _ (w.heap.size + 1) _ ?_ ?_, ?_⟩
  · simp [results, Try.results109, go_sem, S.v]
  · simp
  · omega
  · exact (by repeat (first | exact Below.refl _ _ | assumption | (refine Below.alloc ?_ (by first | (simp; done) | (simp; omega)) _) | (refine Below.setCell ?_ (by first | (simp; done) | (simp; omega)) _) | (refine Below.drew ?_)))
theorem firstD_any (b : UInt8) (w : World) : Calls Try.prog 109 #[.int .i64 (nb b)] w (PSO w (shS (firstD b).1) (firstD b).2) := by
  unfold firstD
  split
  · rename_i h
    rw [h]
    exact firstD_nl w
  split
  · exact firstD_half b w (by omega) (by omega)
  · exact firstD_bad (nb b) w (by simp; omega) ‹_›

set_option maxRecDepth 100000 in
set_option maxHeartbeats 400000 in
theorem firstSh_esc (m : Int) (w : World) : Calls Try.prog 99 #[.int .i64 m, .int .i64 27] w (PSO w ⟨0, 0, 0, 0, ⟨#[27]⟩, 0, m⟩ []) := by
  have H2 := keep_any 27
  simp only [show ((27 : UInt8).toNat : Int) = 27 from rfl] at H2
  replace H2 := hid H2
  go_enter Try.func99, Try.ntmps99
  go_wp2_with fail
  refine (H2.out _).mono ?_
  rintro e w1 ⟨rfl, hb1⟩
  obtain ⟨hc, hf⟩ := bcell hb1
  go_wp2_with fail
  refine bodyPost_ret (ret_SO rfl rfl ((HasS.box1 hb1).put7 ⟨0, 0, 0, 0, ⟨#[27]⟩, 0, m⟩)) rfl ⟨_, rfl, Out.nil _ _, ?_⟩
  exact put7 (one_box hb1) (by omega) _ _ _ _ _ _ _
set_option maxRecDepth 100000 in
set_option maxHeartbeats 400000 in
theorem firstSh_dbl (b : UInt8) (w : World) (h0 : (nb b == 27) = false) : Calls Try.prog 99 #[.int .i64 1, .int .i64 (nb b)] w (PSO w (shS (firstD b).1) (firstD b).2) := by
  have H := fun w1 => firstD_any b w1
  generalize (firstD b).2 = l at H ⊢
  generalize shS (firstD b).1 = s at H ⊢
  generalize nb b = x at *
  replace H := hid H
  go_enter Try.func99, Try.ntmps99
  go_wp2_with fail
  refine (H.out _).mono ?_
  rintro e w1 ⟨v, rfl, ho, hb1⟩
  obtain ⟨hc, hf⟩ := bcell hb1
  replace ho := hid ho
  go_wp2_with fail
  refine bodyPost_ret (ret_SO rfl rfl ((HasS.box1 hb1).put7 s)) rfl ⟨v, rfl, ?_, ?_⟩
  · exact (ho.out.put7 (by simp) _ _ _ _ _ _ _).base (by simp)
  · exact put7 (one_box hb1) (by omega) _ _ _ _ _ _ _
set_option maxRecDepth 100000 in
set_option maxHeartbeats 400000 in
theorem firstSh_bad (x : Int) (w : World) (h : x = 14 ∨ x = 15 ∨ 127 < x) : Calls Try.prog 99 #[.int .i64 0, .int .i64 x] w (PSO w .zero [-1]) := by
  rcases h with h | h | h
  · subst h
    go_enter Try.func99, Try.ntmps99
    go_wp2_with fail
    refine (bad_any _).mono ?_
    rintro e w1 ⟨rfl, rfl⟩
    go_wp2_with fail
    refine bodyPost_ret ?_ rfl ⟨_, rfl, Out.one' _ _ (w.heap.size + 1) _ ?_ ?_, ?_⟩
    · simp [results, Try.results99, go_sem, S.v, S.zero]
    · simp
    · omega
    · exact (by repeat (first | exact Below.refl _ _ | assumption | (refine Below.alloc ?_ (by first | (simp; done) | (simp; omega)) _) | (refine Below.setCell ?_ (by first | (simp; done) | (simp; omega)) _) | (refine Below.drew ?_)))
  · subst h
    go_enter Try.func99, Try.ntmps99
    go_wp2_with fail
    refine (bad_any _).mono ?_
    rintro e w1 ⟨rfl, rfl⟩
    go_wp2_with fail
    refine bodyPost_ret ?_ rfl ⟨_, rfl, Out.one' _ _ (w.heap.size + 1) _ ?_ ?_, ?_⟩
    · simp [results, Try.results99, go_sem, S.v, S.zero]
    · simp
    · omega
    · exact (by repeat (first | exact Below.refl _ _ | assumption | (refine Below.alloc ?_ (by first | (simp; done) | (simp; omega)) _) | (refine Below.setCell ?_ (by first | (simp; done) | (simp; omega)) _) | (refine Below.drew ?_)))
  · have a0 : (x == 27) = false := by simp; omega
    have a1 : (x == 14) = false := by simp; omega
    have a2 : (x == 15) = false := by simp; omega
    go_enter Try.func99, Try.ntmps99
    go_wp2_with fail
    refine (bad_any _).mono ?_
    rintro e w1 ⟨rfl, rfl⟩
    go_wp2_with fail
    refine bodyPost_ret ?_ rfl ⟨_, rfl, Out.one' _ _ (w.heap.size + 1) _ ?_ ?_, ?_⟩
    · simp [results, Try.results99, go_sem, S.v, S.zero]
    · simp
    · omega
    · exact (by repeat (first | exact Below.refl _ _ | assumption | (refine Below.alloc ?_ (by first | (simp; done) | (simp; omega)) _) | (refine Below.setCell ?_ (by first | (simp; done) | (simp; omega)) _) | (refine Below.drew ?_)))
set_option maxRecDepth 100000 in
set_option maxHeartbeats 400000 in
theorem firstSh_self (x : Int) (w : World) (a0 : (x == 27) = false) (a1 : (x == 14) = false) (a2 : (x == 15) = false) (h : x ≤ 127) : Calls Try.prog 99 #[.int .i64 0, .int .i64 x] w (PSO w .zero [x]) := by
  go_enter Try.func99, Try.ntmps99
  go_wp2_with fail
  refine bodyPost_ret ?_ rfl ⟨_, rfl, Out.one' _ _ (w.heap.size + 1) _ ?_ ?_, ?_⟩
  · simp [results, Try.results99, go_sem, S.v, S.zero]
  · simp
  · omega
  · exact (by repeat (first | exact Below.refl _ _ | assumption | (refine Below.alloc ?_ (by first | (simp; done) | (simp; omega)) _) | (refine Below.setCell ?_ (by first | (simp; done) | (simp; omega)) _) | (refine Below.drew ?_)))
theorem firstSh_any (d : Bool) (b : UInt8) (w : World) : Calls Try.prog 99 #[.int .i64 (modeI d), .int .i64 (nb b)] w (PSO w (shS (firstSh d b).1) (firstSh d b).2) := by
  unfold firstSh
  by_cases h : nb b = 27
  · simp only [if_pos h]
    rw [h]
    exact firstSh_esc (modeI d) w
  · simp only [if_neg h]
    cases d with
    | true => exact firstSh_dbl b w (by simp [h])
    | false =>
      simp only [Bool.false_eq_true, if_false]
      by_cases h2 : nb b = 14 ∨ nb b = 15 ∨ 127 < nb b
      · simp only [if_pos h2]
        exact firstSh_bad _ w h2
      · simp only [if_neg h2]
        exact firstSh_self _ w (by simp; omega) (by simp; omega) (by simp; omega) (by omega)

set_option maxRecDepth 100000 in
set_option maxHeartbeats 400000 in
theorem secondSh_a (b c : UInt8) (w : World) (h1 : 33 ≤ nb c) (h2 : nb c ≤ 126) : Calls Try.prog 103 #[.int .i64 (nb b), .int .i64 (nb c)] w (POB w [12288 + 94 * (nb b - 33) + nb c - 33] false) := by
  have hb := nb_lt b
  have hb0 := nb_nonneg b
  generalize nb b = x at *
  generalize nb c = y at *
  go_enter Try.func103, Try.ntmps103
  go_wp2_with fail
  refine (isHalf_yes _ _ h1 h2).mono ?_
  rintro e w' ⟨rfl, rfl⟩
  go_wp2_with fail
  go_ret2
  exact ⟨_, rfl, Out.one _ _ _ (Nat.le_refl _), (Below.refl _ _).alloc (Nat.le_refl _) _⟩
set_option maxRecDepth 100000 in
set_option maxHeartbeats 400000 in
theorem secondSh_b (x y : Int) (a : Bool) (w : World) (h : ¬ (33 ≤ y ∧ y ≤ 126)) (ha : (y == 27) = a) : Calls Try.prog 103 #[.int .i64 x, .int .i64 y] w (POB w [-1] a) := by
  have H := fun w1 => isHalf_no y w1 h
  replace H := hid H
  clear h
  go_enter Try.func103, Try.ntmps103
  go_wp2_with fail
  refine (H.out _).mono ?_
  rintro e w' ⟨rfl, rfl⟩
  go_wp2_with fail
  refine (bad_any _).mono ?_
  rintro e w1 ⟨rfl, rfl⟩
  go_wp2_with fail
  go_ret2
  exact ⟨_, rfl, Out.one _ _ _ (Nat.le_refl _), (Below.refl _ _).alloc (Nat.le_refl _) _⟩
theorem secondSh_any (b c : UInt8) (w : World) : Calls Try.prog 103 #[.int .i64 (nb b), .int .i64 (nb c)] w (POB w (secondSh b c).1 (secondSh b c).2) := by
  unfold secondSh
  split
  · exact secondSh_a b c w (by omega) (by omega)
  · exact secondSh_b _ _ _ w ‹_› (by by_cases h : nb c = 27 <;> simp [h])

set_option maxRecDepth 100000 in
set_option maxHeartbeats 400000 in
theorem drop_esc (m : Int) (w : World) : Calls Try.prog 89 #[(.agg #[.int .i64 0, .int .i64 0, .int .i64 0, .int .i64 0, .string ⟨#[27]⟩, .int .i64 0, .int .i64 m])] w (PSO w ⟨0, 0, 0, 0, ⟨#[]⟩, 0, m⟩ [-1]) := by
  go_enter Try.func89, Try.ntmps89
  go_wp2_with fail
  go_region_held3 (fun w' => w'.cell? ⟨w.heap.size, 6, none⟩ = some (.int .i64 m)) (first | go_keep)
    (first | (go_at_call 68; refine (bad_any _).mono ?_; rintro e w1 ⟨rfl, rfl⟩))
  go_wp2_with fail
  refine bodyPost_ret ?_ rfl ⟨_, rfl, Out.drew (Out.one' _ _ (w.heap.size + 1 + 1) _ ?_ ?_), ?_⟩
  · simp [results, Try.results89, go_sem, S.v]
  · simp
  · omega
  · exact (by repeat (first | exact Below.refl _ _ | assumption | (refine Below.alloc ?_ (by first | (simp; done) | (simp; omega)) _) | (refine Below.setCell ?_ (by first | (simp; done) | (simp; omega)) _) | (refine Below.drew ?_)))
/-- What lies there when a state and a list have been taken apart: the state's block, the result's block, the list. -/
def NextR (w : World) (s : S) (l : List Int) (s4 s5 : Value) (wx : World) : Prop :=
  ∃ g B : Nat, s4 = .pointer (some ⟨g, 0, none⟩) ∧ HasS wx g s ∧ HasS wx (w.heap.size + 1) .zero ∧ Out wx B s5 l ∧ Below w.heap.size w wx ∧ w.heap.size + 1 < g
set_option maxRecDepth 100000 in
set_option maxHeartbeats 1000000 in
theorem drop_two (m : Int) (c : UInt8) (s : S) (l : List Int) (w : World) (hl : l.length ≤ 10) (H : Hid (∀ w1, Calls Try.prog 99 #[.int .i64 m, .int .i64 (c.toNat : Int)] w1 (PSO w1 s l))) : Calls Try.prog 89 #[(.agg #[.int .i64 0, .int .i64 0, .int .i64 0, .int .i64 0, .string ⟨#[27, c]⟩, .int .i64 0, .int .i64 m])] w (PSO w s (-1 :: l)) := by
  go_enter Try.func89, Try.ntmps89
  go_upto_region 3 with fail
  go_cut [4, 5] (NextR w s l)
  case first =>
    go_region_held3 (fun w' => w'.cell? ⟨w.heap.size, 6, none⟩ = some (.int .i64 m) ∧ w'.cell? ⟨w.heap.size, 4, none⟩ = some (.string ⟨#[27, c]⟩)) (first | go_keep | (refine ⟨?_, ?_⟩ <;> (rw [hc w.heap.size _ (by simp; omega)]; simp [go_sem])) | (refine ⟨?_, ?_⟩ <;> (rw [far7 _ (w.heap.size + 1 + 1) w.heap.size _ (by omega), hc w.heap.size _ (by simp; omega)]; simp [go_sem])) | (refine ⟨?_, ?_⟩ <;> (rw [World.cell?_alloc_lt _ _ ⟨w.heap.size, _, none⟩ (by exact hz), hc w.heap.size _ (by simp; omega)]; simp [go_sem])))
      (first | (go_at_call 99; (try simp only [byte_at21, kw]); refine (H.out _).mono ?_; rintro e w1 ⟨v, rfl, ho, hb1⟩; obtain ⟨hc, hf⟩ := bcell hb1; replace ho := hid ho; have hz : w.heap.size < w1.heap.size := (by have := hb1.size; simp at this; omega)))
    · go_wp2_with fail
      go_meet
      exact ⟨_, _, rfl, HasS.new _ _, (HasS.box2 (undrew hb1)).alloc _, World.ownsRow.alloc ho.out _, (two_boxes (undrew hb1)).alloc (by omega) _, (by have := hb1.size; simp at this; omega)⟩
    all_goals
      go_wp2_with fail
      go_meet
      exact ⟨_, _, rfl, (HasS.box3 (undrew hb1)).put7 s, (HasS.box32 (undrew hb1)).far7 (by omega) _ _ _ _ _ _ _, (unOut ho.out).put7 (by simp) _ _ _ _ _ _ _, put7 (three_boxes (undrew hb1)) (by omega) _ _ _ _ _ _ _, (by omega)⟩
  case rest =>
    obtain ⟨g, B, rfl, hS, hR, ho, hb, hg⟩ := hcut
    have hbad : Out (wc.alloc (.cells #[.int .i64 (-1)] 3)).drew wc.heap.size (.slice (some ⟨wc.heap.size, 0, none⟩) 1 1) [-1] := (Out.one wc wc.heap.size (-1) (Nat.le_refl _)).drew
    have hout : Out (wc.alloc (.cells #[.int .i64 (-1)] 3)).drew B u5 l := Out.below ho (Below.drew (Below.alloc (Below.refl _ _) (Nat.le_refl _) _))
    have hS1 := (hS.alloc (.cells #[.int .i64 (-1)] 3)).drew
    have hR1 := (hR.alloc (.cells #[.int .i64 (-1)] 3)).drew
    have lS := hS.lt
    have lR := hR.lt
    go_wp2_with fail
    go_region_held3 (fun w' => w'.cell? ⟨g, 0, none⟩ = some (.int .i64 s.need) ∧ w'.cell? ⟨g, 1, none⟩ = some (.int .i64 s.code) ∧ w'.cell? ⟨g, 2, none⟩ = some (.int .i64 s.lo) ∧ w'.cell? ⟨g, 3, none⟩ = some (.int .i64 s.hi) ∧ w'.cell? ⟨g, 4, none⟩ = some (.string s.kept) ∧ w'.cell? ⟨g, 5, none⟩ = some (.int .i64 s.half) ∧ w'.cell? ⟨g, 6, none⟩ = some (.int .i64 s.mode))
      (first | (with_reducible exact hS.cells) | (with_reducible exact hS.drew.cells) | (with_reducible exact hS1.cells) | (with_reducible exact hS2.cells) | (with_reducible exact hS3.cells))
      (first
        | (go_at_call 68; refine (bad_any _).mono ?_; rintro e w1 ⟨rfl, rfl⟩)
        | (refine step_appO (v := .slice (some ⟨wc.heap.size, 0, none⟩) 1 1) (v2 := u5) (by rfl) (.tmp 25) (.tmp 26) (by rfl) (by rfl) (by rfl) hbad hout (by simp) (by simp; omega) ?_; intro v2 w2 ho2 hb2; have hS2 := hS1.below hb2 lS; have hS3 := hS2.far7 (blk := w.heap.size + 1) (by omega) (.int .i64 s.need) (.int .i64 s.code) (.int .i64 s.lo) (.int .i64 s.hi) (.string s.kept) (.int .i64 s.half) (.int .i64 s.mode); have hR2 := hR1.below hb2 lR; have hR3 := hR2; obtain ⟨r0, r1, r2, r3, r4, r5, r6, rz⟩ := hR3))
    go_wp2_with fail
    have hw := hb.size
    refine bodyPost_ret (ret_SO rfl rfl (hR2.put7 s)) rfl ⟨v2, rfl, ?_, ?_⟩
    · exact (ho2.put7 lR _ _ _ _ _ _ _).base hw
    · exact put7 (Below.trans (Below.drew (Below.alloc hb hw _)) (hb2.mono hw)) (by omega) _ _ _ _ _ _ _
theorem drop_any (d : Bool) (k : K) (w : World) (hk : k = .esc ∨ k = .par ∨ k = .dol) : Calls Try.prog 89 #[(.agg #[.int .i64 ((shS (d, k)).need), .int .i64 ((shS (d, k)).code), .int .i64 ((shS (d, k)).lo), .int .i64 ((shS (d, k)).hi), .string ((shS (d, k)).kept), .int .i64 ((shS (d, k)).half), .int .i64 ((shS (d, k)).mode)])] w (PSO w (shS (dropSh d k).1) (dropSh d k).2) := by
  rcases hk with rfl | rfl | rfl
  · simpa only [shS, K.kept, dropSh] using drop_esc (modeI d) w
  · have h : (firstSh d 40).2.length ≤ 10 := by cases d <;> decide
    simpa only [shS, K.kept, dropSh] using drop_two (modeI d) 40 _ _ w h (hid (fun w1 => firstSh_any d 40 w1))
  · have h : (firstSh d 36).2.length ≤ 10 := by cases d <;> decide
    simpa only [shS, K.kept, dropSh] using drop_two (modeI d) 36 _ _ w h (hid (fun w1 => firstSh_any d 36 w1))

/-- The two bytes after a conversion and a sum. -/
theorem cat2 (a b : UInt8) : (⟨#[a]⟩ : ByteArray) ++ ⟨#[b]⟩ = ⟨#[a, b]⟩ := rfl
theorem cat3 (a b c : UInt8) : (⟨#[a, b]⟩ : ByteArray) ++ ⟨#[c]⟩ = ⟨#[a, b, c]⟩ := rfl
attribute [local go_sem] cat2 cat3
set_option maxRecDepth 100000 in
set_option maxHeartbeats 400000 in
theorem esc_par (m : Int) (w : World) : Calls Try.prog 102 #[(.agg #[.int .i64 0, .int .i64 0, .int .i64 0, .int .i64 0, .string ⟨#[27]⟩, .int .i64 0, .int .i64 m]), .int .i64 40] w (PSOB w ⟨0, 0, 0, 0, ⟨#[27, 40]⟩, 0, m⟩ [] false) := by
  have H2 := keep_any 40
  simp only [show ((40 : UInt8).toNat : Int) = 40 from rfl] at H2
  replace H2 := hid H2
  go_enter Try.func102, Try.ntmps102
  go_wp2_with fail
  go_region_held3 (fun w' => w'.cell? ⟨w.heap.size, 4, none⟩ = some (.string ⟨#[27]⟩)) (first | go_keep | (rw [hc w.heap.size _ (by simp; omega)]; simp [go_sem]))
    (first | (go_at_call 106; refine (H2.out _).mono ?_; rintro e w1 ⟨rfl, hb1⟩; obtain ⟨hc, hf⟩ := bcell hb1))
  go_wp2_with fail
  have hR := HasS.box2 (undrew hb1)
  have h4 : w1.cell? ⟨w.heap.size, 4, none⟩ = some (.string ⟨#[27]⟩) := by rw [hc w.heap.size _ (by simp; omega)]; simp [go_sem]
  have h6 : w1.cell? ⟨w.heap.size, 6, none⟩ = some (.int .i64 m) := by rw [hc w.heap.size _ (by simp; omega)]; simp [go_sem]
  replace hb1 := two_boxes (undrew hb1)
  have lR := hR.lt
  clear hc hf
  go_region_held3 (fun w' => w'.cell? ⟨w.heap.size, 4, none⟩ = some (.string ⟨#[27]⟩) ∧ w'.cell? ⟨w.heap.size, 6, none⟩ = some (.int .i64 m))
    (first | go_keep | (with_reducible exact k1) | (with_reducible exact k2.out _ _ _ _ _ _ _))
    (first | (go_at_call 106; refine (H2.out _).mono ?_; rintro e w2 ⟨rfl, hb2⟩; replace hb2 := undrew hb2; obtain ⟨hc2, hf2⟩ := bcell hb2; have k1 := And.intro ((hc2 w.heap.size 4 (by omega)).trans h4) ((hc2 w.heap.size 6 (by omega)).trans h6); have k2 := fun u0 u1 u2 u3 u4 u5 u6 => And.intro ((far7 w2 (w.heap.size + 1) w.heap.size 4 (by omega) u0 u1 u2 u3 u4 u5 u6).trans k1.1) ((far7 w2 (w.heap.size + 1) w.heap.size 6 (by omega) u0 u1 u2 u3 u4 u5 u6).trans k1.2); replace k2 := hid k2; clear hc2 hf2; have hR2 := hR.below hb2 lR; have hR3 := hR2; obtain ⟨r0, r1, r2, r3, r4, r5, r6, rz⟩ := hR3))
  go_wp2_with fail
  refine bodyPost_ret (ret_SOB rfl rfl (hR2.put7 ⟨0, 0, 0, 0, ⟨#[27, 40]⟩, 0, m⟩)) rfl ⟨_, rfl, Out.nil _ _, ?_⟩
  exact put7 (Below.trans hb1 (hb2.mono hb1.size)) (by omega) _ _ _ _ _ _ _
set_option maxRecDepth 100000 in
set_option maxHeartbeats 400000 in
theorem esc_dol (m : Int) (w : World) : Calls Try.prog 102 #[(.agg #[.int .i64 0, .int .i64 0, .int .i64 0, .int .i64 0, .string ⟨#[27]⟩, .int .i64 0, .int .i64 m]), .int .i64 36] w (PSOB w ⟨0, 0, 0, 0, ⟨#[27, 36]⟩, 0, m⟩ [] false) := by
  have H2 := keep_any 36
  simp only [show ((36 : UInt8).toNat : Int) = 36 from rfl] at H2
  replace H2 := hid H2
  go_enter Try.func102, Try.ntmps102
  go_wp2_with fail
  go_region_held3 (fun w' => w'.cell? ⟨w.heap.size, 4, none⟩ = some (.string ⟨#[27]⟩)) (first | go_keep | (rw [hc w.heap.size _ (by simp; omega)]; simp [go_sem]))
    (first | (go_at_call 106; refine (H2.out _).mono ?_; rintro e w1 ⟨rfl, hb1⟩; obtain ⟨hc, hf⟩ := bcell hb1))
  go_wp2_with fail
  have hR := HasS.box2 (undrew hb1)
  have h4 : w1.cell? ⟨w.heap.size, 4, none⟩ = some (.string ⟨#[27]⟩) := by rw [hc w.heap.size _ (by simp; omega)]; simp [go_sem]
  have h6 : w1.cell? ⟨w.heap.size, 6, none⟩ = some (.int .i64 m) := by rw [hc w.heap.size _ (by simp; omega)]; simp [go_sem]
  replace hb1 := two_boxes (undrew hb1)
  have lR := hR.lt
  clear hc hf
  go_region_held3 (fun w' => w'.cell? ⟨w.heap.size, 4, none⟩ = some (.string ⟨#[27]⟩) ∧ w'.cell? ⟨w.heap.size, 6, none⟩ = some (.int .i64 m))
    (first | go_keep | (with_reducible exact k1) | (with_reducible exact k2.out _ _ _ _ _ _ _))
    (first | (go_at_call 106; refine (H2.out _).mono ?_; rintro e w2 ⟨rfl, hb2⟩; replace hb2 := undrew hb2; obtain ⟨hc2, hf2⟩ := bcell hb2; have k1 := And.intro ((hc2 w.heap.size 4 (by omega)).trans h4) ((hc2 w.heap.size 6 (by omega)).trans h6); have k2 := fun u0 u1 u2 u3 u4 u5 u6 => And.intro ((far7 w2 (w.heap.size + 1) w.heap.size 4 (by omega) u0 u1 u2 u3 u4 u5 u6).trans k1.1) ((far7 w2 (w.heap.size + 1) w.heap.size 6 (by omega) u0 u1 u2 u3 u4 u5 u6).trans k1.2); replace k2 := hid k2; clear hc2 hf2; have hR2 := hR.below hb2 lR; have hR3 := hR2; obtain ⟨r0, r1, r2, r3, r4, r5, r6, rz⟩ := hR3))
  go_wp2_with fail
  refine bodyPost_ret (ret_SOB rfl rfl (hR2.put7 ⟨0, 0, 0, 0, ⟨#[27, 36]⟩, 0, m⟩)) rfl ⟨_, rfl, Out.nil _ _, ?_⟩
  exact put7 (Below.trans hb1 (hb2.mono hb1.size)) (by omega) _ _ _ _ _ _ _
set_option maxRecDepth 100000 in
set_option maxHeartbeats 400000 in
theorem escB_par (m : Int) (w : World) : Calls Try.prog 102 #[(.agg #[.int .i64 0, .int .i64 0, .int .i64 0, .int .i64 0, .string ⟨#[27, 40]⟩, .int .i64 0, .int .i64 m]), .int .i64 66] w (PSOB w ⟨0, 0, 0, 0, ⟨#[]⟩, 0, 0⟩ [] false) := by
  have H2 := keep_any 66
  simp only [show ((66 : UInt8).toNat : Int) = 66 from rfl] at H2
  replace H2 := hid H2
  go_enter Try.func102, Try.ntmps102
  go_wp2_with fail
  go_region_held3 (fun w' => w'.cell? ⟨w.heap.size, 4, none⟩ = some (.string ⟨#[27, 40]⟩)) (first | go_keep | (rw [hc w.heap.size _ (by simp; omega)]; simp [go_sem]))
    (first | (go_at_call 106; refine (H2.out _).mono ?_; rintro e w1 ⟨rfl, hb1⟩; obtain ⟨hc, hf⟩ := bcell hb1))
  go_wp2_with fail
  refine bodyPost_ret (ret_SOB rfl rfl ((HasS.box2 (undrew hb1)).put7 ⟨0, 0, 0, 0, ⟨#[]⟩, 0, 0⟩)) rfl ⟨_, rfl, Out.nil _ _, ?_⟩
  exact put7 (two_boxes (undrew hb1)) (by omega) _ _ _ _ _ _ _
set_option maxRecDepth 100000 in
set_option maxHeartbeats 400000 in
theorem escB_dol (m : Int) (w : World) : Calls Try.prog 102 #[(.agg #[.int .i64 0, .int .i64 0, .int .i64 0, .int .i64 0, .string ⟨#[27, 36]⟩, .int .i64 0, .int .i64 m]), .int .i64 66] w (PSOB w ⟨0, 0, 0, 0, ⟨#[]⟩, 0, 1⟩ [] false) := by
  have H2 := keep_any 66
  simp only [show ((66 : UInt8).toNat : Int) = 66 from rfl] at H2
  replace H2 := hid H2
  go_enter Try.func102, Try.ntmps102
  go_wp2_with fail
  go_region_held3 (fun w' => w'.cell? ⟨w.heap.size, 4, none⟩ = some (.string ⟨#[27, 36]⟩)) (first | go_keep | (rw [hc w.heap.size _ (by simp; omega)]; simp [go_sem]))
    (first | (go_at_call 106; refine (H2.out _).mono ?_; rintro e w1 ⟨rfl, hb1⟩; obtain ⟨hc, hf⟩ := bcell hb1))
  go_wp2_with fail
  refine bodyPost_ret (ret_SOB rfl rfl ((HasS.box2 (undrew hb1)).put7 ⟨0, 0, 0, 0, ⟨#[]⟩, 0, 1⟩)) rfl ⟨_, rfl, Out.nil _ _, ?_⟩
  exact put7 (two_boxes (undrew hb1)) (by omega) _ _ _ _ _ _ _
set_option maxRecDepth 100000 in
set_option maxHeartbeats 400000 in
theorem escD_esc (m : Int) (b : UInt8) (s : S) (l : List Int) (w : World) (h1 : (b == 40) = false) (h2 : (b == 36) = false) (H : Hid (∀ w1, Calls Try.prog 89 #[(.agg #[.int .i64 0, .int .i64 0, .int .i64 0, .int .i64 0, .string ⟨#[27]⟩, .int .i64 0, .int .i64 m])] w1 (PSO w1 s l))) : Calls Try.prog 102 #[(.agg #[.int .i64 0, .int .i64 0, .int .i64 0, .int .i64 0, .string ⟨#[27]⟩, .int .i64 0, .int .i64 m]), .int .i64 (nb b)] w (PSOB w s l true) := by
  have H2 := keep_any b
  unfold nb
  replace H2 := hid H2
  go_enter Try.func102, Try.ntmps102
  go_wp2_with fail
  go_region_held3 (fun w' => w'.cell? ⟨w.heap.size, 4, none⟩ = some (.string ⟨#[27]⟩)) (first | go_keep | (rw [hc w.heap.size _ (by simp; omega)]; simp [go_sem]))
    (first | (go_at_call 106; refine (H2.out _).mono ?_; rintro e w1 ⟨rfl, hb1⟩; obtain ⟨hc, hf⟩ := bcell hb1))
  go_wp2_with fail
  have hR := HasS.box2 (undrew hb1)
  replace hb1 := two_boxes (undrew hb1)
  have lR := hR.lt
  clear hc hf
  refine (H.out _).mono ?_
  rintro e w2 ⟨v, rfl, ho, hb2⟩
  have hR2 := hR.below hb2 lR
  have hR3 := hR2
  obtain ⟨r0, r1, r2, r3, r4, r5, r6, rz⟩ := hR3
  replace ho := hid ho
  have lw := hb1.size
  go_wp2_with fail
  refine bodyPost_ret (ret_SOB rfl rfl ((hR2.put7 s).put7 s)) rfl ⟨v, rfl, ?_, ?_⟩
  · exact ((ho.out.put7 lR _ _ _ _ _ _ _).put7 lR _ _ _ _ _ _ _).base lw
  · exact put7 (put7 (Below.trans hb1 (hb2.mono lw)) (by omega) _ _ _ _ _ _ _) (by omega) _ _ _ _ _ _ _
set_option maxRecDepth 100000 in
set_option maxHeartbeats 400000 in
theorem escD_par (m : Int) (b : UInt8) (s : S) (l : List Int) (w : World) (h1 : (b == 66) = false) (H : Hid (∀ w1, Calls Try.prog 89 #[(.agg #[.int .i64 0, .int .i64 0, .int .i64 0, .int .i64 0, .string ⟨#[27, 40]⟩, .int .i64 0, .int .i64 m])] w1 (PSO w1 s l))) : Calls Try.prog 102 #[(.agg #[.int .i64 0, .int .i64 0, .int .i64 0, .int .i64 0, .string ⟨#[27, 40]⟩, .int .i64 0, .int .i64 m]), .int .i64 (nb b)] w (PSOB w s l true) := by
  have H2 := keep_any b
  unfold nb
  replace H2 := hid H2
  go_enter Try.func102, Try.ntmps102
  go_wp2_with fail
  go_region_held3 (fun w' => w'.cell? ⟨w.heap.size, 4, none⟩ = some (.string ⟨#[27, 40]⟩)) (first | go_keep | (rw [hc w.heap.size _ (by simp; omega)]; simp [go_sem]))
    (first | (go_at_call 106; refine (H2.out _).mono ?_; rintro e w1 ⟨rfl, hb1⟩; obtain ⟨hc, hf⟩ := bcell hb1))
  go_wp2_with fail
  have hR := HasS.box2 (undrew hb1)
  replace hb1 := two_boxes (undrew hb1)
  have lR := hR.lt
  clear hc hf
  refine (H.out _).mono ?_
  rintro e w2 ⟨v, rfl, ho, hb2⟩
  have hR2 := hR.below hb2 lR
  have hR3 := hR2
  obtain ⟨r0, r1, r2, r3, r4, r5, r6, rz⟩ := hR3
  replace ho := hid ho
  have lw := hb1.size
  go_wp2_with fail
  refine bodyPost_ret (ret_SOB rfl rfl ((hR2.put7 s).put7 s)) rfl ⟨v, rfl, ?_, ?_⟩
  · exact ((ho.out.put7 lR _ _ _ _ _ _ _).put7 lR _ _ _ _ _ _ _).base lw
  · exact put7 (put7 (Below.trans hb1 (hb2.mono lw)) (by omega) _ _ _ _ _ _ _) (by omega) _ _ _ _ _ _ _
set_option maxRecDepth 100000 in
set_option maxHeartbeats 400000 in
theorem escD_dol (m : Int) (b : UInt8) (s : S) (l : List Int) (w : World) (h1 : (b == 66) = false) (H : Hid (∀ w1, Calls Try.prog 89 #[(.agg #[.int .i64 0, .int .i64 0, .int .i64 0, .int .i64 0, .string ⟨#[27, 36]⟩, .int .i64 0, .int .i64 m])] w1 (PSO w1 s l))) : Calls Try.prog 102 #[(.agg #[.int .i64 0, .int .i64 0, .int .i64 0, .int .i64 0, .string ⟨#[27, 36]⟩, .int .i64 0, .int .i64 m]), .int .i64 (nb b)] w (PSOB w s l true) := by
  have H2 := keep_any b
  unfold nb
  replace H2 := hid H2
  go_enter Try.func102, Try.ntmps102
  go_wp2_with fail
  go_region_held3 (fun w' => w'.cell? ⟨w.heap.size, 4, none⟩ = some (.string ⟨#[27, 36]⟩)) (first | go_keep | (rw [hc w.heap.size _ (by simp; omega)]; simp [go_sem]))
    (first | (go_at_call 106; refine (H2.out _).mono ?_; rintro e w1 ⟨rfl, hb1⟩; obtain ⟨hc, hf⟩ := bcell hb1))
  go_wp2_with fail
  have hR := HasS.box2 (undrew hb1)
  replace hb1 := two_boxes (undrew hb1)
  have lR := hR.lt
  clear hc hf
  refine (H.out _).mono ?_
  rintro e w2 ⟨v, rfl, ho, hb2⟩
  have hR2 := hR.below hb2 lR
  have hR3 := hR2
  obtain ⟨r0, r1, r2, r3, r4, r5, r6, rz⟩ := hR3
  replace ho := hid ho
  have lw := hb1.size
  go_wp2_with fail
  refine bodyPost_ret (ret_SOB rfl rfl ((hR2.put7 s).put7 s)) rfl ⟨v, rfl, ?_, ?_⟩
  · exact ((ho.out.put7 lR _ _ _ _ _ _ _).put7 lR _ _ _ _ _ _ _).base lw
  · exact put7 (put7 (Below.trans hb1 (hb2.mono lw)) (by omega) _ _ _ _ _ _ _) (by omega) _ _ _ _ _ _ _
end Go.Proofs.Ytloaemijhggheaa
