/- 3 texts of this proof in one file: ScS3, ScB, ScA. -/
import Derived.Test.YtpkifomoffhpdaaScQ1
import Derived.Deep.QuietTactic
import Derived.BigQuiet
/- score.Step with a byte ahead. -/
namespace Go.Proofs.Ytpkifomoffhpdaa
open Go.RowKit

set_option maxRecDepth 100000 in
set_option maxHeartbeats 2000000 in
theorem scStep_next (f g st wt gg : Int → Int) (last b : Int) (w : World) (h0 : 0 ≤ last) (hg : ∀ e, g e + wt e = gg e) (hwr : ∀ e, IntKind.i64.wrap (gg e) = gg e) (HS : Hid (∀ e w1, Calls Try.prog 18 #[.int .i64 e, .int .i64 (f e), .int .i64 b] w1 (PI w1 (st e)))) (HW : Hid (∀ e w1, Calls Try.prog 24 #[.int .i64 e, .int .i64 last, .int .i64 b] w1 (PI w1 (wt e)))) : Calls Try.prog 45 #[(.agg #[.int .i64 0, .int .i64 0, .int .i64 (f 1), .int .i64 (g 1), .int .i64 (f 2), .int .i64 (g 2), .int .i64 (f 3), .int .i64 (g 3), .int .i64 (f 4), .int .i64 (g 4), .int .i64 (f 5), .int .i64 (g 5), .int .i64 (f 6), .int .i64 (g 6)]), .int .i64 last, .int .i64 b] w (PV w (.agg #[.int .i64 0, .int .i64 0, .int .i64 (st 1), .int .i64 (gg 1), .int .i64 (st 2), .int .i64 (gg 2), .int .i64 (st 3), .int .i64 (gg 3), .int .i64 (st 4), .int .i64 (gg 4), .int .i64 (st 5), .int .i64 (gg 5), .int .i64 (st 6), .int .i64 (gg 6)])) := by
  go_enter Try.func45, Try.ntmps45
  go_wp2_with fail
  refine (new_any _).mono ?_
  rintro r w1 ⟨rfl, hb⟩
  have hsz : w.heap.size + 1 < w1.heap.size := by have := hb.size; simp at this; omega
  have hL0 : HasL w1 w.heap.size (scL f g) := HasL.below ((HasL.new w _ _ (scL f g) rfl).alloc (by simp [scL]) _) hb (by simp; omega)
  have hL1 : HasL w1 (w.heap.size + 1) (scL (fun _ => 0) (fun _ => 0)) := by
    have := HasL.below (HasL.new (w.alloc (.cells #[.int .i64 0, .int .i64 0, .int .i64 (f 1), .int .i64 (g 1), .int .i64 (f 2), .int .i64 (g 2), .int .i64 (f 3), .int .i64 (g 3), .int .i64 (f 4), .int .i64 (g 4), .int .i64 (f 5), .int .i64 (g 5), .int .i64 (f 6), .int .i64 (g 6)] 46)) #[.int .i64 0, .int .i64 0, .int .i64 0, .int .i64 0, .int .i64 0, .int .i64 0, .int .i64 0, .int .i64 0, .int .i64 0, .int .i64 0, .int .i64 0, .int .i64 0, .int .i64 0, .int .i64 0] 46 (scL (fun _ => 0) (fun _ => 0)) rfl) hb (by simp)
    simpa using this
  have hB : Below w.heap.size w w1 := two_boxes hb
  have hR : StepR f g st gg w w1.heap.size (.int .i64 1) (w1.alloc (.cells #[.int .i64 0, .int .i64 0, .int .i64 0, .int .i64 0, .int .i64 0, .int .i64 0, .int .i64 0, .int .i64 0, .int .i64 0, .int .i64 0, .int .i64 0, .int .i64 0, .int .i64 0, .int .i64 0] 46)) :=
    ⟨1, by omega, by omega, rfl, hL0.alloc (by simp [scL]) _, hL1.alloc (by simp [scL]) _, by rw [upStart]; exact HasL.new _ _ _ _ rfl, hB.alloc (by omega) _⟩
  replace hR := hid hR
  clear hL0 hL1 hB hb
  go_wp2_with fail
  generalize w1.heap.size = n at *
  go_loopw [8] (fun i wr => StepR f g st gg w n i wr) (fun i _ => (7 - intOf i).toNat)
  case atStart => exact hR.out
  case round =>
    clear hR
    obtain ⟨k, hk1, hk2, rfl, hA, hE, hN, hb⟩ := hrel
    have : k = 7 ∨ k = 1 ∨ k = 2 ∨ k = 3 ∨ k = 4 ∨ k = 5 ∨ k = 6 := by omega
    rcases this with rfl | this
    · rw [upEnd] at hN
      obtain ⟨n0, n1, n2, n3, n4, n5, n6, n7, n8, n9, n10, n11, n12, n13, nz⟩ := hN.sc
      obtain ⟨p0, p1, p2, p3, p4, p5, p6, p7, p8, p9, p10, p11, p12, p13, pz⟩ := hE.sc
      go_wp2_with fail
      exact bodyPost_ret (ret_L rfl rfl (hE.put14 st gg)) rfl ⟨rfl, put14 hb (by omega) st gg⟩
    · rcases this with rfl | rfl | rfl | rfl | rfl | rfl
      all_goals
        obtain ⟨p0, p1, p2, p3, p4, p5, p6, p7, p8, p9, p10, p11, p12, p13, pz⟩ := hA.sc
        obtain ⟨n0, n1, n2, n3, n4, n5, n6, n7, n8, n9, n10, n11, n12, n13, nz⟩ := hN.sc
        go_wp2_with (first | (go_at_call 18; refine (HS.out _ _).mono ?_; rintro r w2 ⟨rfl, rfl⟩))
        go_region_with (go_at_call 24; refine (HW.out _ _).mono ?_; rintro r w2 ⟨rfl, rfl⟩)
        all_goals (go_wp2_with fail)
        all_goals exact ⟨StepR.next3 _ _ hk1 (by omega) hsz hA hE hN hb, by simp [intOf]⟩
end Go.Proofs.Ytpkifomoffhpdaa

/- score.Best. -/
namespace Go.Proofs.Ytpkifomoffhpdaa
open Go.RowKit

/-- The best one, one encoding further. -/
def upB (ok : Int → Bool) (sm : Int → Int) (e q : Int) : Int := if ok e = true ∧ (q = 0 ∨ sm q < sm e) then e else q
/-- The best one of the first n encodings. -/
def bestK (ok : Int → Bool) (sm : Int → Int) : Nat → Int
  | 0 => 0
  | n + 1 => upB ok sm (n + 1) (bestK ok sm n)
theorem bestK_in (ok : Int → Bool) (sm : Int → Int) : ∀ n : Nat, 0 ≤ bestK ok sm n ∧ bestK ok sm n ≤ n
  | 0 => by simp [bestK]
  | n + 1 => by
    have := bestK_in ok sm n
    simp only [bestK, upB]
    split <;> omega
theorem up_one (ok : Int → Bool) (sm : Int → Int) (e : Int) (p : Int × Int) (h : p.1 = 0 ∨ p.2 = sm p.1) :
    ((if ok e = true ∧ (p.1 = 0 ∨ p.2 < sm e) then (e, sm e) else p).1 = 0 ∨ (if ok e = true ∧ (p.1 = 0 ∨ p.2 < sm e) then (e, sm e) else p).2 = sm (if ok e = true ∧ (p.1 = 0 ∨ p.2 < sm e) then (e, sm e) else p).1) ∧ (if ok e = true ∧ (p.1 = 0 ∨ p.2 < sm e) then (e, sm e) else p).1 = upB ok sm e p.1 := by
  have hc : (p.1 = 0 ∨ p.2 < sm e) ↔ (p.1 = 0 ∨ sm p.1 < sm e) := by
    by_cases h0 : p.1 = 0
    · simp [h0]
    · rw [h.resolve_left h0]
  by_cases hx : ok e = true ∧ (p.1 = 0 ∨ p.2 < sm e)
  · rw [if_pos hx]
    exact ⟨Or.inr rfl, by rw [upB, if_pos ⟨hx.1, hc.1 hx.2⟩]⟩
  · rw [if_neg hx]
    exact ⟨h, by rw [upB, if_neg (fun y => hx ⟨y.1, hc.2 y.2⟩)]⟩
theorem bestN_up (ok : Int → Bool) (sm : Int → Int) : ∀ (l : List Int) (p : Int × Int), (p.1 = 0 ∨ p.2 = sm p.1) → (bestN ok sm l p).1 = l.foldl (fun q e => upB ok sm e q) p.1
  | [], _, _ => rfl
  | e :: r, p, h => by
    have h1 := up_one ok sm e p h
    simp only [bestN, List.foldl_cons]
    rw [bestN_up ok sm r _ h1.1, h1.2]
theorem bestE_K (ok : Int → Bool) (sm : Int → Int) : bestE ok sm = bestK ok sm 6 := by
  unfold bestE
  rw [bestN_up ok sm _ _ (Or.inl rfl)]
  rfl
theorem Below.dN {B : Nat} {a w : World} (h : Below B a w) (n : Nat) : Below B a (w.drewN n) := ⟨h.os, h.tape, h.output, h.size, h.block⟩
/-- What holds at the head of Best's loop. -/
def BestR (f g : Int → Int) (w : World) (q i : Value) (wr : World) : Prop :=
  ∃ k : Nat, k ≤ 6 ∧ i = .int .i64 ((k : Int) + 1) ∧ q = .int .i64 (bestK (fun e => aEnds e (f e)) g k) ∧ HasL wr w.heap.size (scL f g) ∧ Below w.heap.size w wr
set_option maxRecDepth 100000 in
set_option maxHeartbeats 1000000 in
theorem scBest_any (f g : Int → Int) (w : World) : Calls Try.prog 46 #[(.agg #[.int .i64 0, .int .i64 0, .int .i64 (f 1), .int .i64 (g 1), .int .i64 (f 2), .int .i64 (g 2), .int .i64 (f 3), .int .i64 (g 3), .int .i64 (f 4), .int .i64 (g 4), .int .i64 (f 5), .int .i64 (g 5), .int .i64 (f 6), .int .i64 (g 6)])] w (PV w (.int .i64 (bestE (fun e => aEnds e (f e)) g))) := by
  rw [bestE_K]
  have hR : BestR f g w (.int .i64 0) (.int .i64 1) (w.alloc (.cells #[.int .i64 0, .int .i64 0, .int .i64 (f 1), .int .i64 (g 1), .int .i64 (f 2), .int .i64 (g 2), .int .i64 (f 3), .int .i64 (g 3), .int .i64 (f 4), .int .i64 (g 4), .int .i64 (f 5), .int .i64 (g 5), .int .i64 (f 6), .int .i64 (g 6)] 46)) := ⟨0, by omega, rfl, rfl, HasL.new w #[.int .i64 0, .int .i64 0, .int .i64 (f 1), .int .i64 (g 1), .int .i64 (f 2), .int .i64 (g 2), .int .i64 (f 3), .int .i64 (g 3), .int .i64 (f 4), .int .i64 (g 4), .int .i64 (f 5), .int .i64 (g 5), .int .i64 (f 6), .int .i64 (g 6)] 46 (scL f g) rfl, (Below.refl w.heap.size w).alloc (Nat.le_refl _) _⟩
  replace hR := hid hR
  have HE := hid (fun e s w1 => ends_any e s w1)
  go_enter Try.func46, Try.ntmps46
  go_wp2_with fail
  go_loopw [3, 4] (fun q i wr => BestR f g w q i wr) (fun _ i _ => (7 - intOf i).toNat)
  case atStart => exact hR.out
  case round =>
    clear hR
    obtain ⟨k, hk, rfl, rfl, hL, hb⟩ := hrel
    obtain rfl | hk2 : k = 6 ∨ k < 6 := by omega
    · go_wp2_with fail
      go_ret
      exact ⟨rfl, hb⟩
    obtain ⟨p0, p1, p2, p3, p4, p5, p6, p7, p8, p9, p10, p11, p12, p13, pz⟩ := hL.sc
    have hq := bestK_in (fun e => aEnds e (f e)) g k
    have hn : bestK (fun e => aEnds e (f e)) g (k + 1) = upB (fun e => aEnds e (f e)) g ((k : Int) + 1) (bestK (fun e => aEnds e (f e)) g k) := rfl
    generalize bestK (fun e => aEnds e (f e)) g k = q at *
    unfold upB at hn
    have hq0 := hq.1
    have hx : 1 ≤ q → wr.cell? ⟨w.heap.size, q.toNat * 2 + 1, none⟩ = some (.int .i64 (g q)) := fun h => by
      have hq1 : q = 1 ∨ q = 2 ∨ q = 3 ∨ q = 4 ∨ q = 5 ∨ q = 6 := by omega
      rcases hq1 with rfl | rfl | rfl | rfl | rfl | rfl <;> assumption
    have hq7 : q < 7 := by omega
    have : k = 0 ∨ k = 1 ∨ k = 2 ∨ k = 3 ∨ k = 4 ∨ k = 5 := by omega
    rcases this with rfl | rfl | rfl | rfl | rfl | rfl
    · by_cases hf : aEnds 1 (f 1) = true
      · by_cases h0 : q = 0
        · subst h0
          replace hn := hid (hn.trans (if_pos ⟨hf, Or.inl rfl⟩))
          have h1 : ((0 : Int) == 0) = true := rfl
          go_wp2_with (first | (go_at_call 20; refine (HE.out _ _ _).mono ?_; rintro r w1 ⟨rfl, rfl⟩))
          go_quiet (fail)
          go_wp2_with fail
          exact ⟨⟨1, by omega, rfl, congrArg (Value.int .i64) hn.out.symm, hL.keep rfl, Below.dN hb _⟩, by simp [intOf]⟩
        · exact absurd (by omega) h0
      · have hf2 : aEnds 1 (f 1) = false := by simpa using hf
        replace hn := hid (hn.trans (if_neg (fun y => hf y.1)))
        clear hf
        go_wp2_with (first | (go_at_call 20; refine (HE.out _ _ _).mono ?_; rintro r w1 ⟨rfl, rfl⟩))
        exact ⟨⟨1, by omega, rfl, congrArg (Value.int .i64) hn.out.symm, hL, hb⟩, by simp [intOf]⟩
    · by_cases hf : aEnds 2 (f 2) = true
      · by_cases h0 : q = 0
        · subst h0
          replace hn := hid (hn.trans (if_pos ⟨hf, Or.inl rfl⟩))
          have h1 : ((0 : Int) == 0) = true := rfl
          go_wp2_with (first | (go_at_call 20; refine (HE.out _ _ _).mono ?_; rintro r w1 ⟨rfl, rfl⟩))
          go_quiet (fail)
          go_wp2_with fail
          exact ⟨⟨2, by omega, rfl, congrArg (Value.int .i64) hn.out.symm, hL.keep rfl, Below.dN hb _⟩, by simp [intOf]⟩
        · have h1 : (q == 0) = false := by simpa using h0
          replace hx := hx (by omega)
          by_cases h2 : g q < g 2
          · have hd : decide (g q < g 2) = true := by simpa using h2
            replace hn := hid (hn.trans (if_pos ⟨hf, Or.inr h2⟩))
            go_wp2_with (first | (go_at_call 20; refine (HE.out _ _ _).mono ?_; rintro r w1 ⟨rfl, rfl⟩))
            go_quiet (fail)
            go_wp2_with fail
            exact ⟨⟨2, by omega, rfl, congrArg (Value.int .i64) hn.out.symm, hL.keep rfl, Below.dN hb _⟩, by simp [intOf]⟩
          · have hd : decide (g q < g 2) = false := by simpa using h2
            replace hn := hid (hn.trans (if_neg (fun y => y.2.elim h0 h2)))
            go_wp2_with (first | (go_at_call 20; refine (HE.out _ _ _).mono ?_; rintro r w1 ⟨rfl, rfl⟩))
            go_quiet (fail)
            go_wp2_with fail
            exact ⟨⟨2, by omega, rfl, congrArg (Value.int .i64) hn.out.symm, hL.keep rfl, Below.dN hb _⟩, by simp [intOf]⟩
      · have hf2 : aEnds 2 (f 2) = false := by simpa using hf
        replace hn := hid (hn.trans (if_neg (fun y => hf y.1)))
        clear hf
        go_wp2_with (first | (go_at_call 20; refine (HE.out _ _ _).mono ?_; rintro r w1 ⟨rfl, rfl⟩))
        exact ⟨⟨2, by omega, rfl, congrArg (Value.int .i64) hn.out.symm, hL, hb⟩, by simp [intOf]⟩
    · by_cases hf : aEnds 3 (f 3) = true
      · by_cases h0 : q = 0
        · subst h0
          replace hn := hid (hn.trans (if_pos ⟨hf, Or.inl rfl⟩))
          have h1 : ((0 : Int) == 0) = true := rfl
          go_wp2_with (first | (go_at_call 20; refine (HE.out _ _ _).mono ?_; rintro r w1 ⟨rfl, rfl⟩))
          go_quiet (fail)
          go_wp2_with fail
          exact ⟨⟨3, by omega, rfl, congrArg (Value.int .i64) hn.out.symm, hL.keep rfl, Below.dN hb _⟩, by simp [intOf]⟩
        · have h1 : (q == 0) = false := by simpa using h0
          replace hx := hx (by omega)
          by_cases h2 : g q < g 3
          · have hd : decide (g q < g 3) = true := by simpa using h2
            replace hn := hid (hn.trans (if_pos ⟨hf, Or.inr h2⟩))
            go_wp2_with (first | (go_at_call 20; refine (HE.out _ _ _).mono ?_; rintro r w1 ⟨rfl, rfl⟩))
            go_quiet (fail)
            go_wp2_with fail
            exact ⟨⟨3, by omega, rfl, congrArg (Value.int .i64) hn.out.symm, hL.keep rfl, Below.dN hb _⟩, by simp [intOf]⟩
          · have hd : decide (g q < g 3) = false := by simpa using h2
            replace hn := hid (hn.trans (if_neg (fun y => y.2.elim h0 h2)))
            go_wp2_with (first | (go_at_call 20; refine (HE.out _ _ _).mono ?_; rintro r w1 ⟨rfl, rfl⟩))
            go_quiet (fail)
            go_wp2_with fail
            exact ⟨⟨3, by omega, rfl, congrArg (Value.int .i64) hn.out.symm, hL.keep rfl, Below.dN hb _⟩, by simp [intOf]⟩
      · have hf2 : aEnds 3 (f 3) = false := by simpa using hf
        replace hn := hid (hn.trans (if_neg (fun y => hf y.1)))
        clear hf
        go_wp2_with (first | (go_at_call 20; refine (HE.out _ _ _).mono ?_; rintro r w1 ⟨rfl, rfl⟩))
        exact ⟨⟨3, by omega, rfl, congrArg (Value.int .i64) hn.out.symm, hL, hb⟩, by simp [intOf]⟩
    · by_cases hf : aEnds 4 (f 4) = true
      · by_cases h0 : q = 0
        · subst h0
          replace hn := hid (hn.trans (if_pos ⟨hf, Or.inl rfl⟩))
          have h1 : ((0 : Int) == 0) = true := rfl
          go_wp2_with (first | (go_at_call 20; refine (HE.out _ _ _).mono ?_; rintro r w1 ⟨rfl, rfl⟩))
          go_quiet (fail)
          go_wp2_with fail
          exact ⟨⟨4, by omega, rfl, congrArg (Value.int .i64) hn.out.symm, hL.keep rfl, Below.dN hb _⟩, by simp [intOf]⟩
        · have h1 : (q == 0) = false := by simpa using h0
          replace hx := hx (by omega)
          by_cases h2 : g q < g 4
          · have hd : decide (g q < g 4) = true := by simpa using h2
            replace hn := hid (hn.trans (if_pos ⟨hf, Or.inr h2⟩))
            go_wp2_with (first | (go_at_call 20; refine (HE.out _ _ _).mono ?_; rintro r w1 ⟨rfl, rfl⟩))
            go_quiet (fail)
            go_wp2_with fail
            exact ⟨⟨4, by omega, rfl, congrArg (Value.int .i64) hn.out.symm, hL.keep rfl, Below.dN hb _⟩, by simp [intOf]⟩
          · have hd : decide (g q < g 4) = false := by simpa using h2
            replace hn := hid (hn.trans (if_neg (fun y => y.2.elim h0 h2)))
            go_wp2_with (first | (go_at_call 20; refine (HE.out _ _ _).mono ?_; rintro r w1 ⟨rfl, rfl⟩))
            go_quiet (fail)
            go_wp2_with fail
            exact ⟨⟨4, by omega, rfl, congrArg (Value.int .i64) hn.out.symm, hL.keep rfl, Below.dN hb _⟩, by simp [intOf]⟩
      · have hf2 : aEnds 4 (f 4) = false := by simpa using hf
        replace hn := hid (hn.trans (if_neg (fun y => hf y.1)))
        clear hf
        go_wp2_with (first | (go_at_call 20; refine (HE.out _ _ _).mono ?_; rintro r w1 ⟨rfl, rfl⟩))
        exact ⟨⟨4, by omega, rfl, congrArg (Value.int .i64) hn.out.symm, hL, hb⟩, by simp [intOf]⟩
    · by_cases hf : aEnds 5 (f 5) = true
      · by_cases h0 : q = 0
        · subst h0
          replace hn := hid (hn.trans (if_pos ⟨hf, Or.inl rfl⟩))
          have h1 : ((0 : Int) == 0) = true := rfl
          go_wp2_with (first | (go_at_call 20; refine (HE.out _ _ _).mono ?_; rintro r w1 ⟨rfl, rfl⟩))
          go_quiet (fail)
          go_wp2_with fail
          exact ⟨⟨5, by omega, rfl, congrArg (Value.int .i64) hn.out.symm, hL.keep rfl, Below.dN hb _⟩, by simp [intOf]⟩
        · have h1 : (q == 0) = false := by simpa using h0
          replace hx := hx (by omega)
          by_cases h2 : g q < g 5
          · have hd : decide (g q < g 5) = true := by simpa using h2
            replace hn := hid (hn.trans (if_pos ⟨hf, Or.inr h2⟩))
            go_wp2_with (first | (go_at_call 20; refine (HE.out _ _ _).mono ?_; rintro r w1 ⟨rfl, rfl⟩))
            go_quiet (fail)
            go_wp2_with fail
            exact ⟨⟨5, by omega, rfl, congrArg (Value.int .i64) hn.out.symm, hL.keep rfl, Below.dN hb _⟩, by simp [intOf]⟩
          · have hd : decide (g q < g 5) = false := by simpa using h2
            replace hn := hid (hn.trans (if_neg (fun y => y.2.elim h0 h2)))
            go_wp2_with (first | (go_at_call 20; refine (HE.out _ _ _).mono ?_; rintro r w1 ⟨rfl, rfl⟩))
            go_quiet (fail)
            go_wp2_with fail
            exact ⟨⟨5, by omega, rfl, congrArg (Value.int .i64) hn.out.symm, hL.keep rfl, Below.dN hb _⟩, by simp [intOf]⟩
      · have hf2 : aEnds 5 (f 5) = false := by simpa using hf
        replace hn := hid (hn.trans (if_neg (fun y => hf y.1)))
        clear hf
        go_wp2_with (first | (go_at_call 20; refine (HE.out _ _ _).mono ?_; rintro r w1 ⟨rfl, rfl⟩))
        exact ⟨⟨5, by omega, rfl, congrArg (Value.int .i64) hn.out.symm, hL, hb⟩, by simp [intOf]⟩
    · by_cases hf : aEnds 6 (f 6) = true
      · by_cases h0 : q = 0
        · subst h0
          replace hn := hid (hn.trans (if_pos ⟨hf, Or.inl rfl⟩))
          have h1 : ((0 : Int) == 0) = true := rfl
          go_wp2_with (first | (go_at_call 20; refine (HE.out _ _ _).mono ?_; rintro r w1 ⟨rfl, rfl⟩))
          go_quiet (fail)
          go_wp2_with fail
          exact ⟨⟨6, by omega, rfl, congrArg (Value.int .i64) hn.out.symm, hL.keep rfl, Below.dN hb _⟩, by simp [intOf]⟩
        · have h1 : (q == 0) = false := by simpa using h0
          replace hx := hx (by omega)
          by_cases h2 : g q < g 6
          · have hd : decide (g q < g 6) = true := by simpa using h2
            replace hn := hid (hn.trans (if_pos ⟨hf, Or.inr h2⟩))
            go_wp2_with (first | (go_at_call 20; refine (HE.out _ _ _).mono ?_; rintro r w1 ⟨rfl, rfl⟩))
            go_quiet (fail)
            go_wp2_with fail
            exact ⟨⟨6, by omega, rfl, congrArg (Value.int .i64) hn.out.symm, hL.keep rfl, Below.dN hb _⟩, by simp [intOf]⟩
          · have hd : decide (g q < g 6) = false := by simpa using h2
            replace hn := hid (hn.trans (if_neg (fun y => y.2.elim h0 h2)))
            go_wp2_with (first | (go_at_call 20; refine (HE.out _ _ _).mono ?_; rintro r w1 ⟨rfl, rfl⟩))
            go_quiet (fail)
            go_wp2_with fail
            exact ⟨⟨6, by omega, rfl, congrArg (Value.int .i64) hn.out.symm, hL.keep rfl, Below.dN hb _⟩, by simp [intOf]⟩
      · have hf2 : aEnds 6 (f 6) = false := by simpa using hf
        replace hn := hid (hn.trans (if_neg (fun y => hf y.1)))
        clear hf
        go_wp2_with (first | (go_at_call 20; refine (HE.out _ _ _).mono ?_; rintro r w1 ⟨rfl, rfl⟩))
        exact ⟨⟨6, by omega, rfl, congrArg (Value.int .i64) hn.out.symm, hL, hb⟩, by simp [intOf]⟩
end Go.Proofs.Ytpkifomoffhpdaa

/- score.Whole. -/
namespace Go.Proofs.Ytpkifomoffhpdaa
open Go.RowKit
attribute [local go_sem ↓] run_eqS run_neS
attribute [local go_sem] byte_at0 byte_at20 byte_at21 w64 S.v and63 and31 and15 and7 kw kw256

/-- The states behind some bytes. -/
def stL (l : List UInt8) (e : Int) : Int := aRun e 0 l
/-- The sums behind some bytes. -/
def smL (l : List UInt8) (e : Int) : Int := sumN e l
/-- The best encoding of some bytes. -/
def bestL (l : List UInt8) : Int := bestE (fun e => aEnds e (aRun e 0 l)) (fun e => sumN e l)
theorem stL_next (s : ByteArray) (k : Nat) (h : k < s.size) (e : Int) : stL (s.data.toList.take (k + 1)) e = aStep e (stL (s.data.toList.take k) e) ((s[k]).toNat : Int) := aRun_next e 0 s k h
theorem smL_one (s : ByteArray) (h : 0 < s.size) : smL (s.data.toList.take (0 + 1)) = smL (s.data.toList.take 0) := by
  funext e
  rw [take_one s 0 h]
  simp [smL, sumN]
theorem smL_next (s : ByteArray) (k : Nat) (h : k + 1 < s.size) (e : Int) : smL (s.data.toList.take (k + 1)) e + weiN e ((s[k]'(by omega)).toNat : Int) ((s[k + 1]).toNat : Int) = smL (s.data.toList.take (k + 1 + 1)) e := by
  unfold smL
  rw [take_one s (k + 1) h, take_one s k (by omega), List.append_assoc]
  exact (sumN_snoc e _ _ _).symm
theorem smL_in (l : List UInt8) (hl : l.length ≤ 4000) (e : Int) : IntKind.i64.wrap (smL l e) = smL l e := by
  have := sumN_in e l
  unfold smL
  rw [IntKind.wrap_i64]
  omega
/-- What holds at the head of Whole's loop. -/
def WhR (s : ByteArray) (w : World) (n : Nat) (last i : Value) (wr : World) : Prop :=
  ∃ k : Nat, k ≤ s.size ∧ i = .int .i64 k ∧ HasL wr n (scL (stL (s.data.toList.take k)) (smL (s.data.toList.take k))) ∧ Below w.heap.size w wr ∧ ((k = 0 ∧ last = .int .i64 (-1)) ∨ ∃ (j : Nat) (h : j < s.size), k = j + 1 ∧ last = .int .i64 ((s[j]).toNat : Int))
set_option maxRecDepth 100000 in
set_option maxHeartbeats 1000000 in
theorem whole_sc (s : ByteArray) (w : World) (hs : s.size ≤ 4000) : Calls Try.prog 26 #[.string s] w (PV w (.int .i64 (bestL s.data.toList))) := by
  go_enter Try.func26, Try.ntmps26
  go_wp2_with fail
  refine (new_any _).mono ?_
  rintro r w1 ⟨rfl, hb⟩
  have hR : WhR s w w1.heap.size (.int .i64 (-1)) (.int .i64 0) (w1.alloc (.cells #[.int .i64 0, .int .i64 0, .int .i64 0, .int .i64 0, .int .i64 0, .int .i64 0, .int .i64 0, .int .i64 0, .int .i64 0, .int .i64 0, .int .i64 0, .int .i64 0, .int .i64 0, .int .i64 0] 46)) :=
    ⟨0, Nat.zero_le _, rfl, HasL.new w1 #[.int .i64 0, .int .i64 0, .int .i64 0, .int .i64 0, .int .i64 0, .int .i64 0, .int .i64 0, .int .i64 0, .int .i64 0, .int .i64 0, .int .i64 0, .int .i64 0, .int .i64 0, .int .i64 0] 46 _ rfl, hb.alloc hb.size _, Or.inl ⟨rfl, rfl⟩⟩
  replace hR := hid hR
  have hsz := hb.size
  clear hb
  go_wp2_with fail
  generalize w1.heap.size = n at *
  go_loopw [4, 10] (fun last i wr => WhR s w n last i wr) (fun _ i _ => s.size - (intOf i).toNat)
  case atStart => exact hR.out
  case round =>
    clear hR
    obtain ⟨k, hk, rfl, hL, hb, hlast⟩ := hrel
    by_cases hlt : k < s.size
    · have b0 : (0 : Int) ≤ (k : Int) := by omega
      have b1 : (k : Int) < (s.size : Int) := by omega
      rcases hlast with ⟨rfl, rfl⟩ | ⟨j, hj, rfl, rfl⟩
      · have H := fun w1 => scStep_first (stL (s.data.toList.take 0)) (smL (s.data.toList.take 0)) (stL (s.data.toList.take (0 + 1))) ((s[0]).toNat : Int) w1 (hid fun e w2 => by rw [stL_next s 0 hlt]; exact step_any e _ s[0] w2)
        have hE := hid (smL_one s hlt)
        have hP := hL.lt (by simp [scL])
        generalize stL (s.data.toList.take 0) = f at *
        generalize smL (s.data.toList.take 0) = g at *
        replace H := hid H
        obtain ⟨n0, n1, n2, n3, n4, n5, n6, n7, n8, n9, n10, n11, n12, n13, nz⟩ := hL.sc
        go_wp2_with fail
        refine (H.out _).mono ?_
        rintro r w2 ⟨rfl, hb2⟩
        have hL2 := hL.below hb2 hP
        have hB2 := hb.trans (hb2.mono hb.size)
        clear n0 n1 n2 n3 n4 n5 n6 n7 n8 n9 n10 n11 n12 n13 nz
        obtain ⟨n0, n1, n2, n3, n4, n5, n6, n7, n8, n9, n10, n11, n12, n13, nz⟩ := hL2.sc
        go_wp2_with fail
        go_roundw
        case rel => exact ⟨1, by omega, rfl, by rw [hE.out]; exact hL2.put14 _ _, put14 hB2 hsz _ _, Or.inr ⟨0, hlt, rfl, rfl⟩⟩
        case measure => simp [intOf]; omega
      · have H := fun w1 => scStep_next (stL (s.data.toList.take (j + 1))) (smL (s.data.toList.take (j + 1))) (stL (s.data.toList.take (j + 1 + 1))) (fun e => weiN e ((s[j]).toNat : Int) ((s[j + 1]).toNat : Int)) (smL (s.data.toList.take (j + 1 + 1))) ((s[j]).toNat : Int) ((s[j + 1]).toNat : Int) w1 (by omega) (fun e => smL_next s j hlt e) (fun e => smL_in _ (by simp; omega) e) (hid fun e w2 => by rw [stL_next s (j + 1) hlt]; exact step_any e _ s[j + 1] w2) (hid fun e w2 => weight_any e _ _ w2 (by omega) (by omega))
        have hP := hL.lt (by simp [scL])
        generalize stL (s.data.toList.take (j + 1)) = f at *
        generalize smL (s.data.toList.take (j + 1)) = g at *
        replace H := hid H
        obtain ⟨n0, n1, n2, n3, n4, n5, n6, n7, n8, n9, n10, n11, n12, n13, nz⟩ := hL.sc
        go_wp2_with fail
        refine (H.out _).mono ?_
        rintro r w2 ⟨rfl, hb2⟩
        have hL2 := hL.below hb2 hP
        have hB2 := hb.trans (hb2.mono hb.size)
        clear n0 n1 n2 n3 n4 n5 n6 n7 n8 n9 n10 n11 n12 n13 nz
        obtain ⟨n0, n1, n2, n3, n4, n5, n6, n7, n8, n9, n10, n11, n12, n13, nz⟩ := hL2.sc
        go_wp2_with fail
        go_roundw
        case rel => exact ⟨j + 1 + 1, by omega, by go_num, hL2.put14 _ _, put14 hB2 hsz _ _, Or.inr ⟨j + 1, hlt, rfl, rfl⟩⟩
        case measure => simp [intOf]; omega
    · have H := fun w1 => scBest_any (stL (s.data.toList.take k)) (smL (s.data.toList.take k)) w1
      rw [List.take_of_length_le (by simp; omega)] at H hL
      change ∀ w1, Calls Try.prog 46 #[(.agg #[.int .i64 0, .int .i64 0, .int .i64 (stL s.data.toList 1), .int .i64 (smL s.data.toList 1), .int .i64 (stL s.data.toList 2), .int .i64 (smL s.data.toList 2), .int .i64 (stL s.data.toList 3), .int .i64 (smL s.data.toList 3), .int .i64 (stL s.data.toList 4), .int .i64 (smL s.data.toList 4), .int .i64 (stL s.data.toList 5), .int .i64 (smL s.data.toList 5), .int .i64 (stL s.data.toList 6), .int .i64 (smL s.data.toList 6)])] w1 (PV w1 (.int .i64 (bestL s.data.toList))) at H
      obtain ⟨v, hv⟩ : ∃ v, v = bestL s.data.toList := ⟨_, rfl⟩
      rw [← hv] at H
      replace hv := hid hv
      generalize stL s.data.toList = f at *
      generalize smL s.data.toList = g at *
      replace H := hid H
      obtain ⟨n0, n1, n2, n3, n4, n5, n6, n7, n8, n9, n10, n11, n12, n13, nz⟩ := hL.sc
      go_wp2_with fail
      refine (H.out _).mono ?_
      rintro r w2 ⟨rfl, hb2⟩
      have hB2 := hb.trans (hb2.mono hb.size)
      go_wp2_with fail
      go_ret
      exact ⟨by rw [← hv.out]; rfl, hB2⟩
end Go.Proofs.Ytpkifomoffhpdaa
