/- score.Best. -/
import Derived.Test.YtloaemijhggheaaQC
import Derived.Deep.QuietTactic
import Derived.BigQuiet
namespace Go.Proofs.Ytloaemijhggheaa
open Go.RowKit

/-- The best one, one encoding further. -/
def upB (ok : Int → Bool) (sm : Int → Int) (e q : Int) : Int := if ok e = true ∧ (q = 0 ∨ sm q < sm e) then e else q
/-- The best one of the first n encodings. -/
def bestK (ok : Int → Bool) (sm : Int → Int) : Nat → Int
  | 0 => 0
  | n + 1 => upB ok sm (n + 1) (bestK ok sm n)
theorem bestK_in (ok : Int → Bool) (sm : Int → Int) : ∀ n : Nat, 0 ≤ bestK ok sm n ∧ bestK ok sm n ≤ n
  | 0 => by simp [bestK]
  | n + 1 => by
    have := bestK_in ok sm n
    simp only [bestK, upB]
    split <;> omega
theorem up_one (ok : Int → Bool) (sm : Int → Int) (e : Int) (p : Int × Int) (h : p.1 = 0 ∨ p.2 = sm p.1) :
    ((if ok e = true ∧ (p.1 = 0 ∨ p.2 < sm e) then (e, sm e) else p).1 = 0 ∨ (if ok e = true ∧ (p.1 = 0 ∨ p.2 < sm e) then (e, sm e) else p).2 = sm (if ok e = true ∧ (p.1 = 0 ∨ p.2 < sm e) then (e, sm e) else p).1) ∧ (if ok e = true ∧ (p.1 = 0 ∨ p.2 < sm e) then (e, sm e) else p).1 = upB ok sm e p.1 := by
  have hc : (p.1 = 0 ∨ p.2 < sm e) ↔ (p.1 = 0 ∨ sm p.1 < sm e) := by
    by_cases h0 : p.1 = 0
    · simp [h0]
    · rw [h.resolve_left h0]
  by_cases hx : ok e = true ∧ (p.1 = 0 ∨ p.2 < sm e)
  · rw [if_pos hx]
    exact ⟨Or.inr rfl, by rw [upB, if_pos ⟨hx.1, hc.1 hx.2⟩]⟩
  · rw [if_neg hx]
    exact ⟨h, by rw [upB, if_neg (fun y => hx ⟨y.1, hc.2 y.2⟩)]⟩
theorem bestN_up (ok : Int → Bool) (sm : Int → Int) : ∀ (l : List Int) (p : Int × Int), (p.1 = 0 ∨ p.2 = sm p.1) → (bestN ok sm l p).1 = l.foldl (fun q e => upB ok sm e q) p.1
  | [], _, _ => rfl
  | e :: r, p, h => by
    have h1 := up_one ok sm e p h
    simp only [bestN, List.foldl_cons]
    rw [bestN_up ok sm r _ h1.1, h1.2]
theorem bestE_K (ok : Int → Bool) (sm : Int → Int) : bestE ok sm = bestK ok sm 6 := by
  unfold bestE
  rw [bestN_up ok sm _ _ (Or.inl rfl)]
  rfl
theorem Below.dN {B : Nat} {a w : World} (h : Below B a w) (n : Nat) : Below B a (w.drewN n) := ⟨h.os, h.tape, h.output, h.size, h.block⟩
/-- What holds at the head of Best's loop. -/
def BestR (f g : Int → Int) (w : World) (q i : Value) (wr : World) : Prop :=
  ∃ k : Nat, k ≤ 6 ∧ i = .int .i64 ((k : Int) + 1) ∧ q = .int .i64 (bestK (fun e => aEnds e (f e)) g k) ∧ HasL wr w.heap.size (scL f g) ∧ Below w.heap.size w wr
set_option maxRecDepth 100000 in
set_option maxHeartbeats 1000000 in
theorem scBest_any (f g : Int → Int) (w : World) : Calls Try.prog 64 #[(.agg #[.int .i64 0, .int .i64 0, .int .i64 (f 1), .int .i64 (g 1), .int .i64 (f 2), .int .i64 (g 2), .int .i64 (f 3), .int .i64 (g 3), .int .i64 (f 4), .int .i64 (g 4), .int .i64 (f 5), .int .i64 (g 5), .int .i64 (f 6), .int .i64 (g 6)])] w (PV w (.int .i64 (bestE (fun e => aEnds e (f e)) g))) := by
  rw [bestE_K]
  have hR : BestR f g w (.int .i64 0) (.int .i64 1) (w.alloc (.cells #[.int .i64 0, .int .i64 0, .int .i64 (f 1), .int .i64 (g 1), .int .i64 (f 2), .int .i64 (g 2), .int .i64 (f 3), .int .i64 (g 3), .int .i64 (f 4), .int .i64 (g 4), .int .i64 (f 5), .int .i64 (g 5), .int .i64 (f 6), .int .i64 (g 6)] 59)) := ⟨0, by omega, rfl, rfl, HasL.new w #[.int .i64 0, .int .i64 0, .int .i64 (f 1), .int .i64 (g 1), .int .i64 (f 2), .int .i64 (g 2), .int .i64 (f 3), .int .i64 (g 3), .int .i64 (f 4), .int .i64 (g 4), .int .i64 (f 5), .int .i64 (g 5), .int .i64 (f 6), .int .i64 (g 6)] 59 (scL f g) rfl, (Below.refl w.heap.size w).alloc (Nat.le_refl _) _⟩
  replace hR := hid hR
  have HE := hid (fun e s w1 => ends_any e s w1)
  go_enter Try.func64, Try.ntmps64
  go_wp2_with fail
  go_loopw [3, 4] (fun q i wr => BestR f g w q i wr) (fun _ i _ => (7 - intOf i).toNat)
  case atStart => exact hR.out
  case round =>
    clear hR
    obtain ⟨k, hk, rfl, rfl, hL, hb⟩ := hrel
    obtain rfl | hk2 : k = 6 ∨ k < 6 := by omega
    · go_wp2_with fail
      go_ret
      exact ⟨rfl, hb⟩
    obtain ⟨p0, p1, p2, p3, p4, p5, p6, p7, p8, p9, p10, p11, p12, p13, pz⟩ := hL.sc
    have hq := bestK_in (fun e => aEnds e (f e)) g k
    have hn : bestK (fun e => aEnds e (f e)) g (k + 1) = upB (fun e => aEnds e (f e)) g ((k : Int) + 1) (bestK (fun e => aEnds e (f e)) g k) := rfl
    generalize bestK (fun e => aEnds e (f e)) g k = q at *
    unfold upB at hn
    have hq0 := hq.1
    have hx : 1 ≤ q → wr.cell? ⟨w.heap.size, q.toNat * 2 + 1, none⟩ = some (.int .i64 (g q)) := fun h => by
      have hq1 : q = 1 ∨ q = 2 ∨ q = 3 ∨ q = 4 ∨ q = 5 ∨ q = 6 := by omega
      rcases hq1 with rfl | rfl | rfl | rfl | rfl | rfl <;> assumption
    have hq7 : q < 7 := by omega
    have : k = 0 ∨ k = 1 ∨ k = 2 ∨ k = 3 ∨ k = 4 ∨ k = 5 := by omega
    rcases this with rfl | rfl | rfl | rfl | rfl | rfl
    · by_cases hf : aEnds 1 (f 1) = true
      · by_cases h0 : q = 0
        · subst h0
          replace hn := hid (hn.trans (if_pos ⟨hf, Or.inl rfl⟩))
          have h1 : ((0 : Int) == 0) = true := rfl
          go_wp2_with (first | (go_at_call 32; refine (HE.out _ _ _).mono ?_; rintro r w1 ⟨rfl, rfl⟩))
          go_quiet (fail)
          go_wp2_with fail
          exact ⟨⟨1, by omega, rfl, congrArg (Value.int .i64) hn.out.symm, hL.keep rfl, Below.dN hb _⟩, by simp [intOf]⟩
        · exact absurd (by omega) h0
      · have hf2 : aEnds 1 (f 1) = false := by simpa using hf
        replace hn := hid (hn.trans (if_neg (fun y => hf y.1)))
        clear hf
        go_wp2_with (first | (go_at_call 32; refine (HE.out _ _ _).mono ?_; rintro r w1 ⟨rfl, rfl⟩))
        exact ⟨⟨1, by omega, rfl, congrArg (Value.int .i64) hn.out.symm, hL, hb⟩, by simp [intOf]⟩
    · by_cases hf : aEnds 2 (f 2) = true
      · by_cases h0 : q = 0
        · subst h0
          replace hn := hid (hn.trans (if_pos ⟨hf, Or.inl rfl⟩))
          have h1 : ((0 : Int) == 0) = true := rfl
          go_wp2_with (first | (go_at_call 32; refine (HE.out _ _ _).mono ?_; rintro r w1 ⟨rfl, rfl⟩))
          go_quiet (fail)
          go_wp2_with fail
          exact ⟨⟨2, by omega, rfl, congrArg (Value.int .i64) hn.out.symm, hL.keep rfl, Below.dN hb _⟩, by simp [intOf]⟩
        · have h1 : (q == 0) = false := by simpa using h0
          replace hx := hx (by omega)
          by_cases h2 : g q < g 2
          · have hd : decide (g q < g 2) = true := by simpa using h2
            replace hn := hid (hn.trans (if_pos ⟨hf, Or.inr h2⟩))
            go_wp2_with (first | (go_at_call 32; refine (HE.out _ _ _).mono ?_; rintro r w1 ⟨rfl, rfl⟩))
            go_quiet (fail)
            go_wp2_with fail
            exact ⟨⟨2, by omega, rfl, congrArg (Value.int .i64) hn.out.symm, hL.keep rfl, Below.dN hb _⟩, by simp [intOf]⟩
          · have hd : decide (g q < g 2) = false := by simpa using h2
            replace hn := hid (hn.trans (if_neg (fun y => y.2.elim h0 h2)))
            go_wp2_with (first | (go_at_call 32; refine (HE.out _ _ _).mono ?_; rintro r w1 ⟨rfl, rfl⟩))
            go_quiet (fail)
            go_wp2_with fail
            exact ⟨⟨2, by omega, rfl, congrArg (Value.int .i64) hn.out.symm, hL.keep rfl, Below.dN hb _⟩, by simp [intOf]⟩
      · have hf2 : aEnds 2 (f 2) = false := by simpa using hf
        replace hn := hid (hn.trans (if_neg (fun y => hf y.1)))
        clear hf
        go_wp2_with (first | (go_at_call 32; refine (HE.out _ _ _).mono ?_; rintro r w1 ⟨rfl, rfl⟩))
        exact ⟨⟨2, by omega, rfl, congrArg (Value.int .i64) hn.out.symm, hL, hb⟩, by simp [intOf]⟩
    · by_cases hf : aEnds 3 (f 3) = true
      · by_cases h0 : q = 0
        · subst h0
          replace hn := hid (hn.trans (if_pos ⟨hf, Or.inl rfl⟩))
          have h1 : ((0 : Int) == 0) = true := rfl
          go_wp2_with (first | (go_at_call 32; refine (HE.out _ _ _).mono ?_; rintro r w1 ⟨rfl, rfl⟩))
          go_quiet (fail)
          go_wp2_with fail
          exact ⟨⟨3, by omega, rfl, congrArg (Value.int .i64) hn.out.symm, hL.keep rfl, Below.dN hb _⟩, by simp [intOf]⟩
        · have h1 : (q == 0) = false := by simpa using h0
          replace hx := hx (by omega)
          by_cases h2 : g q < g 3
          · have hd : decide (g q < g 3) = true := by simpa using h2
            replace hn := hid (hn.trans (if_pos ⟨hf, Or.inr h2⟩))
            go_wp2_with (first | (go_at_call 32; refine (HE.out _ _ _).mono ?_; rintro r w1 ⟨rfl, rfl⟩))
            go_quiet (fail)
            go_wp2_with fail
            exact ⟨⟨3, by omega, rfl, congrArg (Value.int .i64) hn.out.symm, hL.keep rfl, Below.dN hb _⟩, by simp [intOf]⟩
          · have hd : decide (g q < g 3) = false := by simpa using h2
            replace hn := hid (hn.trans (if_neg (fun y => y.2.elim h0 h2)))
            go_wp2_with (first | (go_at_call 32; refine (HE.out _ _ _).mono ?_; rintro r w1 ⟨rfl, rfl⟩))
            go_quiet (fail)
            go_wp2_with fail
            exact ⟨⟨3, by omega, rfl, congrArg (Value.int .i64) hn.out.symm, hL.keep rfl, Below.dN hb _⟩, by simp [intOf]⟩
      · have hf2 : aEnds 3 (f 3) = false := by simpa using hf
        replace hn := hid (hn.trans (if_neg (fun y => hf y.1)))
        clear hf
        go_wp2_with (first | (go_at_call 32; refine (HE.out _ _ _).mono ?_; rintro r w1 ⟨rfl, rfl⟩))
        exact ⟨⟨3, by omega, rfl, congrArg (Value.int .i64) hn.out.symm, hL, hb⟩, by simp [intOf]⟩
    · by_cases hf : aEnds 4 (f 4) = true
      · by_cases h0 : q = 0
        · subst h0
          replace hn := hid (hn.trans (if_pos ⟨hf, Or.inl rfl⟩))
          have h1 : ((0 : Int) == 0) = true := rfl
          go_wp2_with (first | (go_at_call 32; refine (HE.out _ _ _).mono ?_; rintro r w1 ⟨rfl, rfl⟩))
          go_quiet (fail)
          go_wp2_with fail
          exact ⟨⟨4, by omega, rfl, congrArg (Value.int .i64) hn.out.symm, hL.keep rfl, Below.dN hb _⟩, by simp [intOf]⟩
        · have h1 : (q == 0) = false := by simpa using h0
          replace hx := hx (by omega)
          by_cases h2 : g q < g 4
          · have hd : decide (g q < g 4) = true := by simpa using h2
            replace hn := hid (hn.trans (if_pos ⟨hf, Or.inr h2⟩))
            go_wp2_with (first | (go_at_call 32; refine (HE.out _ _ _).mono ?_; rintro r w1 ⟨rfl, rfl⟩))
            go_quiet (fail)
            go_wp2_with fail
            exact ⟨⟨4, by omega, rfl, congrArg (Value.int .i64) hn.out.symm, hL.keep rfl, Below.dN hb _⟩, by simp [intOf]⟩
          · have hd : decide (g q < g 4) = false := by simpa using h2
            replace hn := hid (hn.trans (if_neg (fun y => y.2.elim h0 h2)))
            go_wp2_with (first | (go_at_call 32; refine (HE.out _ _ _).mono ?_; rintro r w1 ⟨rfl, rfl⟩))
            go_quiet (fail)
            go_wp2_with fail
            exact ⟨⟨4, by omega, rfl, congrArg (Value.int .i64) hn.out.symm, hL.keep rfl, Below.dN hb _⟩, by simp [intOf]⟩
      · have hf2 : aEnds 4 (f 4) = false := by simpa using hf
        replace hn := hid (hn.trans (if_neg (fun y => hf y.1)))
        clear hf
        go_wp2_with (first | (go_at_call 32; refine (HE.out _ _ _).mono ?_; rintro r w1 ⟨rfl, rfl⟩))
        exact ⟨⟨4, by omega, rfl, congrArg (Value.int .i64) hn.out.symm, hL, hb⟩, by simp [intOf]⟩
    · by_cases hf : aEnds 5 (f 5) = true
      · by_cases h0 : q = 0
        · subst h0
          replace hn := hid (hn.trans (if_pos ⟨hf, Or.inl rfl⟩))
          have h1 : ((0 : Int) == 0) = true := rfl
          go_wp2_with (first | (go_at_call 32; refine (HE.out _ _ _).mono ?_; rintro r w1 ⟨rfl, rfl⟩))
          go_quiet (fail)
          go_wp2_with fail
          exact ⟨⟨5, by omega, rfl, congrArg (Value.int .i64) hn.out.symm, hL.keep rfl, Below.dN hb _⟩, by simp [intOf]⟩
        · have h1 : (q == 0) = false := by simpa using h0
          replace hx := hx (by omega)
          by_cases h2 : g q < g 5
          · have hd : decide (g q < g 5) = true := by simpa using h2
            replace hn := hid (hn.trans (if_pos ⟨hf, Or.inr h2⟩))
            go_wp2_with (first | (go_at_call 32; refine (HE.out _ _ _).mono ?_; rintro r w1 ⟨rfl, rfl⟩))
            go_quiet (fail)
            go_wp2_with fail
            exact ⟨⟨5, by omega, rfl, congrArg (Value.int .i64) hn.out.symm, hL.keep rfl, Below.dN hb _⟩, by simp [intOf]⟩
          · have hd : decide (g q < g 5) = false := by simpa using h2
            replace hn := hid (hn.trans (if_neg (fun y => y.2.elim h0 h2)))
            go_wp2_with (first | (go_at_call 32; refine (HE.out _ _ _).mono ?_; rintro r w1 ⟨rfl, rfl⟩))
            go_quiet (fail)
            go_wp2_with fail
            exact ⟨⟨5, by omega, rfl, congrArg (Value.int .i64) hn.out.symm, hL.keep rfl, Below.dN hb _⟩, by simp [intOf]⟩
      · have hf2 : aEnds 5 (f 5) = false := by simpa using hf
        replace hn := hid (hn.trans (if_neg (fun y => hf y.1)))
        clear hf
        go_wp2_with (first | (go_at_call 32; refine (HE.out _ _ _).mono ?_; rintro r w1 ⟨rfl, rfl⟩))
        exact ⟨⟨5, by omega, rfl, congrArg (Value.int .i64) hn.out.symm, hL, hb⟩, by simp [intOf]⟩
    · by_cases hf : aEnds 6 (f 6) = true
      · by_cases h0 : q = 0
        · subst h0
          replace hn := hid (hn.trans (if_pos ⟨hf, Or.inl rfl⟩))
          have h1 : ((0 : Int) == 0) = true := rfl
          go_wp2_with (first | (go_at_call 32; refine (HE.out _ _ _).mono ?_; rintro r w1 ⟨rfl, rfl⟩))
          go_quiet (fail)
          go_wp2_with fail
          exact ⟨⟨6, by omega, rfl, congrArg (Value.int .i64) hn.out.symm, hL.keep rfl, Below.dN hb _⟩, by simp [intOf]⟩
        · have h1 : (q == 0) = false := by simpa using h0
          replace hx := hx (by omega)
          by_cases h2 : g q < g 6
          · have hd : decide (g q < g 6) = true := by simpa using h2
            replace hn := hid (hn.trans (if_pos ⟨hf, Or.inr h2⟩))
            go_wp2_with (first | (go_at_call 32; refine (HE.out _ _ _).mono ?_; rintro r w1 ⟨rfl, rfl⟩))
            go_quiet (fail)
            go_wp2_with fail
            exact ⟨⟨6, by omega, rfl, congrArg (Value.int .i64) hn.out.symm, hL.keep rfl, Below.dN hb _⟩, by simp [intOf]⟩
          · have hd : decide (g q < g 6) = false := by simpa using h2
            replace hn := hid (hn.trans (if_neg (fun y => y.2.elim h0 h2)))
            go_wp2_with (first | (go_at_call 32; refine (HE.out _ _ _).mono ?_; rintro r w1 ⟨rfl, rfl⟩))
            go_quiet (fail)
            go_wp2_with fail
            exact ⟨⟨6, by omega, rfl, congrArg (Value.int .i64) hn.out.symm, hL.keep rfl, Below.dN hb _⟩, by simp [intOf]⟩
      · have hf2 : aEnds 6 (f 6) = false := by simpa using hf
        replace hn := hid (hn.trans (if_neg (fun y => hf y.1)))
        clear hf
        go_wp2_with (first | (go_at_call 32; refine (HE.out _ _ _).mono ?_; rintro r w1 ⟨rfl, rfl⟩))
        exact ⟨⟨6, by omega, rfl, congrArg (Value.int .i64) hn.out.symm, hL, hb⟩, by simp [intOf]⟩
end Go.Proofs.Ytloaemijhggheaa
