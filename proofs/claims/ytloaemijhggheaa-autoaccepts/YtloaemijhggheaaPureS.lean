/- Plain mathematics: the pieces of Latin and Shift. -/
import Derived.Test.YtloaemijhggheaaQT
import Derived.Test.YtloaemijhggheaaQX
import Derived.Test.YtloaemijhggheaaPieceS
namespace Go.Proofs.Ytloaemijhggheaa
open Go.RowKit

theorem lat5_iff (b : UInt8) : lat5 b = true ↔ (nb b = 129 ∨ nb b = 141 ∨ nb b = 143 ∨ nb b = 144 ∨ nb b = 157) := by
  have key : ∀ k : UInt8, b = k ↔ nb b = nb k := fun k => ⟨fun h => by rw [h], fun h => UInt8.toNat_inj.1 (by unfold nb at h; omega)⟩
  unfold lat5
  simp only [Bool.or_eq_true, beq_iff_eq, key]
  simp [nb, or_assoc]
def decLat (l : List UInt8) : List Int := mLat.dec () l
theorem decLat_once (b : UInt8) (r : List UInt8) : decLat (b :: r) = latinL b ++ decLat r := Mach.dec_once (M := mLat) (q := ()) (q' := ()) r rfl
theorem latA (b : UInt8) (h : lat5 b = true) : latinL b = [-1] := by
  have := (lat5_iff b).1 h
  unfold latinL; rw [if_neg (by omega), if_pos this]
theorem latB (b : UInt8) (h : lat5 b = false) (h1 : 128 ≤ nb b) (h2 : nb b ≤ 159) : latinL b = [8192 + nb b] := by
  have : ¬ (nb b = 129 ∨ nb b = 141 ∨ nb b = 143 ∨ nb b = 144 ∨ nb b = 157) := fun x => by rw [(lat5_iff b).2 x] at h; cases h
  unfold latinL; rw [if_neg (by omega), if_neg this]
theorem latC (b : UInt8) (h1 : nb b < 128 ∨ 159 < nb b) : latinL b = [nb b] := by
  unfold latinL; rw [if_pos (by omega)]
theorem piecesLat : Pieces 4 mLat (fun _ => ()) (fun md => md = 0) where
  start := ⟨rfl, rfl⟩
  done := fun _ _ => rfl
  piece := fun s md hs _ _ => by
    have hl := list_of s hs
    show ∃ (l : List Int) (n : Nat) (m : Int), m = 0 ∧ 0 < n ∧ n ≤ s.size ∧ l.length ≤ 1 ∧ _ ∧ decLat s.data.toList = l ++ decLat (s.data.toList.drop n)
    cases h5 : lat5 s[0] with
    | true => exact ⟨[-1], 1, 0, rfl, by omega, by omega, Nat.le_refl 1, fun w => pieceL_a s md w hs h5, by conv => lhs; rw [hl, decLat_once, latA _ h5]⟩
    | false =>
      by_cases h1 : (128 : Int) ≤ nb s[0] ∧ nb s[0] ≤ 159
      · exact ⟨[(8192 : Int) + nb s[0]], 1, 0, rfl, by omega, by omega, Nat.le_refl 1, fun w => pieceL_b s md w hs h5 h1.1 h1.2, by conv => lhs; rw [hl, decLat_once, latB _ h5 h1.1 h1.2]⟩
      · exact ⟨[nb s[0]], 1, 0, rfl, by omega, by omega, Nat.le_refl 1, fun w => pieceL_c s md w hs h5 (by unfold nb at h1; omega), by conv => lhs; rw [hl, decLat_once, latC _ (by omega)]⟩

/- Shift -/
def decS (q : Bool × K) (l : List UInt8) : List Int := mSh.dec q l
theorem decS_once {q q' : Bool × K} {b : UInt8} {l : List Int} (r : List UInt8) (h : shOffer q b = (q', l, false)) : decS q (b :: r) = l ++ decS q' r := Mach.dec_once (M := mSh) r h
theorem decS_refuse {q q' : Bool × K} {b : UInt8} {l : List Int} (r : List UInt8) (hq : shOk q) (h : shOffer q b = (q', l, true)) : decS q (b :: r) = l ++ decS q' (b :: r) := conSh.refuse r hq h
theorem decS_nil (q : Bool × K) : decS q [] = shFin q := Mach.dec_nil (M := mSh) q
theorem byte_of (b : UInt8) (k : UInt8) (h : nb b = nb k) : b = k := UInt8.toNat_inj.1 (by unfold nb at h; omega)
theorem sh_first (d : Bool) (b : UInt8) (r : List UInt8) : decS (d, .none) (b :: r) = (firstSh d b).2 ++ decS (firstSh d b).1 r := decS_once r rfl
theorem sh_esc (d : Bool) (r : List UInt8) : decS (d, .none) (27 :: r) = decS (d, .esc) r := by
  have : firstSh d 27 = ((d, .esc), []) := by unfold firstSh; rw [if_pos (by decide)]
  rw [sh_first, this]; rfl
theorem sh_par (d : Bool) (r : List UInt8) : decS (d, .esc) (40 :: r) = decS (d, .par) r := decS_once (l := []) r (by simp only [shOffer]; rw [if_pos (by decide)])
theorem sh_dol (d : Bool) (r : List UInt8) : decS (d, .esc) (36 :: r) = decS (d, .dol) r := decS_once (l := []) r (by simp only [shOffer]; rw [if_neg (by decide), if_pos (by decide)])
theorem sh_one (d : Bool) (r : List UInt8) : decS (d, .none) (27 :: 40 :: 66 :: r) = decS (false, .none) r := by
  rw [sh_esc, sh_par]
  exact decS_once (l := []) r (by simp only [shOffer]; rw [if_pos (by decide)])
theorem sh_two (d : Bool) (r : List UInt8) : decS (d, .none) (27 :: 36 :: 66 :: r) = decS (true, .none) r := by
  rw [sh_esc, sh_dol]
  exact decS_once (l := []) r (by simp only [shOffer]; rw [if_pos (by decide)])
theorem sh_bad (d : Bool) (r : List UInt8) (h1 : ∀ t, r ≠ 40 :: 66 :: t) (h2 : ∀ t, r ≠ 36 :: 66 :: t) : decS (d, .none) (27 :: r) = -1 :: decS (d, .none) r := by
  rw [sh_esc]
  match r, h1, h2 with
  | [], _, _ => rw [decS_nil, decS_nil]; rfl
  | c :: r, h1, h2 =>
    by_cases c1 : nb c = 40
    · obtain rfl := byte_of c 40 c1
      rw [sh_par, sh_first]
      match r, h1 with
      | [], _ =>
        rw [decS_nil, decS_nil]
        cases d <;> decide
      | x :: r, h1 =>
        have hx : ¬ nb x = 66 := fun e => h1 r (by rw [byte_of x 66 e])
        have : shOffer (d, .par) x = ((firstSh d 40).1, -1 :: (firstSh d 40).2, true) := by simp only [shOffer]; rw [if_neg hx]; rfl
        rw [decS_refuse r (show shOk (d, .par) from trivial) this]; rfl
    by_cases c2 : nb c = 36
    · obtain rfl := byte_of c 36 c2
      rw [sh_dol, sh_first]
      match r, h2 with
      | [], _ =>
        rw [decS_nil, decS_nil]
        cases d <;> decide
      | x :: r, h2 =>
        have hx : ¬ nb x = 66 := fun e => h2 r (by rw [byte_of x 66 e])
        have : shOffer (d, .dol) x = ((firstSh d 36).1, -1 :: (firstSh d 36).2, true) := by simp only [shOffer]; rw [if_neg hx]; rfl
        rw [decS_refuse r (show shOk (d, .dol) from trivial) this]; rfl
    have : shOffer (d, .esc) c = ((d, .none), [-1], true) := by simp only [shOffer]; rw [if_neg c1, if_neg c2]; rfl
    rw [decS_refuse r (show shOk (d, .esc) from trivial) this]; rfl
theorem sh_half (b : UInt8) (r : List UInt8) (h1 : 33 ≤ nb b) (h2 : nb b ≤ 126) : decS (true, .none) (b :: r) = decS (true, .half b) r := by
  have : firstSh true b = ((true, .half b), []) := by unfold firstSh firstD; rw [if_neg (by omega), if_pos rfl, if_neg (by omega), if_pos ⟨h1, h2⟩]
  rw [sh_first, this]; rfl
def qmS (md : Int) : Bool × K := (md == 1, .none)
theorem piecesSh : Pieces 2 mSh qmS (fun md => md = 0 ∨ md = 1) where
  start := ⟨rfl, Or.inl rfl⟩
  done := fun _ _ => rfl
  piece := fun s md hs _ hm => by
    have hl := list_of s hs
    have hb := nb_lt s[0]; have hb2 := nb_nonneg s[0]
    show ∃ (l : List Int) (n : Nat) (m : Int), (m = 0 ∨ m = 1) ∧ 0 < n ∧ n ≤ s.size ∧ l.length ≤ 1 ∧ _ ∧ decS (md == 1, .none) s.data.toList = l ++ decS (m == 1, .none) (s.data.toList.drop n)
    cases p1 : pre3 27 40 66 s with
    | true =>
      obtain ⟨r, hr⟩ := pre3_yes _ _ _ _ p1
      have hz : 3 ≤ s.size := by have := congrArg List.length hr; simp at this; omega
      exact ⟨[], 3, 0, Or.inl rfl, by omega, hz, Nat.zero_le _, fun w => pieceS_a s md w hs p1, by rw [hr, sh_one]; rfl⟩
    | false =>
    cases p2 : pre3 27 36 66 s with
    | true =>
      obtain ⟨r, hr⟩ := pre3_yes _ _ _ _ p2
      have hz : 3 ≤ s.size := by have := congrArg List.length hr; simp at this; omega
      exact ⟨[], 3, 1, Or.inr rfl, by omega, hz, Nat.zero_le _, fun w => pieceS_b s md w hs p1 p2, by rw [hr, sh_two]; rfl⟩
    | false =>
    have q1 := pre3_no _ _ _ _ p1
    have q2 := pre3_no _ _ _ _ p2
    by_cases b27 : nb s[0] = 27
    · have e27 := byte_of s[0] 27 b27
      refine ⟨[-1], 1, md, hm, by omega, by omega, Nat.le_refl 1, fun w => pieceS_c s md w hs p1 p2 b27, ?_⟩
      conv => lhs; rw [hl, e27]
      refine sh_bad _ _ (fun t ht => ?_) (fun t ht => ?_)
      · exact q1 t (by rw [hl, e27, ht])
      · exact q2 t (by rw [hl, e27, ht])
    have f27 : ((s[0].toNat : Int) == 27) = false := by simpa using b27
    rcases hm with rfl | rfl
    · have e0 : ((0 : Int) == 1) = false := rfl
      rw [e0]
      have one : ∀ l : List Int, firstSh false s[0] = ((false, .none), l) → decS (false, .none) s.data.toList = l ++ decS (false, .none) (s.data.toList.drop 1) := fun l h => by
        conv => lhs; rw [hl, sh_first, h]
      have bad : nb s[0] = 14 ∨ nb s[0] = 15 ∨ (127 : Int) < nb s[0] → firstSh false s[0] = ((false, .none), [-1]) := fun h => by
        unfold firstSh; rw [if_neg b27, if_neg (by simp), if_pos h]
      by_cases c1 : (127 : Int) < nb s[0]
      · exact ⟨[-1], 1, 0, Or.inl rfl, by omega, by omega, Nat.le_refl 1, fun w => pieceS_d1 s w hs p1 p2 c1, one _ (bad (by omega))⟩
      by_cases c2 : nb s[0] = 14
      · exact ⟨[-1], 1, 0, Or.inl rfl, by omega, by omega, Nat.le_refl 1, fun w => pieceS_d2 s w hs p1 p2 c2, one _ (bad (by omega))⟩
      by_cases c3 : nb s[0] = 15
      · exact ⟨[-1], 1, 0, Or.inl rfl, by omega, by omega, Nat.le_refl 1, fun w => pieceS_d3 s w hs p1 p2 c3, one _ (bad (by omega))⟩
      refine ⟨[nb s[0]], 1, 0, Or.inl rfl, by omega, by omega, Nat.le_refl 1, fun w => pieceS_e s w hs p1 p2 f27 (by unfold nb at c1; omega) (by simpa using c2) (by simpa using c3), one _ ?_⟩
      unfold firstSh; rw [if_neg b27, if_neg (by simp), if_neg (by omega)]
    · have e0 : ((1 : Int) == 1) = true := rfl
      rw [e0]
      by_cases c1 : nb s[0] = 10
      · refine ⟨[10], 1, 0, Or.inl rfl, by omega, by omega, Nat.le_refl 1, fun w => pieceS_f s w hs p1 p2 c1, ?_⟩
        have : firstSh true s[0] = ((false, .none), [10]) := by unfold firstSh firstD; rw [if_neg b27, if_pos rfl, if_pos c1, c1]
        conv => lhs; rw [hl, sh_first, this]
        rfl
      have f10 : ((s[0].toNat : Int) == 10) = false := by simpa using c1
      by_cases c2 : (33 : Int) ≤ nb s[0] ∧ nb s[0] ≤ 126
      · have hd : decS (true, .none) s.data.toList = decS (true, .half s[0]) (s.data.toList.drop 1) := by conv => lhs; rw [hl, sh_half _ _ c2.1 c2.2]
        have hok : shOk (true, .half s[0]) := ⟨rfl, c2.1, c2.2⟩
        by_cases hz : 1 < s.size
        · have hg := gl_at s 1 hz
          have hl1 := list_of1 s hz
          have hc := nb_lt s[1]; have hc0 := nb_nonneg s[1]
          by_cases a1 : (33 : Int) ≤ nb s[1] ∧ nb s[1] ≤ 126
          · refine ⟨[(12288 : Int) + (94 : Int) * (nb s[0] - (33 : Int)) + gl s 1 - 33], 2, 1, Or.inr rfl, by omega, by omega, Nat.le_refl 1, fun w => pieceS_h s w hs p1 p2 f27 f10 c2.1 c2.2 (by omega) (by omega), ?_⟩
            have : shOffer (true, .half s[0]) s[1] = ((true, .none), [(12288 : Int) + (94 : Int) * (nb s[0] - (33 : Int)) + nb s[1] - 33], false) := by simp only [shOffer]; unfold secondSh; rw [if_pos a1]
            rw [hd, hl1, decS_once _ this, hg]; rfl
          have sec : secondSh s[0] s[1] = ([-1], decide (nb s[1] = 27)) := by unfold secondSh; rw [if_neg a1]
          by_cases a2 : nb s[1] = 27
          · refine ⟨[-1], 1, 1, Or.inr rfl, by omega, by omega, Nat.le_refl 1, fun w => pieceS_i1 s w hs p1 p2 f27 f10 c2.1 c2.2 (by omega), ?_⟩
            have : shOffer (true, .half s[0]) s[1] = ((true, .none), [-1], true) := by simp only [shOffer]; rw [sec]; simp [a2]
            rw [hd, hl1, decS_refuse _ hok this]; rfl
          · refine ⟨[-1], 2, 1, Or.inr rfl, by omega, by omega, Nat.le_refl 1, fun w => pieceS_j s w hs p1 p2 f27 f10 c2.1 c2.2 (by omega) (by rw [hg]; simpa using a2) (by omega), ?_⟩
            have : shOffer (true, .half s[0]) s[1] = ((true, .none), [-1], false) := by simp only [shOffer]; rw [sec]; simp [a2]
            rw [hd, hl1, decS_once _ this]; rfl
        · have hg := gl_off s 1 (by omega)
          refine ⟨[-1], 1, 1, Or.inr rfl, by omega, by omega, Nat.le_refl 1, fun w => pieceS_i2 s w hs p1 p2 f27 f10 c2.1 c2.2 (by omega), ?_⟩
          rw [hd, list_end s 1 (by omega), decS_nil, decS_nil]; rfl
      · refine ⟨[-1], 1, 1, Or.inr rfl, by omega, by omega, Nat.le_refl 1, fun w => pieceS_g s w hs p1 p2 f27 f10 c2, ?_⟩
        have : firstSh true s[0] = ((true, .none), [-1]) := by unfold firstSh firstD; rw [if_neg b27, if_pos rfl, if_neg c1, if_neg c2]
        conv => lhs; rw [hl, sh_first, this]
        rfl
end Go.Proofs.Ytloaemijhggheaa
