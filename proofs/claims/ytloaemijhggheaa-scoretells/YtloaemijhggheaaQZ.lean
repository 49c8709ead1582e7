/- 4 texts of this proof in one file: ScR4, ScR2, ScR3, ScT. -/
import Derived.Test.YtloaemijhggheaaScR
import Derived.Test.YtloaemijhggheaaAutoAW
import Derived.Test.YtloaemijhggheaaQC
import Derived.Test.YtloaemijhggheaaScK
import Derived.Test.YtloaemijhggheaaScA
/- The reference's WeightOf, for every number. -/
namespace Go.Proofs.Ytloaemijhggheaa
open Go.RowKit

set_option maxRecDepth 100000 in
set_option maxHeartbeats 4000000 in
theorem weightOf_no (e a b x y : Int) (w : World) (h1 : (e == 1) = false) (h2 : (e == 2) = false) (h3 : (e == 3) = false) (h4 : (e == 4) = false) (h5 : (e == 5) = false) (h6 : (e == 6) = false) (H1 : Hid (∀ w1, Calls Try.prog 35 #[.int .i64 a] w1 (PI w1 x))) (H2 : Hid (∀ w1, Calls Try.prog 35 #[.int .i64 b] w1 (PI w1 y))) : Calls Try.prog 37 #[.int .i64 e, .int .i64 a, .int .i64 b] w (PI w 0) := by
  go_enter Try.func37, Try.ntmps37
  go_wp2_with fail
  refine (H1.out _).mono ?_
  rintro r w1 ⟨rfl, rfl⟩
  go_wp2_with fail
  refine (H2.out _).mono ?_
  rintro r w1 ⟨rfl, rfl⟩
  go_wp2_with fail
  all_goals (go_ret; exact ⟨rfl, rfl⟩)
theorem weightOf_any (e a b : Int) (w : World) : Calls Try.prog 37 #[.int .i64 e, .int .i64 a, .int .i64 b] w (PI w (weiN e a b)) := by
  by_cases he : e = 1 ∨ e = 2 ∨ e = 3 ∨ e = 4 ∨ e = 5 ∨ e = 6
  · rw [← cWei_eq]
    exact weightOf_at e a b _ _ w he (hid fun w1 => classOf_any a w1) (hid fun w1 => classOf_any b w1)
  · have h := weightOf_no e a b _ _ w (by simp; omega) (by simp; omega) (by simp; omega) (by simp; omega) (by simp; omega) (by simp; omega) (hid fun w1 => classOf_any a w1) (hid fun w1 => classOf_any b w1)
    rw [show weiN e a b = 0 from by
      unfold weiN
      rw [if_neg (by omega), if_neg (by omega), if_neg (by omega), if_neg (by omega), if_neg (by omega), if_neg (by omega)]]
    exact h
end Go.Proofs.Ytloaemijhggheaa

/- The reference's right: are bytes valid? -/
namespace Go.Proofs.Ytloaemijhggheaa
open Go.RowKit
attribute [local go_sem ↓] run_eqS run_neS
attribute [local go_sem] byte_at0 byte_at20 byte_at21 w64 S.v and63 and31 and15 and7 kw kw256

theorem hasBad_app (l m : List Int) : hasBad (l ++ m) = (hasBad l || hasBad m) := by unfold hasBad; rw [List.any_append]
/-- What holds at the head of right's loop. -/
def RightR {M : Mach} (qm : Int → M.Q) (okm : Int → Prop) (v : Bool) (w : World) (s1 s3 : Value) (wr : World) : Prop :=
  ∃ (t : ByteArray) (md : Int), s1 = .string t ∧ s3 = .int .i64 md ∧ Below w.heap.size w wr ∧ okm md ∧ t.size ≤ 4000 ∧ hasBad (M.dec (qm md) t.data.toList) = v
set_option maxRecDepth 100000 in
set_option maxHeartbeats 1000000 in
theorem right_any {e : Int} {M : Mach} {qm : Int → M.Q} {okm : Int → Prop} (P : Pieces e M qm okm) (s : ByteArray) (w : World) (hs : s.size ≤ 4000) : Calls Try.prog 65 #[.int .i64 e, .string s] w (PV w (.bool (!(hasBad (M.dec M.init s.data.toList))))) := by
  obtain ⟨v, hv⟩ : ∃ v, v = hasBad (M.dec M.init s.data.toList) := ⟨_, rfl⟩
  rw [← hv]
  have hR : RightR qm okm v w (.string s) (.int .i64 0) w := ⟨s, 0, rfl, rfl, Below.refl _ _, P.start.2, hs, by rw [P.start.1, hv]⟩
  replace hR := hid hR
  clear hv
  go_enter Try.func65, Try.ntmps65
  go_wp2_with fail
  go_loopw [1, 5] (fun s1 s3 wr => RightR qm okm v w s1 s3 wr) (fun s1 _ _ => strLen s1)
  case atStart => exact hR.out
  case round =>
    clear hR
    obtain ⟨t, md, rfl, rfl, hb, hm, hl, hd⟩ := hrel
    by_cases h0 : 0 < t.size
    · obtain ⟨l, n, m, hm2, hn1, hn2, hl1, HP, hd2⟩ := P.piece t md h0 (by omega) hm
      rw [hd2, hasBad_app] at hd
      replace HP := hid HP
      clear hd2
      have e0 : (t.toList == []) = false := by
        cases hx : t.toList == [] with
        | false => rfl
        | true =>
          have hz := congrArg List.length (eq_of_beq hx)
          rw [ByteArray.toList_eq] at hz
          have hz2 : t.size = 0 := hz
          omega
      have e1 : (!(t.toList == [])) = true := by rw [e0]; rfl
      have e2 : t.toList.isEmpty = false := by cases hk : t.toList <;> simp_all
      have e3 : ¬ t.toList = [] := by intro x; rw [x] at e0; cases e0
      have b0 : (0 : Int) ≤ (n : Int) := by omega
      have b1 : (n : Int) ≤ (t.size : Int) := by omega
      go_wp2_with fail
      refine (HP.out _).mono ?_
      rintro r w1 ⟨v1, rfl, ho1, hb1⟩
      have hB := hb.trans (hb1.mono hb.size)
      match l, hl1 with
      | [], _ =>
        obtain ⟨A, c, rfl⟩ := ho1.shape
        simp only [List.length_nil]
        clear ho1
        replace hd := hid hd
        go_wp2_with fail
        go_loop [23] (fun i => i = .int .i64 0) (fun _ => 0)
        case atStart => rfl
        case round =>
          subst hrel
          go_wp2_with fail
          go_roundw
          case rel => exact ⟨t.extract n t.size, m, rfl, rfl, hB, hm2, by rw [cut_size t n hn2]; omega, by rw [cut_list]; exact hd.out⟩
          case measure => simp only [strLen]; rw [cut_size t n hn2]; omega
      | [x], _ =>
        obtain ⟨g, cap, rfl, _, hc⟩ := ho1.rows (by simp)
        have hc0 := hc 0 (by simp)
        clear hc ho1
        simp only [List.length_cons, List.length_nil, Nat.zero_add] at *
        by_cases h1 : x = -1
        · subst h1
          obtain rfl : true = v := hd
          go_wp2_with fail
          go_loop [23] (fun i => i = .int .i64 0) (fun _ => 0)
          case atStart => rfl
          case round =>
            subst hrel
            go_wp2_with fail
            go_ret
            exact ⟨rfl, hB⟩
        · have h2 : (x == -1) = false := by simpa using h1
          have hz : hasBad [x] = false := by unfold hasBad; simp [h1]
          rw [hz, Bool.false_or] at hd
          replace hd := hid hd
          go_wp2_with fail
          go_loop [23] (fun i => i = .int .i64 0 ∨ i = .int .i64 1) (fun i => 1 - (intOf i).toNat)
          case atStart => exact Or.inl rfl
          case round =>
            rcases hrel with rfl | rfl
            · go_wp2_with fail
              go_round
              case rel => exact Or.inr rfl
              case measure => simp [intOf]
            · go_wp2_with fail
              go_roundw
              case rel => exact ⟨t.extract n t.size, m, rfl, rfl, hB, hm2, by rw [cut_size t n hn2]; omega, by rw [cut_list]; exact hd.out⟩
              case measure => simp only [strLen]; rw [cut_size t n hn2]; omega
    · obtain rfl : t = ⟨#[]⟩ := by
        obtain ⟨⟨l⟩⟩ := t
        match l with
        | [] => rfl
        | a :: r => exact absurd (Nat.succ_pos _) h0
      have hx : M.dec (qm md) (⟨#[]⟩ : ByteArray).data.toList = [] := by rw [show (⟨#[]⟩ : ByteArray).data.toList = [] from rfl, Mach.dec_nil]; exact P.done md hm
      rw [hx] at hd
      obtain rfl : false = v := hd
      clear hx h0
      go_wp2_with fail
      go_ret
      exact ⟨rfl, hb⟩
end Go.Proofs.Ytloaemijhggheaa

/- The reference's BestOf. -/
namespace Go.Proofs.Ytloaemijhggheaa
open Go.RowKit
attribute [local go_sem ↓] run_eqS run_neS
attribute [local go_sem] byte_at0 byte_at20 byte_at21 w64 S.v and63 and31 and15 and7 kw kw256

/-- Right bytes, as the automata tell. -/
def okL (l : List UInt8) (e : Int) : Bool := aEnds e (aRun e 0 l)
theorem right_all (e : Int) (h1 : 1 ≤ e) (h2 : e ≤ 6) (s : ByteArray) (w : World) (hs : s.size ≤ 4000) : Calls Try.prog 65 #[.int .i64 e, .string s] w (PV w (.bool (okL s.data.toList e))) := by
  obtain ⟨M, qm, okm, P, _, hA⟩ := refA_of e h1 h2
  unfold okL
  rw [hA]
  exact right_any P s w hs
/-- What holds at the head of BestOf's loop. -/
def BoR (s : ByteArray) (w : World) (q y e : Value) (wr : World) : Prop :=
  ∃ (k : Nat) (E yv : Int), k ≤ 6 ∧ E = (k : Int) + 1 ∧ e = .int .i64 E ∧ q = .int .i64 (bestK (okL s.data.toList) (smL s.data.toList) k) ∧ y = .int .i64 yv ∧ (bestK (okL s.data.toList) (smL s.data.toList) k = 0 ∨ yv = smL s.data.toList (bestK (okL s.data.toList) (smL s.data.toList) k)) ∧ Below w.heap.size w wr
/-- What holds at the head of the sum's loop. -/
def BoS (s : ByteArray) (E : Int) (w : World) (n i : Value) (wr : World) : Prop :=
  ∃ k : Nat, (k = 0 ∨ k < s.size) ∧ i = .int .i64 ((k : Int) + 1) ∧ n = .int .i64 (sumN E (s.data.toList.take (k + 1))) ∧ Below w.heap.size w wr
set_option maxRecDepth 100000 in
set_option maxHeartbeats 1000000 in
theorem bestOf_any (s : ByteArray) (w : World) (hs : s.size ≤ 4000) : Calls Try.prog 39 #[.string s] w (PV w (.int .i64 (bestL s.data.toList))) := by
  have hR : BoR s w (.int .i64 0) (.int .i64 0) (.int .i64 1) w := ⟨0, 1, 0, by omega, rfl, rfl, rfl, rfl, Or.inl rfl, Below.refl _ _⟩
  replace hR := hid hR
  go_enter Try.func39, Try.ntmps39
  go_wp2_with fail
  go_loopw [3, 4, 5] (fun q y e wr => BoR s w q y e wr) (fun _ _ e _ => (7 - intOf e).toNat)
  case atStart => exact hR.out
  case round =>
    clear hR
    obtain ⟨k, E, yv, hk, hE, rfl, rfl, rfl, hy, hb⟩ := hrel
    obtain rfl | hk2 : k = 6 ∨ k < 6 := by omega
    · have hx : bestL s.data.toList = bestK (okL s.data.toList) (smL s.data.toList) 6 := bestE_K _ _
      subst hE
      generalize bestK (okL s.data.toList) (smL s.data.toList) 6 = q at *
      replace hx := hid hx
      go_wp2_with fail
      go_ret
      exact ⟨by rw [hx.out]; rfl, hb⟩
    have hn : bestK (okL s.data.toList) (smL s.data.toList) (k + 1) = upB (okL s.data.toList) (smL s.data.toList) E (bestK (okL s.data.toList) (smL s.data.toList) k) := by rw [hE]; rfl
    generalize bestK (okL s.data.toList) (smL s.data.toList) k = q at *
    unfold upB at hn
    have hE1 : 1 ≤ E := by omega
    have hE6 : E ≤ 6 := by omega
    have HR := hid (fun w1 => right_all E hE1 hE6 s w1 hs)
    have hS0 : ∀ wr, Below w.heap.size w wr → BoS s E w (.int .i64 0) (.int .i64 1) wr := fun wr h => ⟨0, Or.inl rfl, rfl, by rw [sum_one E _ (by simp; omega)], h⟩
    replace hS0 := hid (hS0 wr hb)
    generalize okL s.data.toList E = v at *
    replace hE := hid hE
    replace hn := hid hn
    replace hy := hid hy
    go_wp2_with fail
    clear hb
    go_loopw [6, 7] (fun n i wr => BoS s E w n i wr) (fun _ i _ => s.size - (intOf i).toNat)
    case atStart => exact hS0.out
    case round =>
      clear hS0
      obtain ⟨j, hj, rfl, rfl, hb⟩ := hrel
      by_cases hlt : j + 1 < s.size
      · have b0 : (0 : Int) ≤ (j : Int) := by omega
        have b1 : (j : Int) + 1 < (s.size : Int) := by omega
        have b2 : (j : Int) < (s.size : Int) := by omega
        have b3 : (0 : Int) ≤ (j : Int) + 1 := by omega
        have hs1 := sum_next s j hlt E
        have hin := sumN_in E (s.data.toList.take (j + 1 + 1))
        have hw := wr_in (sumN E (s.data.toList.take (j + 1 + 1))) (by simp at hin; omega) (by simp at hin; omega)
        have hwk := wr_in (j : Int) (by omega) (by omega)
        have HW : ∀ w1, Calls Try.prog 37 #[.int .i64 E, .int .i64 ((s[j]'(by omega)).toNat : Int), .int .i64 ((s[j + 1]).toNat : Int)] w1 (fun r w' => r = .returned (.int .i64 (weiN E ((s[j]'(by omega)).toNat : Int) ((s[j + 1]).toNat : Int))) ∧ w' = w1) := fun w1 => (weightOf_any E ((s[j]'(by omega)).toNat : Int) ((s[j + 1]).toNat : Int) w1).mono fun _ _ h => ⟨h.1, h.2.symm⟩
        replace HW := hid HW
        generalize sumN E (s.data.toList.take (j + 1)) = x at *
        generalize hz : sumN E (s.data.toList.take (j + 1 + 1)) = z at *
        replace hz := hid hz
        clear hin
        go_wp2_with fail
        go_quiet (first | (go_at_call 37; exact Calls.quiet_of_same (HW.out _)))
        go_wp2_with fail
        exact ⟨⟨j + 1, Or.inr hlt, by go_num, by rw [hz.out], Below.dN hb _⟩, by simp [intOf]; omega⟩
      · have hx : s.data.toList.take (j + 1) = s.data.toList := List.take_of_length_le (by simp; omega)
        rw [hx]
        clear hx
        change Hid (bestK (okL s.data.toList) (smL s.data.toList) (k + 1) = if v = true ∧ (q = 0 ∨ smL s.data.toList q < sumN E s.data.toList) then E else q) at hn
        have hsx : smL s.data.toList E = sumN E s.data.toList := rfl
        generalize sumN E s.data.toList = x at *
        replace hsx := hid hsx
        have b1 : ¬ (j : Int) + 1 < (s.size : Int) := by omega
        cases v with
        | false =>
          have hn2 := hid (hn.out.trans (if_neg (fun h => by cases h.1)))
          clear hn
          go_wp2_with fail
          refine (HR.out _).mono ?_
          rintro r w1 ⟨rfl, hb1⟩
          go_wp2_with fail
          exact ⟨⟨k + 1, E + 1, yv, by omega, by rw [hE.out]; rfl, rfl, by rw [hn2.out], rfl, by rw [hn2.out]; exact hy.out, hb.trans (hb1.mono hb.size)⟩, by simp [intOf]; omega⟩
        | true =>
          by_cases h0 : q = 0
          · subst h0
            have hn2 := hid (hn.out.trans (if_pos ⟨rfl, Or.inl rfl⟩))
            clear hn
            go_wp2_with fail
            refine (HR.out _).mono ?_
            rintro r w1 ⟨rfl, hb1⟩
            go_wp2_with fail
            exact ⟨⟨k + 1, E + 1, x, by omega, by rw [hE.out]; rfl, rfl, by rw [hn2.out], rfl, by rw [hn2.out]; exact Or.inr hsx.out.symm, hb.trans (hb1.mono hb.size)⟩, by simp [intOf]; omega⟩
          · have hq : (q == 0) = false := by simpa using h0
            obtain rfl := hy.out.resolve_left h0
            generalize hyv : smL s.data.toList q = yv at *
            replace hyv := hid hyv
            by_cases h2 : yv < x
            · have hd : decide (yv < x) = true := decide_eq_true h2
              have hn2 := hid (hn.out.trans (if_pos ⟨rfl, Or.inr h2⟩))
              clear hn hy
              go_wp2_with fail
              refine (HR.out _).mono ?_
              rintro r w1 ⟨rfl, hb1⟩
              go_wp2_with fail
              exact ⟨⟨k + 1, E + 1, x, by omega, by rw [hE.out]; rfl, rfl, by rw [hn2.out], rfl, by rw [hn2.out]; exact Or.inr hsx.out.symm, hb.trans (hb1.mono hb.size)⟩, by simp [intOf]; omega⟩
            · have hd : decide (yv < x) = false := decide_eq_false h2
              have hn2 := hid (hn.out.trans (if_neg (fun h => h.2.elim h0 h2)))
              clear hn hy
              go_wp2_with fail
              refine (HR.out _).mono ?_
              rintro r w1 ⟨rfl, hb1⟩
              go_wp2_with fail
              exact ⟨⟨k + 1, E + 1, yv, by omega, by rw [hE.out]; rfl, rfl, by rw [hn2.out], rfl, by rw [hn2.out]; exact Or.inr hyv.out.symm, hb.trans (hb1.mono hb.size)⟩, by simp [intOf]; omega⟩
end Go.Proofs.Ytloaemijhggheaa

/- The walk over the law ScoreTells. -/
namespace Go.Proofs.Ytloaemijhggheaa
open Go.RowKit
attribute [local go_sem ↓] run_eqS run_neS
attribute [local go_sem] byte_at0 byte_at20 byte_at21 w64 S.v and63 and31 and15 and7 kw kw256

theorem plainText2 : bestL [112, 108, 97, 105, 110, 32, 116, 101, 120, 116] = 1 := by decide +kernel
theorem weight272 : weiN 2 27 40 = 8 := by decide +kernel
set_option maxRecDepth 100000 in
set_option maxHeartbeats 400000 in
theorem scores_law (w : World) : Calls Try.prog 33 #[] w (PV w (.bool true)) := by
  have H := fun w1 => whole_sc ⟨#[112, 108, 97, 105, 110, 32, 116, 101, 120, 116]⟩ w1 (by decide)
  change ∀ w1, Calls Try.prog 38 #[.string ⟨#[112, 108, 97, 105, 110, 32, 116, 101, 120, 116]⟩] w1 (PV w1 (.int .i64 (bestL [112, 108, 97, 105, 110, 32, 116, 101, 120, 116]))) at H
  rw [plainText2] at H
  replace H := hid H
  have H2 := fun w1 => weight_any 2 27 40 w1 (by decide) (by decide)
  rw [weight272] at H2
  replace H2 := hid H2
  go_enter Try.func33, Try.ntmps33
  go_wp2_with fail
  refine (H.out _).mono ?_
  rintro e w1 ⟨rfl, hb⟩
  go_wp2_with fail
  refine (H2.out _).mono ?_
  rintro e w2 ⟨rfl, rfl⟩
  go_wp2_with fail
  go_ret
  exact ⟨rfl, hb⟩
set_option maxRecDepth 100000 in
set_option maxHeartbeats 400000 in
theorem st_long (e a b : Int) (s : ByteArray) (w : World) (hd : decide ((4000 : Int) < (s.size : Int)) = true) : Calls Try.prog 12 #[.int .i64 e, .int .i64 a, .int .i64 b, .string s] w (PV w (.bool true)) := by
  go_enter Try.func12, Try.ntmps12
  go_wp2_with fail
  refine (scores_law _).mono ?_
  rintro r w1 ⟨rfl, hb⟩
  go_wp2_with fail
  go_ret
  exact ⟨rfl, hb⟩
set_option maxRecDepth 100000 in
set_option maxHeartbeats 400000 in
theorem st_in (e a b x y z : Int) (s : ByteArray) (w : World) (hd : decide ((4000 : Int) < (s.size : Int)) = false) (t0 : decide (a < 0) = false) (t1 : decide (255 < a) = false) (t2 : decide (b < 0) = false) (t3 : decide (255 < b) = false)
    (H1 : Hid (∀ w1, Calls Try.prog 34 #[.int .i64 a] w1 (PI w1 x))) (H2 : Hid (∀ w1, Calls Try.prog 35 #[.int .i64 a] w1 (PI w1 x)))
    (H3 : Hid (∀ w1, Calls Try.prog 36 #[.int .i64 e, .int .i64 a, .int .i64 b] w1 (PI w1 y))) (H4 : Hid (∀ w1, Calls Try.prog 37 #[.int .i64 e, .int .i64 a, .int .i64 b] w1 (PI w1 y)))
    (H5 : Hid (∀ w1, Calls Try.prog 38 #[.string s] w1 (PV w1 (.int .i64 z)))) (H6 : Hid (∀ w1, Calls Try.prog 39 #[.string s] w1 (PV w1 (.int .i64 z)))) :
    Calls Try.prog 12 #[.int .i64 e, .int .i64 a, .int .i64 b, .string s] w (PV w (.bool true)) := by
  have ex : (x == x) = true := by simp
  have ey : (y == y) = true := by simp
  have ez : (z == z) = true := by simp
  go_enter Try.func12, Try.ntmps12
  go_wp2_with fail
  refine (H1.out _).mono ?_
  rintro r w1 ⟨rfl, rfl⟩
  go_wp2_with fail
  refine (H2.out _).mono ?_
  rintro r w1 ⟨rfl, rfl⟩
  go_wp2_with fail
  refine (H3.out _).mono ?_
  rintro r w1 ⟨rfl, rfl⟩
  go_wp2_with fail
  refine (H4.out _).mono ?_
  rintro r w1 ⟨rfl, rfl⟩
  go_wp2_with fail
  refine (H5.out _).mono ?_
  rintro r w1 ⟨rfl, hb1⟩
  go_wp2_with fail
  refine (H6.out _).mono ?_
  rintro r w2 ⟨rfl, hb2⟩
  replace hb2 := hb1.trans (hb2.mono hb1.size)
  go_wp2_with fail
  refine (scores_law _).mono ?_
  rintro r w3 ⟨rfl, hb3⟩
  replace hb3 := hb2.trans (hb3.mono hb2.size)
  go_wp2_with fail
  go_ret
  exact ⟨rfl, hb3⟩
set_option maxRecDepth 100000 in
set_option maxHeartbeats 400000 in
theorem st_out0 (e a b x y z : Int) (s : ByteArray) (w : World) (hd : decide ((4000 : Int) < (s.size : Int)) = false)  (t0 : decide (a < 0) = true)
    (H1 : Hid (∀ w1, Calls Try.prog 34 #[.int .i64 0] w1 (PI w1 x))) (H2 : Hid (∀ w1, Calls Try.prog 35 #[.int .i64 0] w1 (PI w1 x)))
    (H3 : Hid (∀ w1, Calls Try.prog 36 #[.int .i64 e, .int .i64 0, .int .i64 0] w1 (PI w1 y))) (H4 : Hid (∀ w1, Calls Try.prog 37 #[.int .i64 e, .int .i64 0, .int .i64 0] w1 (PI w1 y)))
    (H5 : Hid (∀ w1, Calls Try.prog 38 #[.string s] w1 (PV w1 (.int .i64 z)))) (H6 : Hid (∀ w1, Calls Try.prog 39 #[.string s] w1 (PV w1 (.int .i64 z)))) :
    Calls Try.prog 12 #[.int .i64 e, .int .i64 a, .int .i64 b, .string s] w (PV w (.bool true)) := by
  have ex : (x == x) = true := by simp
  have ey : (y == y) = true := by simp
  have ez : (z == z) = true := by simp
  go_enter Try.func12, Try.ntmps12
  go_wp2_with fail
  refine (H1.out _).mono ?_
  rintro r w1 ⟨rfl, rfl⟩
  go_wp2_with fail
  refine (H2.out _).mono ?_
  rintro r w1 ⟨rfl, rfl⟩
  go_wp2_with fail
  refine (H3.out _).mono ?_
  rintro r w1 ⟨rfl, rfl⟩
  go_wp2_with fail
  refine (H4.out _).mono ?_
  rintro r w1 ⟨rfl, rfl⟩
  go_wp2_with fail
  refine (H5.out _).mono ?_
  rintro r w1 ⟨rfl, hb1⟩
  go_wp2_with fail
  refine (H6.out _).mono ?_
  rintro r w2 ⟨rfl, hb2⟩
  replace hb2 := hb1.trans (hb2.mono hb1.size)
  go_wp2_with fail
  refine (scores_law _).mono ?_
  rintro r w3 ⟨rfl, hb3⟩
  replace hb3 := hb2.trans (hb3.mono hb2.size)
  go_wp2_with fail
  go_ret
  exact ⟨rfl, hb3⟩
set_option maxRecDepth 100000 in
set_option maxHeartbeats 400000 in
theorem st_out1 (e a b x y z : Int) (s : ByteArray) (w : World) (hd : decide ((4000 : Int) < (s.size : Int)) = false) (t0 : decide (a < 0) = false) (t1 : decide (255 < a) = true)
    (H1 : Hid (∀ w1, Calls Try.prog 34 #[.int .i64 0] w1 (PI w1 x))) (H2 : Hid (∀ w1, Calls Try.prog 35 #[.int .i64 0] w1 (PI w1 x)))
    (H3 : Hid (∀ w1, Calls Try.prog 36 #[.int .i64 e, .int .i64 0, .int .i64 0] w1 (PI w1 y))) (H4 : Hid (∀ w1, Calls Try.prog 37 #[.int .i64 e, .int .i64 0, .int .i64 0] w1 (PI w1 y)))
    (H5 : Hid (∀ w1, Calls Try.prog 38 #[.string s] w1 (PV w1 (.int .i64 z)))) (H6 : Hid (∀ w1, Calls Try.prog 39 #[.string s] w1 (PV w1 (.int .i64 z)))) :
    Calls Try.prog 12 #[.int .i64 e, .int .i64 a, .int .i64 b, .string s] w (PV w (.bool true)) := by
  have ex : (x == x) = true := by simp
  have ey : (y == y) = true := by simp
  have ez : (z == z) = true := by simp
  go_enter Try.func12, Try.ntmps12
  go_wp2_with fail
  refine (H1.out _).mono ?_
  rintro r w1 ⟨rfl, rfl⟩
  go_wp2_with fail
  refine (H2.out _).mono ?_
  rintro r w1 ⟨rfl, rfl⟩
  go_wp2_with fail
  refine (H3.out _).mono ?_
  rintro r w1 ⟨rfl, rfl⟩
  go_wp2_with fail
  refine (H4.out _).mono ?_
  rintro r w1 ⟨rfl, rfl⟩
  go_wp2_with fail
  refine (H5.out _).mono ?_
  rintro r w1 ⟨rfl, hb1⟩
  go_wp2_with fail
  refine (H6.out _).mono ?_
  rintro r w2 ⟨rfl, hb2⟩
  replace hb2 := hb1.trans (hb2.mono hb1.size)
  go_wp2_with fail
  refine (scores_law _).mono ?_
  rintro r w3 ⟨rfl, hb3⟩
  replace hb3 := hb2.trans (hb3.mono hb2.size)
  go_wp2_with fail
  go_ret
  exact ⟨rfl, hb3⟩
set_option maxRecDepth 100000 in
set_option maxHeartbeats 400000 in
theorem st_out2 (e a b x y z : Int) (s : ByteArray) (w : World) (hd : decide ((4000 : Int) < (s.size : Int)) = false) (t0 : decide (a < 0) = false) (t1 : decide (255 < a) = false) (t2 : decide (b < 0) = true)
    (H1 : Hid (∀ w1, Calls Try.prog 34 #[.int .i64 0] w1 (PI w1 x))) (H2 : Hid (∀ w1, Calls Try.prog 35 #[.int .i64 0] w1 (PI w1 x)))
    (H3 : Hid (∀ w1, Calls Try.prog 36 #[.int .i64 e, .int .i64 0, .int .i64 0] w1 (PI w1 y))) (H4 : Hid (∀ w1, Calls Try.prog 37 #[.int .i64 e, .int .i64 0, .int .i64 0] w1 (PI w1 y)))
    (H5 : Hid (∀ w1, Calls Try.prog 38 #[.string s] w1 (PV w1 (.int .i64 z)))) (H6 : Hid (∀ w1, Calls Try.prog 39 #[.string s] w1 (PV w1 (.int .i64 z)))) :
    Calls Try.prog 12 #[.int .i64 e, .int .i64 a, .int .i64 b, .string s] w (PV w (.bool true)) := by
  have ex : (x == x) = true := by simp
  have ey : (y == y) = true := by simp
  have ez : (z == z) = true := by simp
  go_enter Try.func12, Try.ntmps12
  go_wp2_with fail
  refine (H1.out _).mono ?_
  rintro r w1 ⟨rfl, rfl⟩
  go_wp2_with fail
  refine (H2.out _).mono ?_
  rintro r w1 ⟨rfl, rfl⟩
  go_wp2_with fail
  refine (H3.out _).mono ?_
  rintro r w1 ⟨rfl, rfl⟩
  go_wp2_with fail
  refine (H4.out _).mono ?_
  rintro r w1 ⟨rfl, rfl⟩
  go_wp2_with fail
  refine (H5.out _).mono ?_
  rintro r w1 ⟨rfl, hb1⟩
  go_wp2_with fail
  refine (H6.out _).mono ?_
  rintro r w2 ⟨rfl, hb2⟩
  replace hb2 := hb1.trans (hb2.mono hb1.size)
  go_wp2_with fail
  refine (scores_law _).mono ?_
  rintro r w3 ⟨rfl, hb3⟩
  replace hb3 := hb2.trans (hb3.mono hb2.size)
  go_wp2_with fail
  go_ret
  exact ⟨rfl, hb3⟩
set_option maxRecDepth 100000 in
set_option maxHeartbeats 400000 in
theorem st_out3 (e a b x y z : Int) (s : ByteArray) (w : World) (hd : decide ((4000 : Int) < (s.size : Int)) = false) (t0 : decide (a < 0) = false) (t1 : decide (255 < a) = false) (t2 : decide (b < 0) = false) (t3 : decide (255 < b) = true)
    (H1 : Hid (∀ w1, Calls Try.prog 34 #[.int .i64 0] w1 (PI w1 x))) (H2 : Hid (∀ w1, Calls Try.prog 35 #[.int .i64 0] w1 (PI w1 x)))
    (H3 : Hid (∀ w1, Calls Try.prog 36 #[.int .i64 e, .int .i64 0, .int .i64 0] w1 (PI w1 y))) (H4 : Hid (∀ w1, Calls Try.prog 37 #[.int .i64 e, .int .i64 0, .int .i64 0] w1 (PI w1 y)))
    (H5 : Hid (∀ w1, Calls Try.prog 38 #[.string s] w1 (PV w1 (.int .i64 z)))) (H6 : Hid (∀ w1, Calls Try.prog 39 #[.string s] w1 (PV w1 (.int .i64 z)))) :
    Calls Try.prog 12 #[.int .i64 e, .int .i64 a, .int .i64 b, .string s] w (PV w (.bool true)) := by
  have ex : (x == x) = true := by simp
  have ey : (y == y) = true := by simp
  have ez : (z == z) = true := by simp
  go_enter Try.func12, Try.ntmps12
  go_wp2_with fail
  refine (H1.out _).mono ?_
  rintro r w1 ⟨rfl, rfl⟩
  go_wp2_with fail
  refine (H2.out _).mono ?_
  rintro r w1 ⟨rfl, rfl⟩
  go_wp2_with fail
  refine (H3.out _).mono ?_
  rintro r w1 ⟨rfl, rfl⟩
  go_wp2_with fail
  refine (H4.out _).mono ?_
  rintro r w1 ⟨rfl, rfl⟩
  go_wp2_with fail
  refine (H5.out _).mono ?_
  rintro r w1 ⟨rfl, hb1⟩
  go_wp2_with fail
  refine (H6.out _).mono ?_
  rintro r w2 ⟨rfl, hb2⟩
  replace hb2 := hb1.trans (hb2.mono hb1.size)
  go_wp2_with fail
  refine (scores_law _).mono ?_
  rintro r w3 ⟨rfl, hb3⟩
  replace hb3 := hb2.trans (hb3.mono hb2.size)
  go_wp2_with fail
  go_ret
  exact ⟨rfl, hb3⟩
theorem scoreTells_true (e a b : Int) (s : ByteArray) (w : World) : Calls Try.prog 12 #[.int .i64 e, .int .i64 a, .int .i64 b, .string s] w (PV w (.bool true)) := by
  by_cases hd : (4000 : Int) < (s.size : Int)
  · exact st_long e a b s w (decide_eq_true hd)
  have hs : s.size ≤ 4000 := by omega
  have hd' := decide_eq_false hd
  have h5 := hid (fun w1 => whole_sc s w1 hs)
  have h6 := hid (fun w1 => bestOf_any s w1 hs)
  have h0 : (0 : Int) ≤ 0 := by omega
  have z1 := hid (fun w1 => class_any 0 w1 h0)
  have z2 := hid (fun w1 => classOf_any 0 w1)
  have z3 := hid (fun w1 => weight_any e 0 0 w1 h0 h0)
  have z4 := hid (fun w1 => weightOf_any e 0 0 w1)
  by_cases t0 : a < 0
  · exact st_out0 e a b _ _ _ s w hd' (decide_eq_true t0) z1 z2 z3 z4 h5 h6
  by_cases t1 : 255 < a
  · exact st_out1 e a b _ _ _ s w hd' (decide_eq_false t0) (decide_eq_true t1) z1 z2 z3 z4 h5 h6
  by_cases t2 : b < 0
  · exact st_out2 e a b _ _ _ s w hd' (decide_eq_false t0) (decide_eq_false t1) (decide_eq_true t2) z1 z2 z3 z4 h5 h6
  by_cases t3 : 255 < b
  · exact st_out3 e a b _ _ _ s w hd' (decide_eq_false t0) (decide_eq_false t1) (decide_eq_false t2) (decide_eq_true t3) z1 z2 z3 z4 h5 h6
  exact st_in e a b _ _ _ s w hd' (decide_eq_false t0) (decide_eq_false t1) (decide_eq_false t2) (decide_eq_false t3) (hid fun w1 => class_any a w1 (by omega)) (hid fun w1 => classOf_any a w1) (hid fun w1 => weight_any e a b w1 (by omega) (by omega)) (hid fun w1 => weightOf_any e a b w1) h5 h6
end Go.Proofs.Ytloaemijhggheaa
