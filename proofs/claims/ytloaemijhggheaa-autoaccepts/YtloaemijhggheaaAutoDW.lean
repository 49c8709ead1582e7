/- The walk over the law AutoDecodes. -/
import Derived.Test.YtloaemijhggheaaErrW
import Derived.Test.YtloaemijhggheaaFewW
import Derived.Test.YtloaemijhggheaaAutoP
namespace Go.Proofs.Ytloaemijhggheaa
open Go.RowKit
attribute [local go_sem ↓] run_eqS run_neS
attribute [local go_sem] byte_at0 byte_at20 byte_at21 w64 S.v and63 and31 and15 and7 kw kw256

/-- Whether something bad is among numbers. -/
def hasBad (l : List Int) : Bool := l.any (· == -1)
theorem hasBad_iff (l : List Int) : hasBad l = true ↔ -1 ∈ l := by
  unfold hasBad
  simp
theorem AutoOf.all {e : Int} {M : Mach} {st : M.Q → Int} {gd : M.Q → Prop} (A : AutoOf e M st gd) (l : List UInt8) : aEnds e (aRun e 0 l) = !(hasBad (M.dec M.init l)) := by
  have h := A.dec l M.init A.init.2
  rw [A.init.1] at h
  have h2 := hasBad_iff (M.dec M.init l)
  cases h3 : hasBad (M.dec M.init l) with
  | true =>
    have : ¬ aEnds e (aRun e 0 l) = true := fun x => h.1 x (h2.1 h3)
    simpa using this
  | false => exact h.2 fun x => by rw [h2.2 x] at h3; cases h3
theorem auto_of (e : Int) (h1 : 1 ≤ e) (h2 : e ≤ 6) : ∃ M, Full e M ∧ (∀ l, (M.dec M.init l).length ≤ l.length) ∧ ∀ l, aEnds e (aRun e 0 l) = !(hasBad (M.dec M.init l)) := by
  obtain h | h | h | h | h | h : e = 1 ∨ e = 2 ∨ e = 3 ∨ e = 4 ∨ e = 5 ∨ e = 6 := by omega
  all_goals subst h
  · exact ⟨_, fullU, fun l => (fewU.dec conU l).1, autoU.all⟩
  · exact ⟨_, fullSh, fun l => (fewSh.dec conSh l).1, autoSh.all⟩
  · exact ⟨_, fullT, fun l => (fewT.dec conT l).1, autoT.all⟩
  · exact ⟨_, fullLat, fun l => (fewLat.dec conLat l).1, autoLat.all⟩
  · exact ⟨_, fullLo, fun l => (fewLo.dec conLo l).1, autoLo.all⟩
  · exact ⟨_, fullHi, fun l => (fewHi.dec conHi l).1, autoHi.all⟩
theorem hasBad_next (l : List Int) (k : Nat) (h : k < l.length) : hasBad (l.take (k + 1)) = (hasBad (l.take k) || l[k] == -1) := by
  unfold hasBad
  rw [List.take_add_one, List.getElem?_eq_getElem h, List.any_append]
  simp only [Option.toList, List.any_cons, List.any_nil, Bool.or_false]
theorem aEnds_none (e s : Int) (h : ¬ (1 ≤ e ∧ e ≤ 6)) : aEnds e s = false := by
  unfold aEnds
  rw [if_neg (by omega), if_neg h]

set_option maxRecDepth 100000 in
set_option maxHeartbeats 400000 in
theorem ad_long (e : Int) (s : ByteArray) (w : World) (hd : decide ((4000 : Int) < (s.size : Int)) = true) : Calls Try.prog 10 #[.int .i64 e, .string s] w fun r w' => r = .returned (.bool true) ∧ Below w.heap.size w w' := by
  go_enter Try.func10, Try.ntmps10
  go_wp2_with fail
  refine (autos_keep _).mono ?_
  rintro r w1 ⟨rfl, rfl⟩
  go_wp2_with fail
  go_ret
  exact ⟨rfl, Below.refl _ _⟩
set_option maxRecDepth 100000 in
set_option maxHeartbeats 400000 in
theorem ad_none (e : Int) (s : ByteArray) (w : World) (hd : decide ((4000 : Int) < (s.size : Int)) = false) (he : ¬ (1 ≤ e ∧ e ≤ 6)) : Calls Try.prog 10 #[.int .i64 e, .string s] w fun r w' => r = .returned (.bool true) ∧ Below w.heap.size w w' := by
  have hs : s.size < 2 ^ 60 := by simp at hd; omega
  have HF := hid (fun w1 => feedS_kind e ⟨#[]⟩ s w1 he)
  have H := hid (fun w1 => whole_err e 2 s _ w1 rfl HF)
  have HA := fun w1 => accepts_any e s w1 hs
  rw [aEnds_none _ _ he] at HA
  replace HA := hid HA
  clear he HF
  go_enter Try.func10, Try.ntmps10
  go_wp2_with fail
  refine (H.out _).mono ?_
  rintro r w1 ⟨v, rfl, ho, hb⟩
  obtain ⟨A, c, rfl⟩ := ho.shape
  simp only [List.length_nil]
  clear ho
  go_wp2_with fail
  go_loop [7, 24] (fun b i => b = .bool true ∧ i = .int .i64 0) (fun _ _ => 0)
  case atStart => exact ⟨rfl, rfl⟩
  case round =>
    obtain ⟨rfl, rfl⟩ := hrel
    go_wp2_with fail
    refine (HA.out _).mono ?_
    rintro r w2 ⟨rfl, rfl⟩
    go_wp2_with fail
    refine (autos_keep _).mono ?_
    rintro r w2 ⟨rfl, rfl⟩
    go_wp2_with fail
    refine (decodes_keep _).mono ?_
    rintro r w2 ⟨rfl, hb2⟩
    go_wp2_with fail
    go_ret
    exact ⟨rfl, hb.trans (hb2.mono hb.size)⟩
set_option maxRecDepth 100000 in
set_option maxHeartbeats 1000000 in
theorem ad_main (e : Int) (s : ByteArray) (w : World) (hd : decide ((4000 : Int) < (s.size : Int)) = false) (h1 : 1 ≤ e) (h2 : e ≤ 6) : Calls Try.prog 10 #[.int .i64 e, .string s] w fun r w' => r = .returned (.bool true) ∧ Below w.heap.size w w' := by
  obtain ⟨M, F, hF, hA⟩ := auto_of e h1 h2
  have hs : s.size ≤ 4000 := by simp at hd; omega
  have H := hid (fun w1 => whole_any F.con F.goods s hs w1)
  have HA := fun w1 => accepts_any e s w1 (by omega)
  have hl := hF s.data.toList
  rw [hA s.data.toList] at HA
  replace HA := hid HA
  generalize M.dec M.init s.data.toList = l at *
  have hl' : l.length ≤ s.size := by simpa using hl
  clear hF hl F hA
  go_enter Try.func10, Try.ntmps10
  go_wp2_with fail
  refine (H.out _).mono ?_
  rintro r w1 ⟨v, rfl, ho, hb⟩
  by_cases h0 : 0 < l.length
  · obtain ⟨g, cap, rfl, _, hc⟩ := ho.rows h0
    replace hc := hid hc
    clear ho
    go_wp2_with fail
    go_loop [7, 24] (fun b i => ∃ k : Nat, k ≤ l.length ∧ b = .bool (hasBad (l.take k)) ∧ i = .int .i64 k) (fun _ i => l.length - (intOf i).toNat)
    case atStart => exact ⟨0, Nat.zero_le _, rfl, rfl⟩
    case round =>
      obtain ⟨k, hk, rfl, rfl⟩ := hrel
      by_cases hlt : k < l.length
      · have hc := hc.out k hlt
        have hn := hasBad_next l k hlt
        generalize l[k] = x at *
        generalize hasBad (l.take k) = y at *
        cases y
        all_goals
          simp only [Bool.false_or, Bool.true_or] at hn
          replace hn := hid hn
          go_wp2_with fail
          go_round
          case rel => exact ⟨k + 1, by omega, by rw [hn.out], by go_num⟩
          case measure => simp [intOf]; omega
      · rw [List.take_of_length_le (by omega)]
        generalize hasBad l = y at *
        cases y
        all_goals
          go_wp2_with fail
          refine (HA.out _).mono ?_
          rintro r w2 ⟨rfl, rfl⟩
          go_wp2_with fail
          refine (autos_keep _).mono ?_
          rintro r w2 ⟨rfl, rfl⟩
          go_wp2_with fail
          refine (decodes_keep _).mono ?_
          rintro r w2 ⟨rfl, hb2⟩
          go_wp2_with fail
          go_ret
          exact ⟨rfl, hb.trans (hb2.mono hb.size)⟩
  · obtain ⟨A, c, rfl⟩ := ho.shape
    obtain rfl : l = [] := List.eq_nil_of_length_eq_zero (by omega)
    have e0 : hasBad [] = false := rfl
    rw [e0] at HA
    simp only [List.length_nil]
    clear ho h0
    go_wp2_with fail
    go_loop [7, 24] (fun b i => b = .bool false ∧ i = .int .i64 0) (fun _ _ => 0)
    case atStart => exact ⟨rfl, rfl⟩
    case round =>
      obtain ⟨rfl, rfl⟩ := hrel
      go_wp2_with fail
      refine (HA.out _).mono ?_
      rintro r w2 ⟨rfl, rfl⟩
      go_wp2_with fail
      refine (autos_keep _).mono ?_
      rintro r w2 ⟨rfl, rfl⟩
      go_wp2_with fail
      refine (decodes_keep _).mono ?_
      rintro r w2 ⟨rfl, hb2⟩
      go_wp2_with fail
      go_ret
      exact ⟨rfl, hb.trans (hb2.mono hb.size)⟩
theorem autoDecodes_any (e : Int) (s : ByteArray) (w : World) (_hs : s.size ≤ 140737488355328) : Calls Try.prog 10 #[.int .i64 e, .string s] w fun r w' => r = .returned (.bool true) ∧ Below w.heap.size w w' := by
  cases hd : decide ((4000 : Int) < (s.size : Int)) with
  | true => exact ad_long e s w hd
  | false =>
    by_cases he : 1 ≤ e ∧ e ≤ 6
    · exact ad_main e s w hd he.1 he.2
    · exact ad_none e s w hd he
end Go.Proofs.Ytloaemijhggheaa
