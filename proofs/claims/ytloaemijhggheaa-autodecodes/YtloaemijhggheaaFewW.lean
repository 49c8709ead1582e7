/- The walks over the laws DecodeFew and DecodePlain. -/
import Derived.Test.YtloaemijhggheaaLaw
import Derived.Test.YtloaemijhggheaaPure
namespace Go.Proofs.Ytloaemijhggheaa
open Go.RowKit
attribute [local go_sem ↓] run_eqS run_neS
attribute [local go_sem] byte_at0 byte_at20 byte_at21 w64 S.v and63 and31 and15 and7 kw kw256

theorem few_of (e : Int) (h1 : 1 ≤ e) (h2 : e ≤ 6) : ∃ M, Full e M ∧ ∀ l, (M.dec M.init l).length ≤ l.length ∧ ∀ x ∈ M.dec M.init l, okN x := by
  obtain h | h | h | h | h | h : e = 1 ∨ e = 2 ∨ e = 3 ∨ e = 4 ∨ e = 5 ∨ e = 6 := by omega
  all_goals subst h
  · exact ⟨_, fullU, fewU.dec conU⟩
  · exact ⟨_, fullSh, fewSh.dec conSh⟩
  · exact ⟨_, fullT, fewT.dec conT⟩
  · exact ⟨_, fullLat, fewLat.dec conLat⟩
  · exact ⟨_, fullLo, fewLo.dec conLo⟩
  · exact ⟨_, fullHi, fewHi.dec conHi⟩
theorem plain_of (e : Int) (h1 : 1 ≤ e) (h2 : e ≤ 4) : ∃ M, Full e M ∧ ∀ l : List UInt8, (∀ b ∈ l, plainB b) → M.dec M.init l = l.map nb := by
  obtain h | h | h | h : e = 1 ∨ e = 2 ∨ e = 3 ∨ e = 4 := by omega
  all_goals subst h
  · exact ⟨_, fullU, dec_plain plainU rfl⟩
  · exact ⟨_, fullSh, dec_plain plainSh rfl⟩
  · exact ⟨_, fullT, dec_plain plainT rfl⟩
  · exact ⟨_, fullLat, dec_plain plainLat rfl⟩

set_option maxRecDepth 100000 in
set_option maxHeartbeats 400000 in
theorem few_long (e : Int) (s : ByteArray) (w : World) (hd : decide ((4000 : Int) < (s.size : Int)) = true) : Calls Try.prog 8 #[.int .i64 e, .string s] w fun r w' => r = .returned (.bool true) ∧ Below w.heap.size w w' := by
  go_enter Try.func8, Try.ntmps8
  go_wp2_with fail
  refine (decodes_keep _).mono ?_
  rintro r w1 ⟨rfl, hb⟩
  go_wp2_with fail
  go_ret
  exact ⟨rfl, hb⟩
set_option maxRecDepth 100000 in
set_option maxHeartbeats 400000 in
theorem few_none (e : Int) (s : ByteArray) (w : World) (hd : decide ((4000 : Int) < (s.size : Int)) = false) (he : ¬ (1 ≤ e ∧ e ≤ 6)) : Calls Try.prog 8 #[.int .i64 e, .string s] w fun r w' => r = .returned (.bool true) ∧ Below w.heap.size w w' := by
  have H := hid (fun w1 => in_no e w1 he)
  clear he
  go_enter Try.func8, Try.ntmps8
  go_wp2_with fail
  refine (H.out _).mono ?_
  rintro r w1 ⟨rfl, rfl⟩
  go_wp2_with fail
  refine (decodes_keep _).mono ?_
  rintro r w1 ⟨rfl, hb⟩
  go_wp2_with fail
  go_ret
  exact ⟨rfl, hb⟩
set_option maxRecDepth 100000 in
set_option maxHeartbeats 1000000 in
theorem few_main (e : Int) (s : ByteArray) (w : World) (hd : decide ((4000 : Int) < (s.size : Int)) = false) (h1 : 1 ≤ e) (h2 : e ≤ 6) : Calls Try.prog 8 #[.int .i64 e, .string s] w fun r w' => r = .returned (.bool true) ∧ Below w.heap.size w w' := by
  obtain ⟨M, F, hF⟩ := few_of e h1 h2
  have hs : s.size ≤ 4000 := by simp at hd; omega
  have H := hid (fun w1 => whole_any F.con F.goods s hs w1)
  have hx := hF s.data.toList
  generalize M.dec M.init s.data.toList = l at *
  obtain ⟨hl, hn⟩ := hx
  have hl' : l.length ≤ s.size := by simpa using hl
  replace hn := hid hn
  clear hF hl F
  go_enter Try.func8, Try.ntmps8
  go_wp2_with fail
  refine (in_yes _ _ h1 h2).mono ?_
  rintro r w1 ⟨rfl, rfl⟩
  go_wp2_with fail
  refine (H.out _).mono ?_
  rintro r w1 ⟨v, rfl, ho, hb⟩
  have d1 : decide ((s.size : Int) < (l.length : Int)) = false := by simp; omega
  have d2 : decide (s.size < l.length) = false := by simp; omega
  by_cases h0 : 0 < l.length
  · obtain ⟨g, cap, rfl, _, hc⟩ := ho.rows h0
    replace hc := hid hc
    clear ho
    go_wp2_with fail
    go_loop [35] (fun i => ∃ k : Nat, k ≤ l.length ∧ i = .int .i64 k) (fun i => l.length - (intOf i).toNat)
    case atStart => exact ⟨0, Nat.zero_le _, rfl⟩
    case round =>
      obtain ⟨k, hk, rfl⟩ := hrel
      by_cases hlt : k < l.length
      · have hc := hc.out k hlt
        have ho2 := hn.out l[k] (List.getElem_mem hlt)
        obtain ⟨n1, n2, n3⟩ := ho2
        generalize l[k] = x at *
        obtain n4 | ⟨n4, n5⟩ : x < 55296 ∨ (55296 ≤ x ∧ ¬ x ≤ 57343) := by omega
        all_goals
          clear n3
          go_wp2_with fail
          go_round
          case rel => exact ⟨k + 1, by omega, by go_num⟩
          case measure => simp [intOf]; omega
      · go_wp2_with fail
        refine (decodes_keep _).mono ?_
        rintro r w2 ⟨rfl, hb2⟩
        go_wp2_with fail
        go_ret
        exact ⟨rfl, hb.trans (hb2.mono hb.size)⟩
  · obtain ⟨A, c, rfl⟩ := ho.shape
    obtain rfl : l = [] := List.eq_nil_of_length_eq_zero (by omega)
    simp only [List.length_nil]
    clear ho d1 d2 h0
    go_wp2_with fail
    go_loop [35] (fun i => i = .int .i64 0) (fun _ => 0)
    case atStart => rfl
    case round =>
      subst hrel
      go_wp2_with fail
      refine (decodes_keep _).mono ?_
      rintro r w2 ⟨rfl, hb2⟩
      go_wp2_with fail
      go_ret
      exact ⟨rfl, hb.trans (hb2.mono hb.size)⟩
theorem few_any (e : Int) (s : ByteArray) (w : World) : Calls Try.prog 8 #[.int .i64 e, .string s] w fun r w' => r = .returned (.bool true) ∧ Below w.heap.size w w' := by
  cases hd : decide ((4000 : Int) < (s.size : Int)) with
  | true => exact few_long e s w hd
  | false =>
    by_cases he : 1 ≤ e ∧ e ≤ 6
    · exact few_main e s w hd he.1 he.2
    · exact few_none e s w hd he
end Go.Proofs.Ytloaemijhggheaa
