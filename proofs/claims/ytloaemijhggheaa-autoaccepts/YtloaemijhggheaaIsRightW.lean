/- The reference's IsRight, out of WholeOf's contract. -/
import Derived.Test.YtloaemijhggheaaQT
import Derived.Test.YtloaemijhggheaaAutoDW
namespace Go.Proofs.Ytloaemijhggheaa
open Go.RowKit
attribute [local go_sem ↓] run_eqS run_neS
attribute [local go_sem] byte_at0 byte_at20 byte_at21 w64 S.v and63 and31 and15 and7 kw kw256

theorem hasBad_at (l : List Int) (k : Nat) (h : k < l.length) (e : l[k] = -1) : hasBad l = true := (hasBad_iff l).2 (e ▸ List.getElem_mem h)
theorem ext_all (s : ByteArray) : s.extract 0 s.size = s := by simp
set_option maxRecDepth 100000 in
set_option maxHeartbeats 1000000 in
theorem isRight_of (e : Int) (s : ByteArray) (l : List Int) (w : World) (hs : s.size ≤ 4000) (hl : l.length ≤ 100000) (H : Hid (∀ w1, Calls Try.prog 15 #[.int .i64 e, .string s] w1 (POE w1 l 0))) :
    Calls Try.prog 29 #[.int .i64 e, .string s] w fun r w' => r = .returned (.bool (!(hasBad l))) ∧ Below w.heap.size w w' := by
  have b1 : (s.size : Int) ≤ 4000 := by omega
  have b2 := ext_all s
  go_enter Try.func29, Try.ntmps29
  go_wp2_with fail
  refine (H.out _).mono ?_
  rintro r w1 ⟨v, rfl, ho, hb⟩
  by_cases h0 : 0 < l.length
  · obtain ⟨g, cap, rfl, _, hc⟩ := ho.rows h0
    replace hc := hid hc
    clear ho
    go_wp2_with fail
    go_loop [21] (fun i => ∃ k : Nat, k ≤ l.length ∧ hasBad (l.take k) = false ∧ i = .int .i64 k) (fun i => l.length - (intOf i).toNat)
    case atStart => exact ⟨0, Nat.zero_le _, rfl, rfl⟩
    case round =>
      obtain ⟨k, hk, hn, rfl⟩ := hrel
      by_cases hlt : k < l.length
      · have hc := hc.out k hlt
        have hx := hasBad_next l k hlt
        have hy := hasBad_at l k hlt
        rw [hn, Bool.false_or] at hx
        replace hn := hid hn
        generalize hz : l[k] = x at *
        by_cases h1 : x = -1
        · replace hy := hid (hy h1)
          subst h1
          clear hx hz
          go_wp2_with fail
          go_ret
          rw [hy.out]
          exact ⟨rfl, hb⟩
        · have h2 : (x == -1) = false := by simpa using h1
          rw [h2] at hx
          replace hx := hid hx
          clear h1 hy hz
          go_wp2_with fail
          go_round
          case rel => exact ⟨k + 1, by omega, hx.out, by go_num⟩
          case measure => simp [intOf]; omega
      · rw [List.take_of_length_le (by omega)] at hn
        replace hn := hid hn
        go_wp2_with fail
        go_ret
        rw [hn.out]
        exact ⟨rfl, hb⟩
  · obtain ⟨A, c, rfl⟩ := ho.shape
    obtain rfl : l = [] := List.eq_nil_of_length_eq_zero (by omega)
    simp only [List.length_nil]
    clear ho h0
    go_wp2_with fail
    go_loop [21] (fun i => i = .int .i64 0) (fun _ => 0)
    case atStart => rfl
    case round =>
      subst hrel
      go_wp2_with fail
      go_ret
      exact ⟨rfl, hb⟩
set_option maxRecDepth 100000 in
set_option maxHeartbeats 1000000 in
theorem isRight_none (e : Int) (s : ByteArray) (w : World) (hs : s.size ≤ 4000) (he : ¬ (1 ≤ e ∧ e ≤ 6)) :
    Calls Try.prog 29 #[.int .i64 e, .string s] w fun r w' => r = .returned (.bool false) ∧ Below w.heap.size w w' := by
  have b1 : (s.size : Int) ≤ 4000 := by omega
  have b2 := ext_all s
  have H := hid (fun w1 => wholeOf_kind e s w1 he)
  clear he
  go_enter Try.func29, Try.ntmps29
  go_wp2_with fail
  refine (H.out _).mono ?_
  rintro r w1 ⟨v, rfl, ho, hb⟩
  obtain ⟨A, c, rfl⟩ := ho.shape
  simp only [List.length_nil]
  clear ho
  go_wp2_with fail
  go_loop [21] (fun i => i = .int .i64 0) (fun _ => 0)
  case atStart => rfl
  case round =>
    subst hrel
    go_wp2_with fail
    go_ret
    exact ⟨rfl, hb⟩
set_option maxRecDepth 100000 in
set_option maxHeartbeats 400000 in
theorem aa_long (e : Int) (s : ByteArray) (w : World) (hd : decide ((4000 : Int) < (s.size : Int)) = true) : Calls Try.prog 9 #[.int .i64 e, .string s] w fun r w' => r = .returned (.bool true) ∧ Below w.heap.size w w' := by
  go_enter Try.func9, Try.ntmps9
  go_wp2_with fail
  refine (autos_law _).mono ?_
  rintro r w1 ⟨rfl, rfl⟩
  go_wp2_with fail
  go_ret
  exact ⟨rfl, Below.refl _ _⟩
set_option maxRecDepth 100000 in
set_option maxHeartbeats 400000 in
theorem aa_of (e : Int) (s : ByteArray) (w : World) (v : Bool) (hd : decide ((4000 : Int) < (s.size : Int)) = false) (HA : Hid (∀ w1, Calls Try.prog 28 #[.int .i64 e, .string s] w1 fun r w' => r = .returned (.bool v) ∧ w1 = w'))
    (HR : Hid (∀ w1, Calls Try.prog 29 #[.int .i64 e, .string s] w1 fun r w' => r = .returned (.bool v) ∧ Below w1.heap.size w1 w')) : Calls Try.prog 9 #[.int .i64 e, .string s] w fun r w' => r = .returned (.bool true) ∧ Below w.heap.size w w' := by
  have hv : (v == v) = true := by simp
  go_enter Try.func9, Try.ntmps9
  go_wp2_with fail
  refine (HA.out _).mono ?_
  rintro r w1 ⟨rfl, rfl⟩
  go_wp2_with fail
  refine (HR.out _).mono ?_
  rintro r w1 ⟨rfl, hb⟩
  go_wp2_with fail
  refine (autos_law _).mono ?_
  rintro r w2 ⟨rfl, rfl⟩
  go_wp2_with fail
  go_ret
  exact ⟨rfl, hb⟩
end Go.Proofs.Ytloaemijhggheaa
