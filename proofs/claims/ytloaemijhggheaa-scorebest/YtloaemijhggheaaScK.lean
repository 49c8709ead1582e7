/- The statement ScoreBest's walk. -/
import Derived.Test.YtloaemijhggheaaScA
import Derived.Deep.QuietTactic
import Derived.BigQuiet
namespace Go.Proofs.Ytloaemijhggheaa
open Go.RowKit
attribute [local go_sem ↓] run_eqS run_neS
attribute [local go_sem] byte_at0 byte_at20 byte_at21 w64 S.v and63 and31 and15 and7 kw kw256

theorem sum_one (e : Int) (l : List UInt8) (h : l.length ≤ 1) : sumN e l = 0 := by
  match l, h with
  | [], _ => rfl
  | [_], _ => rfl
theorem wr_in (x : Int) (h1 : -100000 ≤ x) (h2 : x ≤ 100000) : IntKind.i64.wrap x = x := by rw [IntKind.wrap_i64]; omega
theorem sum_next (s : ByteArray) (k : Nat) (h : k + 1 < s.size) (e : Int) : sumN e (s.data.toList.take (k + 1)) + weiN e ((s[k]'(by omega)).toNat : Int) ((s[k + 1]).toNat : Int) = sumN e (s.data.toList.take (k + 1 + 1)) := smL_next s k h e
theorem drewN_cell (w : World) (m : Nat) (a : Addr) : (w.drewN m).cell? a = w.cell? a := rfl
theorem drewN_two (w : World) (m n : Nat) : (w.drewN m).drewN n = w.drewN (m + n) := by simp [World.drewN, Nat.add_assoc]
/-- What holds at the head of the sum's loop. -/
def SumR (s : ByteArray) (e : Int) (w : World) (n i : Value) (wr : World) : Prop :=
  ∃ k : Nat, (k = 0 ∨ k < s.size) ∧ i = .int .i64 ((k : Int) + 1) ∧ n = .int .i64 (sumN e (s.data.toList.take (k + 1))) ∧ ∃ m, wr = w.drewN m
set_option maxRecDepth 100000 in
set_option maxHeartbeats 1000000 in
theorem sum_any (s : ByteArray) (e : Int) (a : Addr) (w : World) (hc : w.cell? a = some (.string s)) (hs : s.size ≤ 4000) : Calls Try.prog 41 #[.int .i64 e, .pointer (some a)] w fun r w' => r = .returned (.int .i64 (sumN e s.data.toList)) ∧ ∃ m, w' = w.drewN m := by
  have hR : SumR s e w (.int .i64 0) (.int .i64 1) w := ⟨0, Or.inl rfl, rfl, by rw [sum_one e _ (by simp; omega)], 0, rfl⟩
  replace hR := hid hR
  go_enter Try.func41, Try.ntmps41
  go_wp2_with fail
  go_loopw [4, 5] (fun n i wr => SumR s e w n i wr) (fun _ i _ => s.size - (intOf i).toNat)
  case atStart => exact hR.out
  case round =>
    clear hR
    obtain ⟨k, hk, rfl, rfl, hm⟩ := hrel
    have hc2 : wr.cell? a = some (.string s) := by obtain ⟨m, rfl⟩ := hm; exact hc
    clear hc
    replace hm := hid hm
    by_cases hlt : k + 1 < s.size
    · have b0 : (0 : Int) ≤ (k : Int) := by omega
      have b1 : (k : Int) + 1 < (s.size : Int) := by omega
      have b2 : (k : Int) < (s.size : Int) := by omega
      have b3 : (0 : Int) ≤ (k : Int) + 1 := by omega
      have hn := sum_next s k hlt e
      have hin := sumN_in e (s.data.toList.take (k + 1 + 1))
      have hw := wr_in (sumN e (s.data.toList.take (k + 1 + 1))) (by simp at hin; omega) (by simp at hin; omega)
      have hwk := wr_in (k : Int) (by omega) (by omega)
      have HW : ∀ w1, Calls Try.prog 36 #[.int .i64 e, .int .i64 ((s[k]'(by omega)).toNat : Int), .int .i64 ((s[k + 1]).toNat : Int)] w1 (fun r w' => r = .returned (.int .i64 (weiN e ((s[k]'(by omega)).toNat : Int) ((s[k + 1]).toNat : Int))) ∧ w' = w1) := fun w1 => (weight_any e ((s[k]'(by omega)).toNat : Int) ((s[k + 1]).toNat : Int) w1 (by omega) (by omega)).mono fun _ _ h => ⟨h.1, h.2.symm⟩
      replace HW := hid HW
      generalize sumN e (s.data.toList.take (k + 1)) = x at *
      generalize hz : sumN e (s.data.toList.take (k + 1 + 1)) = z at *
      replace hz := hid hz
      clear hin
      go_wp2_with fail
      go_quiet (first | (go_at_call 36; exact Calls.quiet_of_same (HW.out _)))
      go_wp2_with fail
      obtain ⟨m, rfl⟩ := hm.out
      exact ⟨⟨k + 1, Or.inr hlt, by go_num, by rw [hz.out], m + nq, drewN_two _ _ _⟩, by simp [intOf]; omega⟩
    · have hx : s.data.toList.take (k + 1) = s.data.toList := List.take_of_length_le (by simp; omega)
      rw [hx]
      clear hx
      obtain ⟨x, hx⟩ : ∃ x, x = sumN e s.data.toList := ⟨_, rfl⟩
      rw [← hx]
      replace hx := hid hx
      have b1 : ¬ (k : Int) + 1 < (s.size : Int) := by omega
      go_wp2_with fail
      go_ret
      exact ⟨by rw [← hx.out]; rfl, hm.out⟩
end Go.Proofs.Ytloaemijhggheaa
