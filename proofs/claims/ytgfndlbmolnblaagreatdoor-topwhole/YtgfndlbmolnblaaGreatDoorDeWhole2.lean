/- The statement TopWhole out of a detector's contracts. -/
import Derived.Test.YtgfndlbmolnblaaGreatDoorDeWhole
namespace Go.Proofs.YtgfndlbmolnblaaGreatDoor
open Go.RowKit
attribute [local go_sem ↓] run_eqV run_neV fld_code fld_verdict fld_out

variable {W : World} {best : List UInt8 → Int} {dec : Int → List UInt8 → List Int}
set_option maxRecDepth 100000 in
set_option maxHeartbeats 1000000 in
theorem topWhole_true (C : DetC W best dec) (hd : dec 1 [97] = [97]) (hbest : ∀ l, 0 ≤ best l ∧ best l ≤ 6) (hdl : ∀ e l, 1 ≤ e → e ≤ 6 → (dec e l).length ≤ l.length) (s : ByteArray) (A : Option Addr) (cap : Nat) (l : List (Int × ByteArray)) (hA : ActsIn W (.slice A l.length cap) l) (hs : s.size ≤ 140737488355328) :
    Calls Tryz.prog 3 #[.string s, .slice A l.length cap] W fun e w' => e = .returned (.bool true) ∧ Below W.heap.size W w' := by
  have HP := fun w hw hG hJ => play_any C hd s _ l hA 14 _ _ _ (look_whole C hbest hdl l s hs W.heap.size (W.heap.size + 1) (Nat.le_refl _) (by omega)) w hs hw hG hJ
  replace HP := hid HP
  have HA := hid (fun w1 h => alive_any C hd w1 h)
  go_enter Tryz.func3, Tryz.ntmps3
  go_wp2_with fail
  refine (HP.out _ (((Below.refl _ _).alloc (Nat.le_refl _) _).alloc (by simp) _) (fun k hk => by rcases hk with rfl | rfl <;> (simp; try omega)) ⟨by simp [go_sem], ⟨false, by simp [go_sem]⟩, by simp [go_sem]⟩).mono ?_
  rintro r w1 ⟨a, F, rfl, hD, hF, ⟨_, ⟨v, hv⟩, _⟩, ho, hw1⟩
  cases v with
  | true =>
    go_wp2_with fail
    go_ret
    exact ⟨rfl, hw1⟩
  | false =>
    go_wp2_with fail
    refine (HA.out _ hw1).mono ?_
    rintro r w2 ⟨rfl, hb2⟩
    go_wp2_with fail
    go_ret
    exact ⟨rfl, hw1.trans (hb2.mono hw1.size)⟩
end Go.Proofs.YtgfndlbmolnblaaGreatDoor
