/- The statement TopFinal out of a detector's contracts. -/
import Derived.Test.YtgfndlbmolnblaaGreatDoorDeEnded
namespace Go.Proofs.YtgfndlbmolnblaaGreatDoor
open Go.RowKit
attribute [local go_sem ↓] run_eqV run_neV fld_code fld_verdict fld_out

variable {W : World} {best : List UInt8 → Int} {dec : Int → List UInt8 → List Int}
/-- What TopFinal's look knows: a verdict that was final is the detector's. -/
def FinJ (best : List UInt8 → Int) (dec : Int → List UInt8 → List Int) (h0 : Int) (l : List (Int × ByteArray)) (vb : Nat) (i : Nat) (w : World) : Prop :=
  ∃ v : Vd, Has3 w vb v ∧ (v.fin = true → (dtAt best dec h0 l i).verdict best = v)
set_option maxRecDepth 100000 in
set_option maxHeartbeats 1000000 in
/-- The look, where it looks at nothing. -/
theorem finLook_skip (a : Addr) (k : Int) (b : ByteArray) (rc re ry : Int) (rf : Bool) (A : Option Addr) (n c vb : Nat) (w : World) (h : rc ≠ 0 ∨ k = 1) : Calls Tryz.prog 24 #[.pointer (some a), .agg #[.int .i64 k, .string b], .agg #[.int .i64 rc, .int .i64 re, .int .i64 ry, .bool rf, .slice A n c], .pointer (some ⟨vb, 0, none⟩)] w fun e w' => e = .returned (.bool true) ∧ Below w.heap.size w w' := by
  by_cases hc : rc = 0
  · obtain rfl := h.resolve_left (fun x => x hc)
    subst hc
    go_enter Tryz.func24, Tryz.ntmps24
    go_wp2_with fail
    go_ret
    exact ⟨rfl, ((Below.refl _ _).alloc (Nat.le_refl _) _).alloc (by simp) _⟩
  · have hc' : (rc == 0) = false := by simpa using hc
    go_enter Tryz.func24, Tryz.ntmps24
    go_wp2_with fail
    go_ret
    exact ⟨rfl, ((Below.refl _ _).alloc (Nat.le_refl _) _).alloc (by simp) _⟩
set_option maxRecDepth 100000 in
set_option maxHeartbeats 1000000 in
/-- The look, where it looks: the verdict is kept. -/
theorem finLook_take (a : Addr) (k : Int) (b : ByteArray) (re ry : Int) (rf : Bool) (A : Option Addr) (n c vb : Nat) (v : Vd) (w : World) (hv : Has3 w vb v) (hk : (k == 1) = false) (hf : v.fin = true → vEq ⟨re, ry, rf⟩ v = true) (h1 : 1 ≤ re ∧ re ≤ 6) (h2 : 0 ≤ ry ∧ ry ≤ 4) : Calls Tryz.prog 24 #[.pointer (some a), .agg #[.int .i64 k, .string b], .agg #[.int .i64 0, .int .i64 re, .int .i64 ry, .bool rf, .slice A n c], .pointer (some ⟨vb, 0, none⟩)] w fun e w' => e = .returned (.bool true) ∧ Has3 w' vb ⟨re, ry, rf⟩ ∧ Only (fun x => x = vb) w w' := by
  obtain ⟨a1, a2⟩ := h1
  obtain ⟨a3, a4⟩ := h2
  have hlt := hv.lt
  have hH := hid ((hv.put ⟨re, ry, rf⟩))
  have hO := hid ((((Only.refl (fun x => x = vb) w).set rfl 0 (.int .i64 re)).set rfl 1 (.int .i64 ry)).set rfl 2 (.bool rf))
  obtain ⟨v0, v1, v2, vz⟩ := hv
  obtain ⟨ve, vy, vf⟩ := v
  simp only at v0 v1 v2 hf
  cases vf with
  | false =>
    clear hf
    go_enter Tryz.func24, Tryz.ntmps24
    go_wp2_with fail
    go_ret
    exact ⟨rfl, (hH.out.alloc _).alloc _, (hO.out.alloc _).alloc _⟩
  | true =>
    have hq := hf rfl
    have hq2 : (!vEq ⟨re, ry, rf⟩ ⟨ve, vy, true⟩) = false := by rw [hq]; rfl
    clear hf
    go_enter Tryz.func24, Tryz.ntmps24
    go_wp2_with fail
    go_ret
    exact ⟨rfl, (hH.out.alloc _).alloc _, (hO.out.alloc _).alloc _⟩
/-- What comes of an act that is no feed and is done. -/
theorem act_vd (d : Dt) (k : Int) (b : List UInt8) (hk : k ≠ 1) (hc : (Dt.act best dec d k b).1.code = 0) : (Dt.act best dec d k b).1.vd = (Dt.act best dec d k b).2.verdict best := by
  unfold Dt.act at hc ⊢
  split
  · rename_i h; rw [if_pos h] at hc; simp [Rp.err] at hc
  rename_i h1
  rw [if_neg h1] at hc
  split
  · rename_i h; rw [if_pos h] at hc; simp [Rp.err] at hc
  rename_i h2
  rw [if_neg h2] at hc
  split
  · exact verdict_same best _ _ rfl rfl rfl
  rename_i h3
  rw [if_neg h3] at hc
  split
  · rename_i h; rw [if_pos h] at hc; simp [Rp.err] at hc
  split
  · exact verdict_same best _ _ rfl rfl rfl
  · exact absurd (by omega) hk
theorem look_final (C : DetC W best dec) (hb : ∀ l, 0 ≤ best l ∧ best l ≤ 6) (l : List (Int × ByteArray)) (h0 : Int) (vb : Nat) : Look C l h0 24 #[.pointer (some ⟨vb, 0, none⟩)] (fun x => x = vb) (FinJ best dec h0 l vb) where
  enter := fun args w => by simp [callFunc, Tryz.func24, Tryz.f24]
  keep := fun ⟨v, h1, h2⟩ hk => ⟨v, h1.keep (hk vb rfl), h2⟩
  look := by
    intro i hi w F a A c B hw hF hGB hJ hD hO
    obtain ⟨v, hv, hf⟩ := hJ
    have hfin := act_final best dec (dtAt best dec h0 l i) l[i].1 l[i].2.data.toList
    have hvd := act_vd (best := best) (dec := dec) (dtAt best dec h0 l i) l[i].1 l[i].2.data.toList
    rw [← dtAt_next h0 l i hi] at hfin
    rw [← dtAt_next h0 l i hi] at hvd
    have hin := verdict_in hb (dtAt best dec h0 l (i + 1))
    generalize (Dt.act best dec (dtAt best dec h0 l i) l[i].1 l[i].2.data.toList).1 = rp at *
    obtain ⟨rc, ⟨re, ry, rf⟩, ro⟩ := rp
    have hnext : v.fin = true → (dtAt best dec h0 l (i + 1)).verdict best = v := fun h => by
      have h1 := hf h
      rw [hfin (by rw [h1]; exact h), h1]
    by_cases hs : rc ≠ 0 ∨ l[i].1 = 1
    · refine (finLook_skip a _ _ rc re ry rf A _ c vb w hs).mono fun e w' h => ⟨h.1, ⟨v, hv.keep (h.2.block vb hv.lt), hnext⟩, Only.of _ h.2⟩
    · obtain ⟨h1, h2⟩ : rc = 0 ∧ l[i].1 ≠ 1 := by
        constructor
        · exact Decidable.byContradiction fun h => hs (Or.inl h)
        · exact fun h => hs (Or.inr h)
      subst h1
      have h3 := hvd h2 rfl
      simp only at h3
      rw [← h3] at hin
      refine (finLook_take a _ _ re ry rf A _ c vb v w hv (by simpa using h2) (fun h => ?_) hin.1 hin.2).mono fun e w' h => ⟨h.1, ⟨⟨re, ry, rf⟩, h.2.1, fun _ => h3.symm⟩, h.2.2⟩
      rw [h3, hnext h]
      exact vEq_self _
set_option maxRecDepth 100000 in
set_option maxHeartbeats 1000000 in
theorem topFinal_true (C : DetC W best dec) (hd : dec 1 [97] = [97]) (hb : ∀ l, 0 ≤ best l ∧ best l ≤ 6) (s : ByteArray) (A : Option Addr) (cap : Nat) (l : List (Int × ByteArray)) (hA : ActsIn W (.slice A l.length cap) l) (hs : s.size ≤ 140737488355328) :
    Calls Tryz.prog 5 #[.string s, .slice A l.length cap] W fun e w' => e = .returned (.bool true) ∧ Below W.heap.size W w' := by
  have HP := fun w hw hG hJ => play_any C hd s _ l hA 24 _ _ _ (look_final C hb l (findL s.data.toList) W.heap.size) w hs hw hG hJ
  replace HP := hid HP
  go_enter Tryz.func5, Tryz.ntmps5
  go_wp2_with fail
  refine (HP.out _ ((Below.refl _ _).alloc (Nat.le_refl _) _) (fun k hk => by subst hk; simp) ⟨.zero, Has3.new W .zero 30, fun h => by cases h⟩).mono ?_
  rintro r w1 ⟨a, F, rfl, hD, hF, _, ho, hw1⟩
  go_wp2_with fail
  go_ret
  exact ⟨rfl, hw1⟩
end Go.Proofs.YtgfndlbmolnblaaGreatDoor
