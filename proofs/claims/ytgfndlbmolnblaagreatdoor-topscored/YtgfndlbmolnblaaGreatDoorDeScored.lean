/- The statement TopScored out of a detector's contracts. -/
import Derived.Test.YtgfndlbmolnblaaGreatDoorDeWhole
import Derived.Deep.RegionWith
namespace Go.Proofs.YtgfndlbmolnblaaGreatDoor
open Go.RowKit
attribute [local go_sem ↓] run_eqV run_neV fld_code fld_verdict fld_out

variable {W : World} {best : List UInt8 → Int} {dec : Int → List UInt8 → List Int}
set_option maxRecDepth 100000 in
set_option maxHeartbeats 1000000 in
theorem scoredLook_skip (a : Addr) (k : Int) (b : ByteArray) (rc re ry : Int) (rf : Bool) (A : Option Addr) (n c : Nat) (w : World) (h : k ≠ 3 ∨ rc ≠ 0 ∨ ry ≠ 4) : Calls Tryz.prog 25 #[.pointer (some a), .agg #[.int .i64 k, .string b], .agg #[.int .i64 rc, .int .i64 re, .int .i64 ry, .bool rf, .slice A n c]] w fun e w' => e = .returned (.bool true) ∧ Below w.heap.size w w' := by
  by_cases hk : k = 3
  · have h1 := h.resolve_left (fun x => x hk)
    subst hk
    by_cases hc : rc = 0
    · have h2 := h1.resolve_left (fun x => x hc)
      have hc' : (ry == 4) = false := by simpa using h2
      subst hc
      go_enter Tryz.func25, Tryz.ntmps25
      go_wp2_with fail
      go_ret
      exact ⟨rfl, ((Below.refl _ _).alloc (Nat.le_refl _) _).alloc (by simp) _⟩
    · have hc' : (rc == 0) = false := by simpa using hc
      go_enter Tryz.func25, Tryz.ntmps25
      go_wp2_with fail
      go_ret
      exact ⟨rfl, ((Below.refl _ _).alloc (Nat.le_refl _) _).alloc (by simp) _⟩
  · have hc' : (k == 3) = false := by simpa using hk
    go_enter Tryz.func25, Tryz.ntmps25
    go_wp2_with fail
    go_ret
    exact ⟨rfl, ((Below.refl _ _).alloc (Nat.le_refl _) _).alloc (by simp) _⟩
set_option maxRecDepth 100000 in
set_option maxHeartbeats 1000000 in
theorem scoredLook_take (C : DetC W best dec) (a : Addr) (F : Nat → Prop) (d : Dt) (b : ByteArray) (re : Int) (rf : Bool) (A : Option Addr) (c B : Nat) (T : List Int) (w : World) (hw : Below W.heap.size W w) (hD : C.IsD w F a d) (hT : T.length ≤ 4000) (hn : ∀ x ∈ T, x ≠ -1) (hO : Out w B (.slice A T.length c) T)
    (HA : Hid (∀ (s : ByteArray) (w1 : World), s.data.toList = d.l → Calls Tryz.prog 26 #[.int .i64 re, .string s] w1 fun r w' => r = .returned (.bool true) ∧ w1 = w')) :
    Calls Tryz.prog 25 #[.pointer (some a), .agg #[.int .i64 3, .string b], .agg #[.int .i64 0, .int .i64 re, .int .i64 4, .bool rf, .slice A T.length c]] w fun e w' => e = .returned (.bool true) ∧ Below w.heap.size w w' := by
  have hb0 : Below w.heap.size w ((w.alloc (.cells #[.int .i64 3, .string b] 27)).alloc (.cells #[.int .i64 0, .int .i64 re, .int .i64 4, .bool rf, .slice A T.length c] 33)) := ((Below.refl _ _).alloc (Nat.le_refl _) _).alloc (by simp) _
  have hr := Has5.new (w.alloc (.cells #[.int .i64 3, .string b] 27)) 0 re 4 rf A T.length c 33
  simp only [World.size_alloc] at hr
  have hO1 := (hO.alloc (.cells #[.int .i64 3, .string b] 27)).alloc (.cells #[.int .i64 0, .int .i64 re, .int .i64 4, .bool rf, .slice A T.length c] 33)
  have hw1 := hw.trans (hb0.mono hw.size)
  have hD1 := C.below hD hb0
  have HB := hid (fun w1 hw1 hD1 => C.bytes (w := w1) (F := F) (a := a) (d := d) hw1 hD1)
  by_cases h0 : 0 < T.length
  · obtain ⟨g, cap, hA1, hg, hc⟩ := hO1.rows h0
    obtain ⟨rfl, _, rfl⟩ : A = some ⟨g, 0, none⟩ ∧ True ∧ c = cap := by injection hA1 with h1 h2 h3; exact ⟨h1, trivial, h3⟩
    clear hA1 hO hO1
    replace hc := hid hc
    go_enter Tryz.func25, Tryz.ntmps25
    go_wp2_with fail
    generalize (w.alloc (.cells #[.int .i64 3, .string b] 27)).alloc (.cells #[.int .i64 0, .int .i64 re, .int .i64 4, .bool rf, .slice (some ⟨g, 0, none⟩) T.length c] 33) = u at *
    go_loop [26] (fun i => ∃ k : Nat, k ≤ T.length ∧ i = .int .i64 k) (fun i => T.length - (intOf i).toNat)
    case atStart => exact ⟨0, Nat.zero_le _, rfl⟩
    case round =>
      obtain ⟨k, hk, rfl⟩ := hrel
      by_cases hlt : k < T.length
      · have hc := hc.out k hlt
        have hx := hn T[k] (List.getElem_mem hlt)
        generalize T[k] = x at *
        have h2 : (x == -1) = false := by simpa using hx
        clear hx
        go_wp2_with fail
        go_round
        case rel => exact ⟨k + 1, by omega, by go_num⟩
        case measure => simp [intOf]; omega
      · have hr0 := hr
        obtain ⟨r0, r1, r2, r3, r4⟩ := hr0
        go_wp2_with fail
        go_region_with (first
          | (go_at_call 15; refine (HB.out _ ?_ ?_).mono ?_; exact hw1.drew; exact C.drew hD1; rintro r u6 ⟨s1, rfl, hs1, b6⟩; have b6' : Below u.heap.size u u6 := undrew b6; obtain ⟨q0, q1, q2, q3, q4⟩ := hr.below b6')
          | (go_at_call 26; refine (HA.out _ _ hs1).mono ?_; rintro r u7 ⟨rfl, rfl⟩))
        all_goals
          go_wp2_with fail
          go_ret
          exact ⟨rfl, hb0.trans (b6'.mono hb0.size)⟩
  · obtain rfl : T = [] := List.eq_nil_of_length_eq_zero (by omega)
    simp only [List.length_nil] at *
    clear hO hO1
    go_enter Tryz.func25, Tryz.ntmps25
    go_wp2_with fail
    generalize (w.alloc (.cells #[.int .i64 3, .string b] 27)).alloc (.cells #[.int .i64 0, .int .i64 re, .int .i64 4, .bool rf, .slice A 0 c] 33) = u at *
    go_loop [26] (fun i => i = .int .i64 0) (fun _ => 0)
    case atStart => rfl
    case round =>
      subst hrel
      have hr0 := hr
      obtain ⟨r0, r1, r2, r3, r4⟩ := hr0
      go_wp2_with fail
      go_region_with (first
        | (go_at_call 15; refine (HB.out _ ?_ ?_).mono ?_; exact hw1.drew; exact C.drew hD1; rintro r u6 ⟨s1, rfl, hs1, b6⟩; have b6' : Below u.heap.size u u6 := undrew b6; obtain ⟨q0, q1, q2, q3, q4⟩ := hr.below b6')
        | (go_at_call 26; refine (HA.out _ _ hs1).mono ?_; rintro r u7 ⟨rfl, rfl⟩))
      all_goals
        go_wp2_with fail
        go_ret
        exact ⟨rfl, hb0.trans (b6'.mono hb0.size)⟩
theorem look_scored (C : DetC W best dec) (hbest : ∀ l, 0 ≤ best l ∧ best l ≤ 6) (hdl : ∀ e l, 1 ≤ e → e ≤ 6 → (dec e l).length ≤ l.length) (hgood : ∀ l, 0 < best l → ∀ x ∈ dec (best l) l, x ≠ -1)
    (hacc : ∀ (s : ByteArray) (w1 : World), s.size ≤ 4000 → 0 < best s.data.toList → Calls Tryz.prog 26 #[.int .i64 (best s.data.toList), .string s] w1 fun r w' => r = .returned (.bool true) ∧ w1 = w') (l : List (Int × ByteArray)) (h0 : Int) :
    Look C l h0 25 #[] (fun _ => False) (fun _ _ => True) where
  enter := fun args w => by simp [callFunc, Tryz.func25, Tryz.f25]
  keep := fun h _ => h
  look := by
    intro i hi w F a A c B hw hF hGB _ hD hO
    have hfo := act_fin_only (best := best) (dec := dec) (dtAt best dec h0 l i) l[i].2.data.toList
    have hll := dtAt_long (best := best) (dec := dec) h0 l i
    generalize dtAt best dec h0 l i = d at *
    generalize hk : l[i].1 = k at *
    by_cases hs2 : k = 3 ∧ (Dt.act best dec d k l[i].2.data.toList).1.code = 0 ∧ (judgeP best d.hint d.l).2 = 4
    · obtain ⟨rfl, hc, hj⟩ := hs2
      obtain ⟨e1, e2⟩ := hfo hc
      rw [e1] at hO ⊢
      rw [e2] at hD
      obtain ⟨j1, j2, j3⟩ := judge_scored best dec d.hint d.l hj
      have hb6 := hbest d.l
      have ht := hdl (best d.l) d.l (by omega) hb6.2
      rw [j1, j3] at hO
      unfold Dt.verdict
      simp only [hj, j1, j3]
      refine (scoredLook_take C a F _ _ (best d.l) _ A c B (dec (best d.l) d.l) w hw hD (by omega) (hgood d.l j2) hO (hid fun s w1 hs => ?_)).mono fun e w' h => ⟨h.1, trivial, Only.of _ h.2⟩
      have hsz : s.size = s.data.toList.length := Array.length_toList.symm
      have := hacc s w1 (by rw [hsz, hs]; exact hll) (by rw [hs]; exact j2)
      rw [hs] at this
      exact this
    · have hw' : (Dt.act best dec d 3 l[i].2.data.toList).1.code = 0 → (Dt.act best dec d 3 l[i].2.data.toList).1.vd.why = (judgeP best d.hint d.l).2 := fun hc => by rw [(hfo hc).1]; rfl
      have h4 : k ≠ 3 ∨ (Dt.act best dec d k l[i].2.data.toList).1.code ≠ 0 ∨ (Dt.act best dec d k l[i].2.data.toList).1.vd.why ≠ 4 := by
        by_cases h5 : k = 3
        · subst h5
          by_cases h6 : (Dt.act best dec d 3 l[i].2.data.toList).1.code = 0
          · exact Or.inr (Or.inr (fun h7 => hs2 ⟨rfl, h6, by rw [← hw' h6]; exact h7⟩))
          · exact Or.inr (Or.inl h6)
        · exact Or.inl h5
      exact (scoredLook_skip a k _ _ _ _ _ A _ c w h4).mono fun e w' h => ⟨h.1, trivial, Only.of _ h.2⟩
set_option maxRecDepth 100000 in
set_option maxHeartbeats 1000000 in
theorem topScored_true (C : DetC W best dec) (hd : dec 1 [97] = [97]) (hbest : ∀ l, 0 ≤ best l ∧ best l ≤ 6) (hdl : ∀ e l, 1 ≤ e → e ≤ 6 → (dec e l).length ≤ l.length) (hgood : ∀ l, 0 < best l → ∀ x ∈ dec (best l) l, x ≠ -1)
    (hacc : ∀ (s : ByteArray) (w1 : World), s.size ≤ 4000 → 0 < best s.data.toList → Calls Tryz.prog 26 #[.int .i64 (best s.data.toList), .string s] w1 fun r w' => r = .returned (.bool true) ∧ w1 = w') (s : ByteArray) (A : Option Addr) (cap : Nat) (l : List (Int × ByteArray)) (hA : ActsIn W (.slice A l.length cap) l) (hs : s.size ≤ 140737488355328) :
    Calls Tryz.prog 7 #[.string s, .slice A l.length cap] W fun e w' => e = .returned (.bool true) ∧ Below W.heap.size W w' := by
  have HP := hid (fun w hw => play_any C hd s _ l hA 25 #[] _ _ (look_scored C hbest hdl hgood hacc l (findL s.data.toList)) w hs hw (fun _ h => h.elim) trivial)
  go_enter Tryz.func7, Tryz.ntmps7
  go_wp2_with fail
  refine (HP.out _ (Below.refl _ _)).mono ?_
  rintro r w1 ⟨a, F, rfl, hD, hF, _, ho, hw1⟩
  go_wp2_with fail
  go_ret
  exact ⟨rfl, hw1⟩
end Go.Proofs.YtgfndlbmolnblaaGreatDoor
