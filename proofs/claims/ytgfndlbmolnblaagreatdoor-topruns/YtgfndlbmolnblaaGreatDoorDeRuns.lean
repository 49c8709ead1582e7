/- The statement TopRuns out of a detector's contracts. -/
import Derived.Test.YtgfndlbmolnblaaGreatDoorDeRun
import Derived.Test.YtgfndlbmolnblaaGreatDoorQI
namespace Go.Proofs.YtgfndlbmolnblaaGreatDoor
open Go.RowKit
attribute [local go_sem ↓] run_eqV run_neV fld_code fld_verdict fld_out

variable {W : World} {best : List UInt8 → Int} {dec : Int → List UInt8 → List Int}
theorem cut_in (n : Nat) (hn : n ≤ 4000) (k : Int) : ∃ kk : Nat, kk ≤ n ∧ (wrap64 (wrap64 (k.tmod ((n : Int) + 1) + (n : Int)) + 1)).tmod ((n : Int) + 1) = (kk : Int) := by
  have h1 := Int.tmod_lt_of_pos k (show (0 : Int) < (n : Int) + 1 by omega)
  have h2 : -((n : Int) + 1) < k.tmod ((n : Int) + 1) := by
    have := Int.tmod_lt_of_pos (-k) (show (0 : Int) < (n : Int) + 1 by omega)
    rw [Int.neg_tmod] at this; omega
  generalize k.tmod ((n : Int) + 1) = q at *
  have h3 : wrap64 (q + (n : Int)) = q + (n : Int) := by unfold wrap64; omega
  have h4 : wrap64 (q + (n : Int) + 1) = q + (n : Int) + 1 := by unfold wrap64; omega
  rw [h3, h4]
  have h5 := Int.tmod_lt_of_pos (q + (n : Int) + 1) (show (0 : Int) < (n : Int) + 1 by omega)
  have h6 := Int.tmod_nonneg ((n : Int) + 1) (show 0 ≤ q + (n : Int) + 1 by omega)
  exact ⟨((q + (n : Int) + 1).tmod ((n : Int) + 1)).toNat, by omega, by omega⟩
set_option maxRecDepth 100000 in
set_option maxHeartbeats 1000000 in
theorem topRuns_long (C : DetC W best dec) (hd : dec 1 [97] = [97]) (s : ByteArray) (A : Option Addr) (n cap : Nat) (k : Int) (hl : decide ((100 : Int) < (n : Int)) = true) :
    Calls Tryz.prog 11 #[.string s, .slice A n cap, .int .i64 k] W fun e w' => e = .returned (.bool true) ∧ Below W.heap.size W w' := by
  have HA := hid (fun w1 h => alive_any C hd w1 h)
  go_enter Tryz.func11, Tryz.ntmps11
  go_wp2_with fail
  refine (HA.out _ (Below.refl _ _)).mono ?_
  rintro r w1 ⟨rfl, hw1⟩
  go_wp2_with fail
  refine (HA.out _ hw1).mono ?_
  rintro r w2 ⟨rfl, hb2⟩
  go_wp2_with fail
  go_ret
  exact ⟨rfl, hw1.trans (hb2.mono hw1.size)⟩
/-- What holds at the head of the last loop. -/
def CmpR (W : World) (n kk g1 B1 g2 B2 : Nat) (rs1 rs2 : List (Rp × Option Addr × Nat)) (i : Value) (wr : World) : Prop :=
  ∃ j : Nat, j ≤ kk ∧ i = .int .i64 j ∧ Reps wr B1 g1 n n rs1 ∧ Reps wr B2 g2 kk kk rs2 ∧ Below W.heap.size W wr
set_option maxRecDepth 100000 in
set_option maxHeartbeats 1000000 in
theorem topRuns_mid (C : DetC W best dec) (HR : ActR C) (hd : dec 1 [97] = [97]) (hbest : ∀ l, 0 ≤ best l ∧ best l ≤ 6) (hdl : ∀ e l, 1 ≤ e → e ≤ 6 → (dec e l).length ≤ l.length) (s : ByteArray) (lb lo cap : Nat) (l : List (Int × ByteArray)) (hs : s.size ≤ 140737488355328) (k : Int) (kk : Nat) (hkk : kk ≤ l.length)
    (hlb : l ≠ [] → lb < W.heap.size) (hc : ∀ i (h : i < l.length), W.cell? ⟨lb, lo + i * 2, none⟩ = some (.int .i64 l[i].1) ∧ W.cell? ⟨lb, lo + i * 2 + 1, none⟩ = some (.string l[i].2))
    (hl : decide ((100 : Int) < (l.length : Int)) = false) (hk : (wrap64 (wrap64 (k.tmod ((l.length : Int) + 1) + (l.length : Int)) + 1)).tmod ((l.length : Int) + 1) = (kk : Int)) (hcap : l.length ≤ cap) :
    Calls Tryz.prog 11 #[.string s, .slice (some ⟨lb, lo, none⟩) l.length cap, .int .i64 k] W fun e w' => e = .returned (.bool true) ∧ Below W.heap.size W w' := by
  have HA := hid (alive_any C hd W (Below.refl _ _))
  have hl4 : l.length ≤ 100 := by simp at hl; omega
  have hl5 : (l.length : Int) ≤ 100 := by omega
  have hnz : ((l.length : Int) + 1 == 0) = false := by simp; omega
  have k0 : (0 : Int) ≤ (kk : Int) := by omega
  have k1 : (kk : Int) ≤ (l.length : Int) := by omega
  have k2 : (kk : Int) ≤ (cap : Int) := by omega
  have H1 := hid (fun v w hA hw => run_any C HR s v l w hs hw (by omega) hA)
  have H2 := hid (fun v w hA hw => run_any C HR s v (l.take kk) w hs hw (by simp; omega) hA)
  replace hc := hid hc
  go_enter Tryz.func11, Tryz.ntmps11
  go_wp2_with fail
  refine (HA.out).mono ?_
  rintro r w1 ⟨rfl, hw1⟩
  have hA1 : ActsIn w1 (.slice (some ⟨lb, lo, none⟩) l.length cap) l := Or.inr ⟨lb, lo, cap, rfl, by unfold maxLen; omega, (fun h => Nat.lt_of_lt_of_le (hlb h) hw1.size), fun i hi => by
    have hlb' := hlb (by intro x; simp [x] at hi)
    exact ⟨(World.cell?_of_block (a := ⟨lb, lo + i * 2, none⟩) (hw1.block lb hlb')).trans (hc.out i hi).1, (World.cell?_of_block (a := ⟨lb, lo + i * 2 + 1, none⟩) (hw1.block lb hlb')).trans (hc.out i hi).2⟩⟩
  go_wp2_with (at_builtin; refine list_copy rfl _ (.tmp 35) rfl (v := .slice (some ⟨lb, lo, none⟩) l.length cap) rfl rfl hA1 (by omega) ?_; intro v2 w2 hA2 hb2)
  have hw2 := hw1.trans (hb2.mono hw1.size)
  refine (H1.out _ _ hA2 hw2).mono ?_
  rintro r w3 ⟨g1, rs1, rfl, hP1, hr1, hb3⟩
  have hw3 := hw2.trans (hb3.mono hw2.size)
  have hA3 : ActsIn w3 (.slice (some ⟨lb, lo, none⟩) kk cap) (l.take kk) := Or.inr ⟨lb, lo, cap, by rw [List.length_take, Nat.min_eq_left hkk], by unfold maxLen; simp; omega, (fun h => Nat.lt_of_lt_of_le (hlb (fun e => h (by rw [e]; simp))) hw3.size), fun i hi => by
    have hi' : i < l.length := by simp at hi; omega
    have hlb' := hlb (by intro x; simp [x] at hi')
    simp only [List.getElem_take]
    exact ⟨(World.cell?_of_block (a := ⟨lb, lo + i * 2, none⟩) (hw3.block lb hlb')).trans (hc.out i hi').1, (World.cell?_of_block (a := ⟨lb, lo + i * 2 + 1, none⟩) (hw3.block lb hlb')).trans (hc.out i hi').2⟩⟩
  clear HA H1 hA1 hA2 hb2
  go_wp2_with (at_builtin; refine list_copy rfl _ (.tmp 44) rfl (v := .slice (some ⟨lb, lo, none⟩) kk cap) rfl rfl hA3 (by simp; omega) ?_; intro v4 w4 hA4 hb4)
  have hw4 := hw3.trans (hb4.mono hw3.size)
  refine (H2.out _ _ hA4 hw4).mono ?_
  rintro r w5 ⟨g2, rs2, rfl, hP2, hr2, hb5⟩
  have hw5 := hw4.trans (hb5.mono hw4.size)
  have hP1' := (hP1.below hb4).below hb5
  rw [List.length_take, Nat.min_eq_left hkk] at hP2 ⊢
  have hR : CmpR W l.length kk g1 w2.heap.size g2 w4.heap.size rs1 rs2 (.int .i64 0) w5 := ⟨0, Nat.zero_le _, rfl, hP1', hP2, hw5⟩
  replace hR := hid hR
  have hall : ∀ j (h1 : j < rs1.length) (h2 : j < rs2.length), rs1[j].1 = rs2[j].1 ∧ rs1[j].1.out.length ≤ 100000 := fun j h1 h2 => by
    have e1 : (rs1.map (·.1))[j]? = some rs1[j].1 := by simp [h1]
    have e2 : (rs2.map (·.1))[j]? = some rs2[j].1 := by simp [h2]
    have hp : plainA (l.take kk) = (plainA l).take kk := by unfold plainA; rw [List.map_take]
    rw [hr1] at e1
    rw [hr2, hp, run_take] at e2
    have hj : j < kk := by rw [hP2.len] at h2; exact h2
    rw [List.getElem?_take_of_lt hj, e1] at e2
    have hm := run_out hbest hdl ⟨findL s.data.toList, [], false, 0⟩ (plainA l) (by simp) _ (List.mem_of_getElem? e1)
    exact ⟨by injection e2, by omega⟩
  have hl1 := hP1.len
  have hl2 := hP2.len
  replace hall := hid hall
  replace hl1 := hid hl1
  replace hl2 := hid hl2
  clear hP1 hP1' hP2 hr1 hr2 hb3 hb4 hb5 hw1 hw2 hw3 hw4 hw5 hA3 hA4 H2 HR
  generalize w2.heap.size = B1 at *
  generalize w4.heap.size = B2 at *
  have hll : ((l.length : Int) == (l.length : Int)) = true := by simp
  have hkk2 : ((kk : Int) == (kk : Int)) = true := by simp
  go_wp2_with fail
  go_loopw [11] (fun i wr => CmpR W l.length kk g1 B1 g2 B2 rs1 rs2 i wr) (fun i _ => kk - (intOf i).toNat)
  case atStart => exact hR.out
  case round =>
    clear hR
    obtain ⟨j, hj, rfl, hP1, hP2, hwr⟩ := hrel
    by_cases hlt : j < kk
    · have j0 : (0 : Int) ≤ (j : Int) := by omega
      have j1 : (j : Int) < (kk : Int) := by omega
      have j2 : (j : Int) < (l.length : Int) := by omega
      have h1 : j < rs1.length := by rw [hl1.out]; omega
      have h2 : j < rs2.length := by rw [hl2.out]; omega
      obtain ⟨a0, a1, a2, a3, a4⟩ := hP1.cells j h1
      obtain ⟨c0, c1, c2, c3, c4⟩ := hP2.cells j h2
      obtain ⟨hee, hol⟩ := hall.out j h1 h2
      have ho1 := hP1.outs _ (List.getElem_mem h1)
      have ho2 := hP2.outs _ (List.getElem_mem h2)
      rw [← hee] at c0 c1 c2 c3 c4 ho2
      generalize rs1[j] = q1 at *
      generalize rs2[j] = q2 at *
      obtain ⟨⟨rc, ⟨re, ry, rf⟩, ro⟩, A1, d1⟩ := q1
      obtain ⟨_, A2, d2⟩ := q2
      simp only at a0 a1 a2 a3 a4 c0 c1 c2 c3 c4 ho1 ho2 hol
      have hg1 := hP1.lt.2
      have hg2 := hP2.lt.2
      have HS := hid (sameReply_top rc re ry rf ro A1 A2 d1 d2 B1 B2 wr.drew hol ho1.drew ho2.drew)
      go_wp2_with fail
      go_region_with (go_at_call 23; refine (HS.out).mono ?_; rintro r w6 ⟨rfl, hb6⟩)
      all_goals
        have hb6' : Below wr.heap.size wr w6 := undrew hb6
        go_wp2_with fail
        exact ⟨⟨j + 1, by omega, by go_num, hP1.below hb6', hP2.below hb6', hwr.trans (hb6'.mono hwr.size)⟩, by simp [intOf]; omega⟩
    · have j1 : ¬ (j : Int) < (kk : Int) := by omega
      go_wp2_with fail
      go_ret
      exact ⟨rfl, hwr⟩
set_option maxRecDepth 100000 in
set_option maxHeartbeats 1000000 in
theorem topRuns_nil (C : DetC W best dec) (HR : ActR C) (hd : dec 1 [97] = [97]) (s : ByteArray) (hs : s.size ≤ 140737488355328) (k : Int) :
    Calls Tryz.prog 11 #[.string s, .slice none 0 0, .int .i64 k] W fun e w' => e = .returned (.bool true) ∧ Below W.heap.size W w' := by
  have HA := hid (alive_any C hd W (Below.refl _ _))
  have H1 := hid (fun v w hA hw => run_any C HR s v [] w hs hw (by simp) hA)
  have hk : (wrap64 (wrap64 (k.tmod 1) + 1)).tmod 1 = 0 := by simp [wrap64]
  go_enter Tryz.func11, Tryz.ntmps11
  go_wp2_with fail
  refine (HA.out).mono ?_
  rintro r w1 ⟨rfl, hw1⟩
  go_wp2_with (at_builtin; refine list_copy rfl _ (.tmp 35) rfl (v := .slice none 0 0) (l := []) rfl rfl (Or.inl ⟨rfl, rfl⟩) (by simp) ?_; intro v2 w2 hA2 hb2)
  have hw2 := hw1.trans (hb2.mono hw1.size)
  refine (H1.out _ _ hA2 hw2).mono ?_
  rintro r w3 ⟨g1, rs1, rfl, hP1, hr1, hb3⟩
  have hw3 := hw2.trans (hb3.mono hw2.size)
  simp only [List.length_nil]
  go_wp2_with (at_builtin; refine list_copy rfl _ (.tmp 44) rfl (v := .slice none 0 0) (l := []) rfl rfl (Or.inl ⟨rfl, rfl⟩) (by simp) ?_; intro v4 w4 hA4 hb4)
  have hw4 := hw3.trans (hb4.mono hw3.size)
  refine (H1.out _ _ hA4 hw4).mono ?_
  rintro r w5 ⟨g2, rs2, rfl, hP2, hr2, hb5⟩
  have hw5 := hw4.trans (hb5.mono hw4.size)
  simp only [List.length_nil]
  go_wp2_with fail
  go_loopw [11] (fun i wr => i = .int .i64 0 ∧ wr = w5) (fun _ _ => 0)
  case atStart => exact ⟨rfl, rfl⟩
  case round =>
    obtain ⟨rfl, rfl⟩ := hrel
    go_wp2_with fail
    go_ret
    exact ⟨rfl, hw5⟩
theorem topRuns_true (C : DetC W best dec) (HR : ActR C) (hd : dec 1 [97] = [97]) (hbest : ∀ l, 0 ≤ best l ∧ best l ≤ 6) (hdl : ∀ e l, 1 ≤ e → e ≤ 6 → (dec e l).length ≤ l.length) (s : ByteArray) (A : Option Addr) (cap : Nat) (l : List (Int × ByteArray)) (hA : ActsIn W (.slice A l.length cap) l) (hs : s.size ≤ 140737488355328) (k : Int) (hcap : l.length ≤ cap) :
    Calls Tryz.prog 11 #[.string s, .slice A l.length cap, .int .i64 k] W fun e w' => e = .returned (.bool true) ∧ Below W.heap.size W w' := by
  cases hl : decide ((100 : Int) < (l.length : Int)) with
  | true => exact topRuns_long C hd s A l.length cap k hl
  | false =>
    rcases hA with ⟨e, rfl⟩ | ⟨lb, lo, cap', e, _, hlb, hc⟩
    · injection e with e1 _ e3
      subst e1 e3
      exact topRuns_nil C HR hd s hs k
    · injection e with e1 _ e3
      subst e1 e3
      obtain ⟨kk, hkk, hk⟩ := cut_in l.length (by simp at hl; omega) k
      exact topRuns_mid C HR hd hbest hdl s lb lo cap l hs k kk hkk hlb hc hl hk hcap
end Go.Proofs.YtgfndlbmolnblaaGreatDoor
