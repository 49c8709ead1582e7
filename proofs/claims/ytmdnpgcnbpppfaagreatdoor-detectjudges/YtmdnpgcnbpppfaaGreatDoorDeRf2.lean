/- The reference's TellOf and detector out of its parts' contracts. -/
import Derived.Test.YtmdnpgcnbpppfaaGreatDoorDeRf
import Derived.Deep.RegionWith
import Derived.Deep.DeepCutAuto
namespace Go.Proofs.YtmdnpgcnbpppfaaGreatDoor
open Go.RowKit
attribute [local go_sem ↓] run_eqV run_neV fld_code fld_verdict fld_out

variable {W : World} {best : List UInt8 → Int} {dec : Int → List UInt8 → List Int}
set_option maxRecDepth 100000 in
set_option maxHeartbeats 1000000 in
theorem tellOf_any (R : RefC W best dec) (x : Int) (s : ByteArray) (w : World) (h1 : 1 ≤ x) (h2 : x ≤ 6) (hs : s.size ≤ 4000) (hw : Below W.heap.size W w) :
    Calls Tryz.prog 12 #[.int .i64 x, .string s] w fun e w' => (∃ A c, e = .returned (.slice A (tellP dec x s.data.toList).length c) ∧ Out w' w.heap.size (.slice A (tellP dec x s.data.toList).length c) (tellP dec x s.data.toList)) ∧ Below w.heap.size w w' := by
  have HM := hid (R.mark s w hs hw)
  have hmi := markL_in s.data.toList
  unfold tellP
  by_cases hm : 0 < (markL s.data.toList).1 ∧ (markL s.data.toList).1 = x
  · rw [if_pos hm]
    have hn : 0 ≤ (markL s.data.toList).2 ∧ (markL s.data.toList).2 ≤ (s.size : Int) := by
      have hsz : s.size = s.data.toList.length := Array.length_toList.symm
      have := markL_le s.data.toList
      omega
    have hcut := extP_drop s (markL s.data.toList).2.toNat
    have hcs : (s.extract (markL s.data.toList).2.toNat s.size).size ≤ 4000 := by simp; omega
    have HW := fun w1 hw1 => R.whole x (s.extract (markL s.data.toList).2.toNat s.size) w1 h1 h2 hcs hw1
    simp only [hcut] at HW
    generalize dec x (s.data.toList.drop (markL s.data.toList).2.toNat) = D at *
    obtain ⟨m1, m2⟩ := hm
    obtain ⟨n1, n2⟩ := hn
    clear hmi hcut hcs
    generalize (markL s.data.toList).1 = m at *
    generalize (markL s.data.toList).2 = n at *
    have m3 : (m == x) = true := by simpa using m2
    replace HW := hid HW
    subst m2
    go_enter Tryz.func12, Tryz.ntmps12
    go_wp2_with fail
    refine (HM.out).mono ?_
    rintro r w1 ⟨rfl, hb1⟩
    have hw1 := hw.trans (hb1.mono hw.size)
    go_wp2_with fail
    refine (HW.out _ hw1).mono ?_
    rintro r w2 ⟨⟨A, c, rfl, hO⟩, hb2⟩
    go_wp2_with fail
    go_ret
    exact ⟨⟨A, c, rfl, hO.base hb1.size⟩, hb1.trans (hb2.mono hb1.size)⟩
  · rw [if_neg hm]
    have HW := hid (fun w1 hw1 => R.whole x s w1 h1 h2 hs hw1)
    generalize dec x s.data.toList = D at *
    clear hmi
    generalize (markL s.data.toList).1 = m at *
    generalize (markL s.data.toList).2 = n at *
    have hq : decide (0 < m) = false ∨ (decide (0 < m) = true ∧ (m == x) = false) := by
      by_cases h6 : 0 < m
      · exact Or.inr ⟨decide_eq_true h6, by simpa using fun y => hm ⟨h6, y⟩⟩
      · exact Or.inl (decide_eq_false h6)
    clear hm
    rcases hq with hq | ⟨hq, hq2⟩
    all_goals
      go_enter Tryz.func12, Tryz.ntmps12
      go_wp2_with fail
      refine (HM.out).mono ?_
      rintro r w1 ⟨rfl, hb1⟩
      have hw1 := hw.trans (hb1.mono hw.size)
      go_wp2_with fail
      refine (HW.out _ hw1).mono ?_
      rintro r w2 ⟨⟨A, c, rfl, hO⟩, hb2⟩
      go_wp2_with fail
      go_ret
      exact ⟨⟨A, c, rfl, hO.base hb1.size⟩, hb1.trans (hb2.mono hb1.size)⟩
/-- The reference's detector lies in a block. -/
structure HasD (w : World) (b : Nat) (s : ByteArray) (d : Dt) : Prop where
  c0 : w.cell? ⟨b, 0, none⟩ = some (.int .i64 d.hint)
  c1 : w.cell? ⟨b, 1, none⟩ = some (.string s)
  c2 : w.cell? ⟨b, 2, none⟩ = some (.bool d.ended)
  c3 : w.cell? ⟨b, 3, none⟩ = some (.int .i64 (d.acts : Int))
  fz : ∀ i, w.frozen? ⟨b, i, none⟩ = false
  tx : s.data.toList = d.l
theorem HasD.lt {w : World} {b : Nat} {s : ByteArray} {d : Dt} (h : HasD w b s d) : b < w.heap.size := World.block_lt_of_cell? w _ h.c0
theorem HasD.keep {w w' : World} {b : Nat} {s : ByteArray} {d : Dt} (h : HasD w b s d) (hk : w'.heap[b]? = w.heap[b]?) : HasD w' b s d :=
  have q : ∀ i, w'.cell? ⟨b, i, none⟩ = w.cell? ⟨b, i, none⟩ := fun i => World.cell?_of_block (a := ⟨b, i, none⟩) hk
  ⟨(q 0).trans h.c0, (q 1).trans h.c1, (q 2).trans h.c2, (q 3).trans h.c3, fun i => (World.frozen?_of_block (a := ⟨b, i, none⟩) hk).trans (h.fz i), h.tx⟩
theorem HasD.below {w w' : World} {b : Nat} {s : ByteArray} {d : Dt} (h : HasD w b s d) (hb : Below w.heap.size w w') : HasD w' b s d := h.keep (hb.block b h.lt)
theorem HasD.alloc {w : World} {b : Nat} {s : ByteArray} {d : Dt} (h : HasD w b s d) (o : Obj) : HasD (w.alloc o) b s d := h.keep (Below.heap_alloc w o b h.lt)
/-- Behind the reference's first judgement. -/
def JdR (w : World) (b : Nat) (s : ByteArray) (d : Dt) (je jy : Int) (v : Value) (wx : World) : Prop :=
  ∃ vb, v = .pointer (some ⟨vb, 0, none⟩) ∧ Has3 wx vb ⟨je, jy, false⟩ ∧ Has3 wx w.heap.size ⟨0, 0, false⟩ ∧ HasD wx b s d ∧ Below w.heap.size w wx ∧ vb ≠ w.heap.size ∧ w.heap.size ≤ vb
set_option maxRecDepth 100000 in
set_option maxHeartbeats 1000000 in
theorem refVerdict_any (R : RefC W best dec) (b : Nat) (s : ByteArray) (d : Dt) (w : World) (hs : s.size ≤ 4000) (hw : Below W.heap.size W w) (hD : HasD w b s d) :
    Calls Tryz.prog 35 #[.pointer (some ⟨b, 0, none⟩)] w fun e w' => e = .returned (.agg #[.int .i64 (d.verdict best).enc, .int .i64 (d.verdict best).why, .bool (d.verdict best).fin]) ∧ Below w.heap.size w w' := by
  have HJ := fun w1 hw1 => judgeOf_any R d.hint s w1 hs hw1
  have HY := fun w1 hw1 => R.may s w1 hs hw1
  have hlt := hD.lt
  have hvd : d.verdict best = ⟨(judgeP best d.hint d.l).1, (judgeP best d.hint d.l).2, finP d.ended (judgeP best d.hint d.l).2 d.l⟩ := rfl
  rw [hvd]
  simp only [hD.tx] at HJ HY
  simp only [finP]
  generalize (judgeP best d.hint d.l).1 = je at *
  generalize (judgeP best d.hint d.l).2 = jy at *
  generalize mayL d.l = my at *
  replace HJ := hid HJ
  replace HY := hid HY
  have hv0 := Has3.new w ⟨0, 0, false⟩ 24
  have hb0 : Below w.heap.size w (w.alloc (.cells #[.int .i64 0, .int .i64 0, .bool false] 24)) := (Below.refl _ _).alloc (Nat.le_refl _) _
  have hD0 := hD.below hb0
  have hw0 := hw.trans (hb0.mono hw.size)
  have hl0 := hD0.lt
  simp only at hv0
  have kD := hD0
  obtain ⟨c0, c1, c2, c3, cz, tx⟩ := hD
  go_enter Tryz.func35, Tryz.ntmps35
  go_upto_region 1 with fail
  go_cut [3] (fun v wx => JdR w b s d je jy v wx)
  case first =>
    go_region_with (first
      | (go_at_call 9; refine (HJ.out _ ?_).mono ?_; exact hw0.drew; rintro r w1 ⟨rfl, hb1⟩; have hk1 : Below (w.alloc (.cells #[.int .i64 0, .int .i64 0, .bool false] 24)).heap.size (w.alloc (.cells #[.int .i64 0, .int .i64 0, .bool false] 24)) w1 := undrew hb1)
      | (go_at_call 9; refine (HJ.out _ ?_).mono ?_; exact (hw0.alloc hw0.size _).drew; rintro r w1 ⟨rfl, hb1⟩; have hk2 := undrew hb1; have hN := (Has3.new (w.alloc (.cells #[.int .i64 0, .int .i64 0, .bool false] 24)) ⟨0, 0, false⟩ 24).below hk2; simp only [World.size_alloc] at hN; have kN := hN; obtain ⟨n0, n1, n2, nz⟩ := kN))
    all_goals
      go_wp2_with fail
      go_meet
      first
        | exact ⟨w1.heap.size, rfl, Has3.new w1 ⟨je, jy, false⟩ _, (hv0.below hk1).alloc _, (hD0.below hk1).alloc _, (hb0.trans (hk1.mono hb0.size)).alloc (hb0.trans (hk1.mono hb0.size)).size _, by have := hk1.size; simp at this; omega, by have := hk1.size; simp at this; omega⟩
        | exact ⟨w.heap.size + 1, rfl, hN.put ⟨je, jy, false⟩, ((hv0.alloc _).below hk2).keep (far3 _ _ _ (by omega) _ _ _), ((hD0.alloc _).below hk2).keep (far3 _ _ _ (by omega) _ _ _), put3 ((hb0.alloc hb0.size _).trans (hk2.mono (hb0.alloc hb0.size _).size)) (by omega) _ _ _, by omega, by omega⟩
  case rest =>
    obtain ⟨vb, rfl, hV, hRs, hDx, hbx, hne, hle⟩ := hcut
    have hwx := hw.trans (hbx.mono hw.size)
    have kV := hV
    have kD := hDx
    have kR := hRs
    obtain ⟨v0, v1, v2, vz⟩ := kV
    obtain ⟨d0, d1, d2, d3, dz, dx⟩ := kD
    obtain ⟨r0, r1, r2, rz⟩ := kR
    simp only at v0 v1 v2 r0 r1 r2
    rcases Bool.eq_false_or_eq_true d.ended with hen | hen
    · rw [hen] at d2
      go_wp2_with fail
      exact bodyPost_ret (ret_V rfl rfl ((hRs.keep (Below.heap_setCell wc ⟨vb, 2, none⟩ _ w.heap.size hne.symm)).put ⟨je, jy, true⟩)) rfl ⟨by simp [*], put3 (hbx.setCell (p := ⟨vb, 2, none⟩) hle _) (Nat.le_refl _) _ _ _⟩
    · rw [hen] at d2
      by_cases j1 : jy = 1
      · subst j1
        go_wp2_with fail
        exact bodyPost_ret (ret_V rfl rfl ((hRs.keep (Below.heap_setCell wc ⟨vb, 2, none⟩ _ w.heap.size hne.symm)).put ⟨je, 1, true⟩)) rfl ⟨by simp [*], put3 (hbx.setCell (p := ⟨vb, 2, none⟩) hle _) (Nat.le_refl _) _ _ _⟩
      · have e1 : (jy == 1) = false := by simpa using j1
        by_cases j2 : jy = 2
        · subst j2
          go_wp2_with fail
          refine (HY.out _ hwx).mono ?_
          rintro r w2 ⟨rfl, hb2⟩
          obtain ⟨v0, v1, v2, vz⟩ := hV.below hb2
          obtain ⟨r0, r1, r2, rz⟩ := hRs.below hb2
          simp only at v0 v1 v2 r0 r1 r2
          have hb3 := hbx.trans (hb2.mono hbx.size)
          go_wp2_with fail
          exact bodyPost_ret (ret_V rfl rfl (((hRs.below hb2).keep (Below.heap_setCell w2 ⟨vb, 2, none⟩ _ w.heap.size hne.symm)).put ⟨je, 2, !my⟩)) rfl ⟨by simp [*], put3 (hb3.setCell (p := ⟨vb, 2, none⟩) hle _) (Nat.le_refl _) _ _ _⟩
        · have e2 : (jy == 2) = false := by simpa using j2
          by_cases j3 : jy = 3
          · subst j3
            go_wp2_with fail
            refine (HY.out _ hwx).mono ?_
            rintro r w2 ⟨rfl, hb2⟩
            obtain ⟨v0, v1, v2, vz⟩ := hV.below hb2
            obtain ⟨r0, r1, r2, rz⟩ := hRs.below hb2
            simp only at v0 v1 v2 r0 r1 r2
            have hb3 := hbx.trans (hb2.mono hbx.size)
            go_wp2_with fail
            exact bodyPost_ret (ret_V rfl rfl (((hRs.below hb2).keep (Below.heap_setCell w2 ⟨vb, 2, none⟩ _ w.heap.size hne.symm)).put ⟨je, 3, !my⟩)) rfl ⟨by simp [*], put3 (hb3.setCell (p := ⟨vb, 2, none⟩) hle _) (Nat.le_refl _) _ _ _⟩
          · have e3 : (jy == 3) = false := by simpa using j3
            go_wp2_with fail
            exact bodyPost_ret (ret_V rfl rfl ((hRs.keep (Below.heap_setCell wc ⟨vb, 2, none⟩ _ w.heap.size hne.symm)).put ⟨je, jy, false⟩)) rfl ⟨by simp [*], put3 (hbx.setCell (p := ⟨vb, 2, none⟩) hle _) (Nat.le_refl _) _ _ _⟩
end Go.Proofs.YtmdnpgcnbpppfaaGreatDoor
