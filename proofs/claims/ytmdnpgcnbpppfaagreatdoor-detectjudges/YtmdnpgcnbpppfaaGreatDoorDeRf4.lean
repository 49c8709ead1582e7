/- The reference's detector: the finish, and every act. -/
import Derived.Test.YtmdnpgcnbpppfaaGreatDoorDeRf3
namespace Go.Proofs.YtmdnpgcnbpppfaaGreatDoor
open Go.RowKit
attribute [local go_sem ↓] run_eqV run_neV fld_code fld_verdict fld_out

variable {W : World} {best : List UInt8 → Int} {dec : Int → List UInt8 → List Int}
set_option maxRecDepth 100000 in
set_option maxHeartbeats 1000000 in
theorem refDo_finish (R : RefC W best dec) (b : Nat) (s t : ByteArray) (d : Dt) (w : World) (hw : Below W.heap.size W w) (hbW : W.heap.size ≤ b) (hs : s.size ≤ 4000) (hD : HasD w b s d) (hf : ((d.acts : Int) == 300) = false) (hf2 : (d.acts : Int) ≤ 299) (he : d.ended = false) (ve vy : Int) (vf : Bool) (T : List Int) (hv : Hid (Dt.verdict best { d with ended := true } = ⟨ve, vy, vf⟩)) (h1 : 1 ≤ ve) (h2 : ve ≤ 6) (hT : Hid (tellP dec ve d.l = T)) :
    Calls Tryz.prog 18 #[.pointer (some ⟨b, 0, none⟩), .agg #[.int .i64 3, .string t]] w (RDo w b ⟨0, ⟨ve, vy, vf⟩, T⟩ { d with ended := true, acts := d.acts + 1 }) := by
  have hlt := hD.lt
  have kD := hD
  obtain ⟨c0, c1, c2, c3, cz, tx⟩ := kD
  rw [he] at c2
  have hDE := hD.count.end_
  have hR := Has5.new2 ((w.setCell ⟨b, 3, none⟩ (.int .i64 ((d.acts : Int) + 1))).setCell ⟨b, 2, none⟩ (.bool true)) (.cells #[.int .i64 3, .string t] 31) w.heap.size (by simp [World.setCell]) 0 0 0 false none 0 0 36
  have hDD := (hDE.alloc (.cells #[.int .i64 3, .string t] 31)).alloc (.cells #[.int .i64 0, .int .i64 0, .int .i64 0, .bool false, .slice none 0 0] 36)
  have hO := ((((Only.refl (fun x => x = b) w).set rfl 3 (.int .i64 ((d.acts : Int) + 1))).set rfl 2 (.bool true)).alloc (.cells #[.int .i64 3, .string t] 31)).alloc (.cells #[.int .i64 0, .int .i64 0, .int .i64 0, .bool false, .slice none 0 0] 36)
  have hRz : ∀ i, ((((w.setCell ⟨b, 3, none⟩ (.int .i64 ((d.acts : Int) + 1))).setCell ⟨b, 2, none⟩ (.bool true)).alloc (.cells #[.int .i64 3, .string t] 31)).alloc (.cells #[.int .i64 0, .int .i64 0, .int .i64 0, .bool false, .slice none 0 0] 36)).frozen? ⟨w.heap.size + 1, i, none⟩ = false := fun i => by simp [go_sem, World.setCell]
  have hwU := hw.trans (hO.below hw.size (fun k hk => by subst hk; exact hbW))
  have HV := refVerdict_any R b s _ _ hs hwU hDD
  rw [show Dt.verdict best { d with acts := d.acts + 1, ended := true } = ⟨ve, vy, vf⟩ from (verdict_same best _ { d with ended := true } rfl rfl rfl).trans hv.out] at HV
  replace HV := hid HV
  go_enter Tryz.func18, Tryz.ntmps18
  go_wp2_with fail
  generalize (((w.setCell ⟨b, 3, none⟩ (.int .i64 ((d.acts : Int) + 1))).setCell ⟨b, 2, none⟩ (.bool true)).alloc (.cells #[.int .i64 3, .string t] 31)).alloc (.cells #[.int .i64 0, .int .i64 0, .int .i64 0, .bool false, .slice none 0 0] 36) = u at *
  refine (HV.out).mono ?_
  rintro r u1 ⟨rfl, hb1⟩
  have hR1 := hR.below hb1
  have hz1 : ∀ i, u1.frozen? ⟨w.heap.size + 1, i, none⟩ = false := fun i => (World.frozen?_of_block (a := ⟨w.heap.size + 1, i, none⟩) (hb1.block _ hR.lt)).trans (hRz i)
  have hD1 := hDD.below hb1
  have hl1 := hD1.lt
  have hlr := hR1.lt
  have k1 := hD1
  obtain ⟨d0, d1, d2, d3, dz, dx⟩ := k1
  simp only
  go_wp2_with fail
  clear d0 d1 d2 d3 dz dx
  have hV2 := Has3.new u1 ⟨ve, vy, vf⟩ 24
  have hR2 := hR1.alloc (.cells #[.int .i64 ve, .int .i64 vy, .bool vf] 24)
  have hD2 := hD1.alloc (.cells #[.int .i64 ve, .int .i64 vy, .bool vf] 24)
  have b12 : Below u1.heap.size u1 (u1.alloc (.cells #[.int .i64 ve, .int .i64 vy, .bool vf] 24)) := (Below.refl _ _).alloc (Nat.le_refl _) _
  have hz2 : ∀ i, (u1.alloc (.cells #[.int .i64 ve, .int .i64 vy, .bool vf] 24)).frozen? ⟨w.heap.size + 1, i, none⟩ = false := fun i => (World.frozen?_of_block (a := ⟨w.heap.size + 1, i, none⟩) (b12.block _ hlr)).trans (hz1 i)
  have hO2 := (hO.trans (Only.of (fun _ => False) hb1) (fun _ h => h.elim)).trans (Only.of (fun _ => False) b12) (fun _ h => h.elim)
  have hw2 := hw.trans (hO2.below hw.size (fun k hk => by subst hk; exact hbW))
  simp only at hV2
  generalize u1.alloc (.cells #[.int .i64 ve, .int .i64 vy, .bool vf] 24) = u2 at *
  generalize u1.heap.size = vb at *
  have HT := fun w1 hw1 => tellOf_any R ve s w1 h1 h2 hs hw1
  simp only [tx, hT.out] at HT
  replace HT := hid HT
  have k1 := hD2
  obtain ⟨d0, d1, d2, d3, dz, dx⟩ := k1
  have k2 := hV2
  obtain ⟨v0, v1, v2, vz⟩ := k2
  simp only at v0 v1 v2 d0 d1 d2 d3
  have k3 := hR2
  obtain ⟨r0, r1, r2, r3, r4⟩ := k3
  go_region_with (first
    | (go_at_call 12; refine (HT.out _ ?_).mono ?_; exact hw2.drew; rintro r u3 ⟨⟨A3, c3', rfl, hO3⟩, b3⟩; have b3' : Below u2.heap.size u2 u3 := undrew b3; obtain ⟨x0, x1, x2, xz⟩ := hV2.below b3'; simp only at x0 x1 x2; have hR3 := hR2.below b3'; have k4 := hR3; obtain ⟨y0, y1, y2, y3, y4⟩ := k4; have hz3 : ∀ i, u3.frozen? ⟨w.heap.size + 1, i, none⟩ = false := fun i => (World.frozen?_of_block (a := ⟨w.heap.size + 1, i, none⟩) (b3'.block _ hR2.lt)).trans (hz2 i)))
  all_goals (go_wp2_with fail)
  all_goals
    have hrb : w.heap.size + 1 < u2.drew.heap.size := hR2.lt
    exact bodyPost_ret (ret_R rfl rfl (hR3.put5 0 ve vy vf A3 T.length c3')) rfl ⟨⟨A3, c3', rfl, (((((hO3.set1 hrb 0 _).set1 hrb 1 _).set1 hrb 2 _).set1 hrb 3 _).set1 hrb 4 _).base hO2.size⟩, ⟨_, (hD2.below b3').keep (far5 _ (w.heap.size + 1) b (by omega) _ _ _ _ _)⟩, (hO2.trans (Only.of (fun _ => False) b3') (fun _ h => h.elim)).own5 (by omega) _ _ _ _ _⟩
theorem refDo_any (R : RefC W best dec) (hbest : ∀ l, 0 ≤ best l ∧ best l ≤ 6) (b : Nat) (s t : ByteArray) (d : Dt) (k : Int) (w : World) (hw : Below W.heap.size W w) (hbW : W.heap.size ≤ b) (hD : HasD w b s d) (hl : d.l.length ≤ 4000) (ha : d.acts ≤ 300) (ht : t.size ≤ 140737488355328) :
    Calls Tryz.prog 18 #[.pointer (some ⟨b, 0, none⟩), .agg #[.int .i64 k, .string t]] w (RDo w b (Dt.act best dec d k t.data.toList).1 (Dt.act best dec d k t.data.toList).2) := by
  have hsz : s.size = d.l.length := by rw [← hD.tx]; exact Array.length_toList.symm
  have htz : t.data.toList.length = t.size := Array.length_toList
  unfold Dt.act
  by_cases h0 : d.acts = 300
  · rw [if_pos h0]
    exact refDo_full b s t d k w hD h0
  rw [if_neg h0]
  have hf : ((d.acts : Int) == 300) = false := by simp; omega
  have hf2 : (d.acts : Int) ≤ 299 := by omega
  by_cases h1 : k < 1
  · rw [if_pos (Or.inl h1)]
    exact refDo_low b s t d k w hD hf hf2 (decide_eq_true h1)
  by_cases h3 : 3 < k
  · rw [if_pos (Or.inr h3)]
    exact refDo_high b s t d k w hD hf hf2 (decide_eq_false h1) (decide_eq_true h3)
  rw [if_neg (by omega)]
  by_cases h2 : k = 2
  · subst h2
    rw [if_pos rfl]
    generalize hv : d.verdict best = v
    obtain ⟨ve, vy, vf⟩ := v
    exact refDo_ask R b s t d w hw hbW (by omega) hD hf hf2 ve vy vf (hid hv)
  rw [if_neg h2]
  have e2 : (k == 2) = false := by simpa using h2
  rcases Bool.eq_false_or_eq_true d.ended with he | he
  · rw [if_pos he]
    exact refDo_ended b s t d k w hD hf hf2 (decide_eq_false h1) (decide_eq_false h3) e2 he
  rw [if_neg (by simp [he])]
  by_cases h4 : k = 3
  · subst h4
    rw [if_pos rfl]
    have hin := verdict_in hbest { d with ended := true }
    have hvj : (Dt.verdict best { d with ended := true }).enc = (judgeP best d.hint d.l).1 := rfl
    rw [← hvj]
    generalize hv : Dt.verdict best { d with ended := true } = v at *
    obtain ⟨ve, vy, vf⟩ := v
    exact refDo_finish R b s t d w hw hbW (by omega) hD hf hf2 he ve vy vf _ (hid hv) hin.1.1 hin.1.2 (hid rfl)
  rw [if_neg h4]
  have e4 : (k == 3) = false := by simpa using h4
  by_cases h5 : 4000 < d.l.length + t.data.toList.length
  · rw [if_pos h5]
    exact refDo_long b s t d k w hD hf hf2 (decide_eq_false h1) (decide_eq_false h3) e2 he e4 (by omega) (by omega) (decide_eq_true (by omega))
  · rw [if_neg h5]
    exact refDo_feed b s t d k w hD hf hf2 (decide_eq_false h1) (decide_eq_false h3) e2 he e4 (by omega) (by omega) (decide_eq_false (by omega))
end Go.Proofs.YtmdnpgcnbpppfaaGreatDoor
