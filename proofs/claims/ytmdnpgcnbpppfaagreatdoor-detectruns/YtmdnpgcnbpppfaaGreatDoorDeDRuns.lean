/- The statement DetectRuns out of a detector's and the reference's contracts. -/
import Derived.Test.YtmdnpgcnbpppfaaGreatDoorDePlays
namespace Go.Proofs.YtmdnpgcnbpppfaaGreatDoor
open Go.RowKit
attribute [local go_sem ↓] run_eqV run_neV fld_code fld_verdict fld_out

variable {W : World} {best : List UInt8 → Int} {dec : Int → List UInt8 → List Int}
theorem run_at (h0 : Int) (l : List (Int × ByteArray)) (j : Nat) (h : j < l.length) : (Dt.run best dec ⟨h0, [], false, 0⟩ (plainA l))[j]? = some (Dt.act best dec (dtAt best dec h0 l j) l[j].1 l[j].2.data.toList).1 := by
  have hp : ∀ k, plainA (l.take k) = (plainA l).take k := fun k => by unfold plainA; rw [List.map_take]
  have e1 := run_next (best := best) (dec := dec) h0 l j h
  rw [hp, run_take] at e1
  have e2 : (List.take (j + 1) (Dt.run best dec ⟨h0, [], false, 0⟩ (plainA l)))[j]? = (Dt.run best dec ⟨h0, [], false, 0⟩ (plainA l))[j]? := List.getElem?_take_of_lt (by omega)
  rw [← e2, e1]
  have hlen : (Dt.run best dec ⟨h0, [], false, 0⟩ (plainA (l.take j))).length = j := by
    rw [run_len]; unfold plainA; rw [List.length_map, List.length_take]; omega
  rw [List.getElem?_append_right (by omega), hlen, Nat.sub_self]
  rfl
/-- One act that is none. -/
theorem one_act (w : World) : ActsIn (w.alloc (.cells #[.int .i64 99, .string ⟨#[]⟩] 31)) (.slice (some ⟨w.heap.size, 0, none⟩) 1 1) [(99, ⟨#[]⟩)] :=
  Or.inr ⟨w.heap.size, 0, 1, rfl, by simp [maxLen], (fun _ => by simp), fun i hi => by
    obtain rfl : i = 0 := by simp at hi; omega
    exact ⟨by simp [go_sem], by simp [go_sem]⟩⟩
theorem ActsIn.shape {w : World} {v : Value} {l : List (Int × ByteArray)} (h : ActsIn w v l) : ∃ A c, v = .slice A l.length c := by
  rcases h with ⟨rfl, rfl⟩ | ⟨lb, lo, cap, rfl, _⟩
  · exact ⟨none, 0, rfl⟩
  · exact ⟨_, _, rfl⟩
set_option maxRecDepth 100000 in
set_option maxHeartbeats 1000000 in
theorem detectRuns_full (C : DetC W best dec) (HR : ActR C) (s : ByteArray) (A : Option Addr) (cap : Nat) (l : List (Int × ByteArray)) (hA : ActsIn W (.slice A l.length cap) l) (hs : s.size ≤ 140737488355328) (hn : l.length * 24 ≤ 140737488355328) (hl : decide ((300 : Int) < (l.length : Int)) = true) :
    Calls Tryz.prog 6 #[.string s, .slice A l.length cap] W fun e w' => e = .returned (.bool true) ∧ Below W.heap.size W w' := by
  have hl2 : (300 : Int) < (l.length : Int) := of_decide_eq_true hl
  have H1 := hid (fun A c w => run_full s A l.length c w hl2)
  have H2 := hid (fun w hw => run_any C HR s _ [(99, ⟨#[]⟩)] _ hs hw (by simp) (one_act w))
  go_enter Tryz.func6, Tryz.ntmps6
  go_wp2_with (at_builtin; refine list_copy rfl _ (.tmp 13) rfl (v := .slice A l.length cap) rfl rfl hA hn ?_; intro v1 w1 hA1 hw1; obtain ⟨A1, c1, rfl⟩ := hA1.shape)
  refine (H1.out _ _ _).mono ?_
  rintro r w2 ⟨rfl, rfl⟩
  have hw2 := hw1.alloc hw1.size (.cells #[.int .i64 99, .string ⟨#[]⟩] 31)
  go_wp2_with fail
  refine (H2.out _ hw2).mono ?_
  rintro r w3 ⟨g, rs, rfl, hP, hr, hb3⟩
  have hw3 := hw2.trans (hb3.mono hw2.size)
  simp only [List.length_cons, List.length_nil, Nat.zero_add]
  go_wp2_with fail
  go_ret
  exact ⟨rfl, hw3⟩
/-- What holds at the head of the loop. -/
def DrR (best : List UInt8 → Int) (dec : Int → List UInt8 → List Int) (W : World) (l : List (Int × ByteArray)) (h0 : Int) (g B rb : Nat) (rs : List (Rp × Option Addr × Nat)) (i : Value) (wr : World) : Prop :=
  ∃ (j : Nat) (s : ByteArray), j ≤ l.length ∧ i = .int .i64 j ∧ Reps wr B g l.length l.length rs ∧ HasD wr rb s (dtAt best dec h0 l j) ∧ Below W.heap.size W wr
set_option maxRecDepth 100000 in
set_option maxHeartbeats 4000000 in
theorem detectRuns_mid (C : DetC W best dec) (HR : ActR C) (R : RefC W best dec) (hbest : ∀ l, 0 ≤ best l ∧ best l ≤ 6) (hdl : ∀ e l, 1 ≤ e → e ≤ 6 → (dec e l).length ≤ l.length) (s : ByteArray) (lb lo cap : Nat) (l : List (Int × ByteArray)) (hs : s.size ≤ 140737488355328) (hlb : l ≠ [] → lb < W.heap.size) (hts : ∀ i (h : i < l.length), l[i].2.size ≤ 140737488355328)
    (hc : ∀ i (h : i < l.length), W.cell? ⟨lb, lo + i * 2, none⟩ = some (.int .i64 l[i].1) ∧ W.cell? ⟨lb, lo + i * 2 + 1, none⟩ = some (.string l[i].2)) (hl : decide ((300 : Int) < (l.length : Int)) = false)
    (HF : Hid (∀ w, Below W.heap.size W w → Calls Tryz.prog 17 #[.string s] w fun e w' => e = .returned (.int .i64 (findL s.data.toList)) ∧ Below w.heap.size w w')) :
    Calls Tryz.prog 6 #[.string s, .slice (some ⟨lb, lo, none⟩) l.length cap] W fun e w' => e = .returned (.bool true) ∧ Below W.heap.size W w' := by
  have hl3 : l.length ≤ 300 := by simp at hl; omega
  have hA : ActsIn W (.slice (some ⟨lb, lo, none⟩) l.length cap) l := Or.inr ⟨lb, lo, cap, rfl, by unfold maxLen; omega, hlb, hc⟩
  have H1 := hid (fun v w hA hw => run_any C HR s v l w hs hw hl3 hA)
  have H2 := hid (fun w hw => run_any C HR s _ [(99, ⟨#[]⟩)] _ hs hw (by simp) (one_act w))
  replace hc := hid hc
  go_enter Tryz.func6, Tryz.ntmps6
  go_wp2_with (at_builtin; refine list_copy rfl _ (.tmp 13) rfl (v := .slice (some ⟨lb, lo, none⟩) l.length cap) rfl rfl hA (by omega) ?_; intro v1 w1 hA1 hw1)
  refine (H1.out _ _ hA1 hw1).mono ?_
  rintro r w2 ⟨g, rs, rfl, hP, hr, hb2⟩
  have hw2 := hw1.trans (hb2.mono hw1.size)
  have hw2' := hw2.alloc hw2.size (.cells #[.int .i64 99, .string ⟨#[]⟩] 31)
  go_wp2_with fail
  refine (H2.out _ hw2').mono ?_
  rintro r w3 ⟨g3, rs3, rfl, hP3, hr3, hb3⟩
  have hw3 := hw2'.trans (hb3.mono hw2'.size)
  have hPa := hP.below (one_box hb3)
  simp only [List.length_cons, List.length_nil, Nat.zero_add]
  clear hP3 hr3 hb3 hw2' H1 H2 hP hb2 hA1
  go_wp2_with fail
  refine (HF.out _ hw3).mono ?_
  rintro r w4 ⟨rfl, hb4⟩
  have hPb := hPa.below hb4
  have hw4 := hw3.trans (hb4.mono hw3.size)
  have hbx : Below w4.heap.size w4 (w4.alloc (.cells #[.int .i64 (findL s.data.toList), .string ⟨#[]⟩, .bool false, .int .i64 0] 45)) := (Below.refl _ _).alloc (Nat.le_refl _) _
  have hPc := hPb.below hbx
  have hw5 := hw4.trans (hbx.mono hw4.size)
  have hG5 := HasD.new w4 (findL s.data.toList) 45
  have hgr := hPb.lt.2
  have hor : ∀ p ∈ rs, ∀ x, (Value.slice p.2.1 p.1.out.length p.2.2).ownBlock = some x → ¬ x = w4.heap.size := fun p hp x hx => by
    have := ((hPb.outs p hp).own x hx).2; omega
  have hbW := hw4.size
  have hR : DrR best dec W l (findL s.data.toList) g w1.heap.size w4.heap.size rs (.int .i64 0) (w4.alloc (.cells #[.int .i64 (findL s.data.toList), .string ⟨#[]⟩, .bool false, .int .i64 0] 45)) := ⟨0, ⟨#[]⟩, Nat.zero_le _, rfl, hPc, hG5, hw5⟩
  replace hR := hid hR
  have hall : ∀ j (h1 : j < rs.length) (h2 : j < l.length), rs[j].1 = (Dt.act best dec (dtAt best dec (findL s.data.toList) l j) l[j].1 l[j].2.data.toList).1 ∧ rs[j].1.out.length ≤ 100000 := fun j h1 h2 => by
    have e1 : (rs.map (·.1))[j]? = some rs[j].1 := by simp [h1]
    rw [hr] at e1
    have hm := run_out hbest hdl ⟨findL s.data.toList, [], false, 0⟩ (plainA l) (by simp) _ (List.mem_of_getElem? e1)
    rw [run_at _ _ _ h2] at e1
    exact ⟨by injection e1 with e1; exact e1.symm, by omega⟩
  have hl1 := hPb.len
  replace hall := hid hall
  replace hl1 := hid hl1
  replace hor := hid hor
  have hgn : ¬ g = w4.heap.size := by omega
  clear hPa hPb hPc hr hb4 hbx hw3 hw4 hw5 hw2 hw1 hG5 HF HR hA hgr
  have hll : ((l.length : Int) == (l.length : Int)) = true := by simp
  generalize findL s.data.toList = h0 at *
  go_wp2_with fail
  generalize w4.heap.size = rb at *
  generalize w1.heap.size = B at *
  go_loopw [10] (fun i wr => DrR best dec W l h0 g B rb rs i wr) (fun i _ => l.length - (intOf i).toNat)
  case atStart => exact hR.out
  case round =>
    clear hR
    obtain ⟨j, sk, hj, rfl, hP, hG, hwr⟩ := hrel
    by_cases hlt : j < l.length
    · have j0 : (0 : Int) ≤ (j : Int) := by omega
      have j1 : (j : Int) < (l.length : Int) := by omega
      have h1 : j < rs.length := by rw [hl1.out]; omega
      have hlb' := hlb (by intro x; simp [x] at hlt)
      have cells : ∀ u, Below W.heap.size W u → u.cell? ⟨lb, lo + j * 2, none⟩ = some (.int .i64 l[j].1) ∧ u.cell? ⟨lb, lo + j * 2 + 1, none⟩ = some (.string l[j].2) := fun u hu => ⟨(World.cell?_of_block (a := ⟨lb, lo + j * 2, none⟩) (hu.block lb hlb')).trans (hc.out j hlt).1, (World.cell?_of_block (a := ⟨lb, lo + j * 2 + 1, none⟩) (hu.block lb hlb')).trans (hc.out j hlt).2⟩
      obtain ⟨e0, e1⟩ := cells wr hwr
      clear cells
      have hll2 := dtAt_long (best := best) (dec := dec) h0 l j
      have haa := dtAt_acts (best := best) (dec := dec) h0 l j hj (by omega)
      have htk := hts j hlt
      have H2 := fun w hw hD => refDo_any R hbest rb sk l[j].2 (dtAt best dec h0 l j) l[j].1 w hw hbW hD hll2 (by omega) htk
      have hdn := dtAt_next (best := best) (dec := dec) h0 l j hlt
      obtain ⟨hee, hol⟩ := hall.out j h1 hlt
      generalize hrp : Dt.act best dec (dtAt best dec h0 l j) l[j].1 l[j].2.data.toList = RP at *
      obtain ⟨rp, d1⟩ := RP
      replace hrp := hid hrp
      simp only [PRp, rpV, RDo] at H2 hdn hee
      obtain ⟨a0, a1, a2, a3, a4⟩ := hP.cells j h1
      have ho1 := hP.outs _ (List.getElem_mem h1)
      have hP4 := fun w4 (ho : Only (fun x => x = rb) wr w4) => hP.only ho hgn hor.out
      have hC4 := fun w4 ho => (hP4 w4 ho).cells j h1
      have hO4 := fun w4 ho => (hP4 w4 ho).outs _ (List.getElem_mem h1)
      rw [hee] at hol
      simp only [hee] at a0 a1 a2 a3 a4 ho1 hC4 hO4
      generalize rs[j].2.1 = A1 at *
      generalize rs[j].2.2 = c1 at *
      obtain ⟨rc, ⟨re, ry, rf⟩, ro⟩ := rp
      simp only at a0 a1 a2 a3 a4 ho1 hol hC4 hO4 H2
      clear hee hll2 haa htk
      replace H2 := hid H2
      replace hdn := hid hdn
      replace hP4 := hid hP4
      replace hC4 := hid hC4
      replace hO4 := hid hO4
      generalize l[j].1 = kk at *
      generalize l[j].2 = tt at *
      have hg1 := hP.lt.2
      have hlw : lb < wr.heap.size := Nat.lt_of_lt_of_le hlb' hwr.size
      have hrbk := hG.lt
      go_wp2_with fail
      go_region_with (first
        | (go_at_call 18; refine (H2.out _ ?_ ?_).mono ?_; exact hwr.drew; exact hG.keep rfl; rintro r w6 ⟨⟨A6, c6, rfl, hO6⟩, ⟨s6, hG6⟩, ho6⟩; have ho6' : Only (fun x => x = rb) wr w6 := ⟨ho6.os, ho6.tape, ho6.output, ho6.size, ho6.block⟩; obtain ⟨p0, p1, p2, p3, p4⟩ := hC4.out w6 ho6'; have hq6 := hO4.out w6 ho6'; have hg6 : g < w6.heap.size := Nat.lt_of_lt_of_le hg1 ho6'.size)
        | (go_at_call 13; refine (refSame_top rc re ry rf ro A1 A6 c1 c6 _ _ _ hol hq6 hO6).mono ?_; rintro r w7 ⟨rfl, hb7⟩))
      all_goals
        go_wp2_with fail
        have hdn := hdn.out
        have hP7 := (hP4.out w6 ho6').below hb7
        have hG7 := hG6.below hb7
        rw [← hdn] at hG7
        have hw6 := hwr.trans (ho6'.below hwr.size (fun x e => by subst e; exact hbW))
        exact ⟨⟨j + 1, s6, by omega, by go_num, hP7, hG7, hw6.trans (hb7.mono hw6.size)⟩, by simp [intOf]; omega⟩
    · have j1 : ¬ (j : Int) < (l.length : Int) := by omega
      go_wp2_with fail
      go_ret
      exact ⟨rfl, hwr⟩
set_option maxRecDepth 100000 in
set_option maxHeartbeats 1000000 in
theorem detectRuns_nil (C : DetC W best dec) (HR : ActR C) (s : ByteArray) (hs : s.size ≤ 140737488355328)
    (HF : Hid (∀ w, Below W.heap.size W w → Calls Tryz.prog 17 #[.string s] w fun e w' => e = .returned (.int .i64 (findL s.data.toList)) ∧ Below w.heap.size w w')) :
    Calls Tryz.prog 6 #[.string s, .slice none 0 0] W fun e w' => e = .returned (.bool true) ∧ Below W.heap.size W w' := by
  have H1 := hid (fun v w hA hw => run_any C HR s v [] w hs hw (by simp) hA)
  have H2 := hid (fun w hw => run_any C HR s _ [(99, ⟨#[]⟩)] _ hs hw (by simp) (one_act w))
  go_enter Tryz.func6, Tryz.ntmps6
  go_wp2_with (at_builtin; refine list_copy rfl _ (.tmp 13) rfl (v := .slice none 0 0) (l := []) rfl rfl (Or.inl ⟨rfl, rfl⟩) (by simp) ?_; intro v1 w1 hA1 hw1)
  refine (H1.out _ _ hA1 hw1).mono ?_
  rintro r w2 ⟨g, rs, rfl, hP, hr, hb2⟩
  have hw2 := hw1.trans (hb2.mono hw1.size)
  have hw2' := hw2.alloc hw2.size (.cells #[.int .i64 99, .string ⟨#[]⟩] 31)
  simp only [List.length_nil]
  go_wp2_with fail
  refine (H2.out _ hw2').mono ?_
  rintro r w3 ⟨g3, rs3, rfl, hP3, hr3, hb3⟩
  have hw3 := hw2'.trans (hb3.mono hw2'.size)
  simp only [List.length_cons, List.length_nil, Nat.zero_add]
  go_wp2_with fail
  refine (HF.out _ hw3).mono ?_
  rintro r w4 ⟨rfl, hb4⟩
  have hw4 := hw3.trans (hb4.mono hw3.size)
  have hw5 := hw4.alloc hw4.size (.cells #[.int .i64 (findL s.data.toList), .string ⟨#[]⟩, .bool false, .int .i64 0] 45)
  go_wp2_with fail
  generalize w4.alloc (.cells #[.int .i64 (findL s.data.toList), .string ⟨#[]⟩, .bool false, .int .i64 0] 45) = w5 at *
  go_loopw [10] (fun i wr => i = .int .i64 0 ∧ wr = w5) (fun _ _ => 0)
  case atStart => exact ⟨rfl, rfl⟩
  case round =>
    obtain ⟨rfl, rfl⟩ := hrel
    go_wp2_with fail
    go_ret
    exact ⟨rfl, hw5⟩
theorem detectRuns_true (C : DetC W best dec) (HR : ActR C) (R : RefC W best dec) (hbest : ∀ l, 0 ≤ best l ∧ best l ≤ 6) (hdl : ∀ e l, 1 ≤ e → e ≤ 6 → (dec e l).length ≤ l.length) (s : ByteArray) (A : Option Addr) (cap : Nat) (l : List (Int × ByteArray)) (hA : ActsIn W (.slice A l.length cap) l) (hs : s.size ≤ 140737488355328) (hts : ∀ i (h : i < l.length), l[i].2.size ≤ 140737488355328) (hn : l.length * 24 ≤ 140737488355328)
    (HF : Hid (∀ w, Below W.heap.size W w → Calls Tryz.prog 17 #[.string s] w fun e w' => e = .returned (.int .i64 (findL s.data.toList)) ∧ Below w.heap.size w w')) :
    Calls Tryz.prog 6 #[.string s, .slice A l.length cap] W fun e w' => e = .returned (.bool true) ∧ Below W.heap.size W w' := by
  cases hl : decide ((300 : Int) < (l.length : Int)) with
  | true => exact detectRuns_full C HR s A cap l hA hs hn hl
  | false =>
    rcases hA with ⟨e, rfl⟩ | ⟨lb, lo, cap', e, _, hlb, hc⟩
    · injection e with e1 _ e3
      subst e1 e3
      exact detectRuns_nil C HR s hs HF
    · injection e with e1 _ e3
      subst e1 e3
      exact detectRuns_mid C HR R hbest hdl s lb lo cap l hs hlb hts hc hl HF
theorem detectPlays_true (C : DetC W best dec) (R : RefC W best dec) (hbest : ∀ l, 0 ≤ best l ∧ best l ≤ 6) (hdl : ∀ e l, 1 ≤ e → e ≤ 6 → (dec e l).length ≤ l.length) (s : ByteArray) (A : Option Addr) (cap : Nat) (l : List (Int × ByteArray)) (hA : ActsIn W (.slice A l.length cap) l) (hs : s.size ≤ 140737488355328) (hts : ∀ i (h : i < l.length), l[i].2.size ≤ 140737488355328)
    (HF : Hid (∀ w, Below W.heap.size W w → Calls Tryz.prog 17 #[.string s] w fun e w' => e = .returned (.int .i64 (findL s.data.toList)) ∧ Below w.heap.size w w')) :
    Calls Tryz.prog 5 #[.string s, .slice A l.length cap] W fun e w' => e = .returned (.bool true) ∧ Below W.heap.size W w' := by
  rcases hA with ⟨e, rfl⟩ | ⟨lb, lo, cap', e, _, hlb, hc⟩
  · injection e with e1 _ e3
    subst e1 e3
    exact plays_none C s hs HF
  · injection e with e1 _ e3
    subst e1 e3
    exact plays_some C R hbest hdl s lb lo cap l hs hlb hts hc HF
end Go.Proofs.YtmdnpgcnbpppfaaGreatDoor
