/- The reference's comparisons; the statement DetectPlays. -/
import Derived.Test.YtmdnpgcnbpppfaaGreatDoorDeRf4
import Derived.Test.YtmdnpgcnbpppfaaGreatDoorDeRun
import Derived.Deep.RegionWith
namespace Go.Proofs.YtmdnpgcnbpppfaaGreatDoor
open Go.RowKit
attribute [local go_sem ↓] run_eqV run_neV fld_code fld_verdict fld_out

/-- Two lists alike. -/
theorem nsame_nil (A B : Option Addr) (c d : Nat) (w : World) : Calls Tryz.prog 10 #[.slice A 0 c, .slice B 0 d] w fun e w' => e = .returned (.bool true) ∧ Below w.heap.size w w' := by
  go_enter Tryz.func10, Tryz.ntmps10
  go_wp2_with fail
  go_loop [13] (fun i => i = .int .i64 0) (fun _ => 0)
  case atStart => rfl
  case round =>
    subst hrel
    go_wp2_with fail
    go_ret
    exact ⟨rfl, Below.refl _ _⟩
set_option maxRecDepth 100000 in
set_option maxHeartbeats 400000 in
theorem nsame_row (l : List Int) (g1 c1 g2 c2 : Nat) (w : World) (hl : l.length ≤ 100000) (h1 : ∀ j (hj : j < l.length), w.cell? ⟨g1, j, none⟩ = some (.int .i64 l[j])) (h2 : ∀ j (hj : j < l.length), w.cell? ⟨g2, j, none⟩ = some (.int .i64 l[j])) :
    Calls Tryz.prog 10 #[.slice (some ⟨g1, 0, none⟩) l.length c1, .slice (some ⟨g2, 0, none⟩) l.length c2] w fun e w' => e = .returned (.bool true) ∧ Below w.heap.size w w' := by
  replace h1 := hid h1
  replace h2 := hid h2
  go_enter Tryz.func10, Tryz.ntmps10
  go_wp2_with fail
  go_loopw [13] (fun i wr => ∃ k n : Nat, k ≤ l.length ∧ i = .int .i64 k ∧ wr = w.drewN n) (fun i _ => l.length - (intOf i).toNat)
  case atStart => exact ⟨0, 0, Nat.zero_le _, rfl, rfl⟩
  case round =>
    obtain ⟨k, n, hk, rfl, rfl⟩ := hrel
    by_cases hlt : k < l.length
    · have e1 := h1.out k hlt
      have e2 := h2.out k hlt
      have b0 : (0 : Int) ≤ (k : Int) := by omega
      have b1 : (k : Int) < (l.length : Int) := by omega
      go_wp2_with fail
      go_quiet (fail)
      go_wp2_with fail
      go_roundw
      case rel => exact ⟨k + 1, _, by omega, by go_num, rfl⟩
      case measure => simp [intOf]; omega
    · go_wp2_with fail
      go_ret
      exact ⟨rfl, bN (Below.refl _ _) _⟩
theorem nsame_any (l : List Int) (v1 v2 : Value) (B1 B2 : Nat) (w : World) (hl : l.length ≤ 100000) (h1 : Out w B1 v1 l) (h2 : Out w B2 v2 l) :
    Calls Tryz.prog 10 #[v1, v2] w fun e w' => e = .returned (.bool true) ∧ Below w.heap.size w w' := by
  by_cases h0 : 0 < l.length
  · obtain ⟨g1, c1, rfl, _, k1⟩ := h1.rows h0
    obtain ⟨g2, c2, rfl, _, k2⟩ := h2.rows h0
    exact nsame_row l g1 c1 g2 c2 w hl k1 k2
  · obtain ⟨a, c, rfl⟩ := h1.shape
    obtain ⟨b, d, rfl⟩ := h2.shape
    rw [show l.length = 0 from by omega]
    exact nsame_nil a b c d w
set_option maxRecDepth 100000 in
set_option maxHeartbeats 1000000 in
theorem refSame_of (c e y : Int) (f : Bool) (A1 A2 : Option Addr) (n1 n2 c1 c2 : Nat) (w : World) (HS : Hid (∀ o p : Obj, Calls Tryz.prog 10 #[.slice A1 n1 c1, .slice A2 n2 c2] ((w.alloc o).alloc p) fun e w' => e = .returned (.bool true) ∧ Below ((w.alloc o).alloc p).heap.size ((w.alloc o).alloc p) w')) :
    Calls Tryz.prog 13 #[.agg #[.int .i64 c, .int .i64 e, .int .i64 y, .bool f, .slice A1 n1 c1], .agg #[.int .i64 c, .int .i64 e, .int .i64 y, .bool f, .slice A2 n2 c2]] w fun r w' => r = .returned (.bool true) ∧ Below w.heap.size w w' := by
  have hv : vEq ⟨e, y, f⟩ ⟨e, y, f⟩ = true := vEq_self _
  have hc : (c == c) = true := by simp
  go_enter Tryz.func13, Tryz.ntmps13
  go_wp2_with fail
  refine (HS.out _ _).mono ?_
  rintro r w1 ⟨rfl, hb⟩
  go_wp2_with fail
  go_ret
  exact ⟨rfl, two_boxes hb⟩
theorem refSame_top (c e y : Int) (f : Bool) (l : List Int) (A1 A2 : Option Addr) (c1 c2 B1 B2 : Nat) (w : World) (hl : l.length ≤ 100000) (h1 : Out w B1 (.slice A1 l.length c1) l) (h2 : Out w B2 (.slice A2 l.length c2) l) :
    Calls Tryz.prog 13 #[.agg #[.int .i64 c, .int .i64 e, .int .i64 y, .bool f, .slice A1 l.length c1], .agg #[.int .i64 c, .int .i64 e, .int .i64 y, .bool f, .slice A2 l.length c2]] w fun r w' => r = .returned (.bool true) ∧ Below w.heap.size w w' :=
  refSame_of c e y f A1 A2 _ _ c1 c2 w (hid fun _ _ => nsame_any l _ _ B1 B2 _ hl ((h1.alloc _).alloc _) ((h2.alloc _).alloc _))
theorem refSame_nil (c e y : Int) (f : Bool) (A1 A2 : Option Addr) (c1 c2 : Nat) (w : World) :
    Calls Tryz.prog 13 #[.agg #[.int .i64 c, .int .i64 e, .int .i64 y, .bool f, .slice A1 0 c1], .agg #[.int .i64 c, .int .i64 e, .int .i64 y, .bool f, .slice A2 0 c2]] w fun r w' => r = .returned (.bool true) ∧ Below w.heap.size w w' :=
  refSame_of c e y f A1 A2 _ _ c1 c2 w (hid fun _ _ => nsame_nil _ _ _ _ _)
variable {W : World} {best : List UInt8 → Int} {dec : Int → List UInt8 → List Int}
theorem HasD.new (w : World) (h : Int) (t : TypeId) : HasD (w.alloc (.cells #[.int .i64 h, .string ⟨#[]⟩, .bool false, .int .i64 0] t)) w.heap.size ⟨#[]⟩ ⟨h, [], false, 0⟩ := ⟨by simp [go_sem], by simp [go_sem], by simp [go_sem], by simp [go_sem], fun i => by simp [go_sem], rfl⟩
/-- What holds at the head of DetectPlays' loop. -/
def PlaysR (C : DetC W best dec) (l : List (Int × ByteArray)) (h0 : Int) (a : Addr) (rb : Nat) (i : Value) (wr : World) : Prop :=
  ∃ (k : Nat) (F : Nat → Prop) (s : ByteArray), k ≤ l.length ∧ k ≤ 60 ∧ i = .int .i64 k ∧ C.IsD wr F a (dtAt best dec h0 l k) ∧ ¬ F rb ∧ HasD wr rb s (dtAt best dec h0 l k) ∧ Below W.heap.size W wr
set_option maxRecDepth 100000 in
set_option maxHeartbeats 16000000 in
theorem plays_some (C : DetC W best dec) (R : RefC W best dec) (hbest : ∀ l, 0 ≤ best l ∧ best l ≤ 6) (hdl : ∀ e l, 1 ≤ e → e ≤ 6 → (dec e l).length ≤ l.length) (s : ByteArray) (lb lo cap : Nat) (l : List (Int × ByteArray)) (hs : s.size ≤ 140737488355328) (hlb : l ≠ [] → lb < W.heap.size) (hts : ∀ i (h : i < l.length), l[i].2.size ≤ 140737488355328)
    (hc : ∀ i (h : i < l.length), W.cell? ⟨lb, lo + i * 2, none⟩ = some (.int .i64 l[i].1) ∧ W.cell? ⟨lb, lo + i * 2 + 1, none⟩ = some (.string l[i].2))
    (HF : Hid (∀ w, Below W.heap.size W w → Calls Tryz.prog 17 #[.string s] w fun e w' => e = .returned (.int .i64 (findL s.data.toList)) ∧ Below w.heap.size w w')) :
    Calls Tryz.prog 5 #[.string s, .slice (some ⟨lb, lo, none⟩) l.length cap] W fun e w' => e = .returned (.bool true) ∧ Below W.heap.size W w' := by
  have HN := hid (fun w hw => C.new s w hs hw)
  replace hc := hid hc
  go_enter Tryz.func5, Tryz.ntmps5
  go_wp2_with fail
  refine (HN.out _ (Below.refl _ _)).mono ?_
  rintro r w1 ⟨a, F, rfl, hD, _, hw1⟩
  go_wp2_with fail
  refine (HF.out _ hw1).mono ?_
  rintro r w2 ⟨rfl, hb2⟩
  have hw2 := hw1.trans (hb2.mono hw1.size)
  have hD2 := C.below hD hb2
  have hn2 := C.nF hD2 (Nat.le_refl _)
  have hD3 := C.alloc hD2 (.cells #[.int .i64 (findL s.data.toList), .string ⟨#[]⟩, .bool false, .int .i64 0] 45)
  have hw3 := hw2.alloc hw2.size (.cells #[.int .i64 (findL s.data.toList), .string ⟨#[]⟩, .bool false, .int .i64 0] 45)
  have hG3 := HasD.new w2 (findL s.data.toList) 45
  have hbW := hw2.size
  have hR3 : PlaysR C l (findL s.data.toList) a w2.heap.size (.int .i64 0) (w2.alloc (.cells #[.int .i64 (findL s.data.toList), .string ⟨#[]⟩, .bool false, .int .i64 0] 45)) := ⟨0, F, ⟨#[]⟩, by omega, by omega, rfl, hD3, hn2, hG3, hw3⟩
  replace hR3 := hid hR3
  clear hD hD2 hD3 hw3 hG3 hb2 HN HF hw1 hw2
  go_wp2_with fail
  generalize w2.heap.size = rb at *
  generalize findL s.data.toList = h0 at *
  go_loopw [7] (fun i wr => PlaysR C l h0 a rb i wr) (fun i _ => 60 - (intOf i).toNat)
  case atStart => exact hR3.out
  case round =>
    clear hR3
    obtain ⟨k, F, sk, hk, hk2, rfl, hDk, hnk, hGk, hwk⟩ := hrel
    by_cases hlt : k < l.length
    · by_cases hlt2 : k < 60
      · have b0 : (0 : Int) ≤ (k : Int) := by omega
        have b1 : (k : Int) < (l.length : Int) := by omega
        have b2 : (k : Int) < 60 := by omega
        have hlb' := hlb (by intro x; simp [x] at hlt)
        have cells : ∀ u, Below W.heap.size W u → u.cell? ⟨lb, lo + k * 2, none⟩ = some (.int .i64 l[k].1) ∧ u.cell? ⟨lb, lo + k * 2 + 1, none⟩ = some (.string l[k].2) := fun u hu => ⟨(World.cell?_of_block (a := ⟨lb, lo + k * 2, none⟩) (hu.block lb hlb')).trans (hc.out k hlt).1, (World.cell?_of_block (a := ⟨lb, lo + k * 2 + 1, none⟩) (hu.block lb hlb')).trans (hc.out k hlt).2⟩
        obtain ⟨e0, e1⟩ := cells wr hwk
        have hll := dtAt_long (best := best) (dec := dec) h0 l k
        have haa := dtAt_acts (best := best) (dec := dec) h0 l k hk (by omega)
        have htk := hts k hlt
        have H1 := fun w hw hD => C.act' (w := w) (F := F) (a := a) (d := dtAt best dec h0 l k) l[k].1 l[k].2 hw hD
        have H2 := fun w hw hD => refDo_any R hbest rb sk l[k].2 (dtAt best dec h0 l k) l[k].1 w hw hbW hD hll (by omega) htk
        have hdn := dtAt_next (best := best) (dec := dec) h0 l k hlt
        have hout : (Dt.act best dec (dtAt best dec h0 l k) l[k].1 l[k].2.data.toList).1.out.length ≤ 100000 := by have := act_out hbest hdl (dtAt best dec h0 l k) l[k].1 l[k].2.data.toList; omega
        generalize hrp : Dt.act best dec (dtAt best dec h0 l k) l[k].1 l[k].2.data.toList = RP at *
        obtain ⟨⟨rc, ⟨re, ry, rf⟩, ro⟩, d1⟩ := RP
        replace hrp := hid hrp
        simp only [PRp, rpV] at H1 H2 hout hdn
        replace H1 := hid H1
        replace H2 := hid H2
        replace hdn := hid hdn
        generalize l[k].1 = kk at *
        generalize l[k].2 = tt at *
        have hlw : lb < wr.heap.size := Nat.lt_of_lt_of_le hlb' hwk.size
        have hrbk := hGk.lt
        go_wp2_with fail
        go_region_with (first
          | (go_at_call 14; refine (H1.out _ ?_ ?_).mono ?_; exact hwk.drew; exact C.drew hDk; rintro r w3 ⟨⟨A3, c3, rfl, hO3⟩, F3, hD3, hF3, ho3, hw3⟩; obtain ⟨e03, e13⟩ := cells w3 hw3; have hG3 : HasD w3 rb sk (dtAt best dec h0 l k) := hGk.keep (ho3.block rb hrbk hnk); have hn3 := nF_next hnk hF3 hrbk; have hlw3 : lb < w3.heap.size := Nat.lt_of_lt_of_le hlb' hw3.size)
          | (go_at_call 18; refine (H2.out _ ?_ ?_).mono ?_; exact hw3; exact hG3; rintro r w4 ⟨⟨A4, c4, rfl, hO4⟩, ⟨s4, hG4⟩, ho4⟩; have hD4 := C.other hD3 ho4 (fun q hq hx => hn3 (hx ▸ hq)); have hO3' := hO3.only ho4 (fun g hg hx => by have := (hO3.own g hg).1; have hz : wr.drew.heap.size = wr.heap.size := rfl; omega); have hw4 := hw3.trans (ho4.below hw3.size (fun q hq => by subst hq; exact hbW)))
          | (go_at_call 13; refine (refSame_top rc re ry rf ro A3 A4 c3 c4 _ _ _ hout hO3' hO4).mono ?_; rintro r w5 ⟨rfl, hb5⟩; have hw5 := hw4.trans (hb5.mono hw4.size); have hD5 := C.below hD4 hb5; have hG5 := hG4.below hb5; have k5 := hG5; obtain ⟨g0, g1, g2, g3, gz, gx⟩ := k5; have HB5 := C.bytes hw5 hD5)
          | (go_at_call 15; refine (HB5).mono ?_; rintro r w6 ⟨s6, rfl, hs6, hb6⟩; have hG6 := hG5.below hb6; obtain rfl := ba_eq hs6 hG6.tx; have k6 := hG6; obtain ⟨p0, p1, p2, p3, pz, px⟩ := k6; have hse : (s6.toList == s6.toList) = true := by simp))
        all_goals
          go_wp2_with fail
          have hdn := hdn.out
          have hw6 := hw5.trans (hb6.mono hw5.size)
          have hD6 := C.below hD5 hb6
          rw [← hdn] at hD6 hG6
          exact ⟨⟨k + 1, F3, s6, by omega, by omega, by go_num, hD6, hn3, hG6, hw6⟩, by simp [intOf]; omega⟩
      · have b1 : (k : Int) < (l.length : Int) := by omega
        have b2 : ¬ (k : Int) < 60 := by omega
        go_wp2_with fail
        go_ret
        exact ⟨rfl, hwk⟩
    · have b1 : ¬ (k : Int) < (l.length : Int) := by omega
      go_wp2_with fail
      go_ret
      exact ⟨rfl, hwk⟩
set_option maxRecDepth 100000 in
set_option maxHeartbeats 1000000 in
theorem plays_none (C : DetC W best dec) (s : ByteArray) (hs : s.size ≤ 140737488355328)
    (HF : Hid (∀ w, Below W.heap.size W w → Calls Tryz.prog 17 #[.string s] w fun e w' => e = .returned (.int .i64 (findL s.data.toList)) ∧ Below w.heap.size w w')) :
    Calls Tryz.prog 5 #[.string s, .slice none 0 0] W fun e w' => e = .returned (.bool true) ∧ Below W.heap.size W w' := by
  have HN := hid (fun w hw => C.new s w hs hw)
  go_enter Tryz.func5, Tryz.ntmps5
  go_wp2_with fail
  refine (HN.out _ (Below.refl _ _)).mono ?_
  rintro r w1 ⟨a, F, rfl, hD, _, hw1⟩
  go_wp2_with fail
  refine (HF.out _ hw1).mono ?_
  rintro r w2 ⟨rfl, hb2⟩
  have hw2 := hw1.trans (hb2.mono hw1.size)
  go_wp2_with fail
  go_loop [7] (fun i => i = .int .i64 0) (fun _ => 0)
  case atStart => rfl
  case round =>
    subst hrel
    go_wp2_with fail
    go_ret
    exact ⟨rfl, hw2.alloc hw2.size _⟩
end Go.Proofs.YtmdnpgcnbpppfaaGreatDoor
