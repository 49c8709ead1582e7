/- 2 texts of this proof in one file: DeAl, DeSame. -/
import Derived.Test.YtgfndlbmolnblaaGreatDoorQH
import Derived.Deep.QuietTactic
import Derived.BigQuiet
/- Does a detector answer at all? -/
namespace Go.Proofs.YtgfndlbmolnblaaGreatDoor
open Go.RowKit
attribute [local go_sem ↓] run_eqV run_neV

theorem alive_feed (best : List UInt8 → Int) (dec : Int → List UInt8 → List Int) (h : Int) : Dt.act best dec ⟨h, [], false, 0⟩ 1 [239, 187, 191, 97] = (⟨0, .zero, []⟩, ⟨h, [239, 187, 191, 97], false, 1⟩) := by
  simp [Dt.act]
theorem alive_end (best : List UInt8 → Int) (dec : Int → List UInt8 → List Int) (h : Int) (hd : dec 1 [97] = [97]) : (Dt.act best dec ⟨h, [239, 187, 191, 97], false, 1⟩ 3 []).1 = ⟨0, ⟨1, 1, true⟩, [97]⟩ := by
  have hm := mark_utf [97]
  have hj := judge_mark best h [239, 187, 191, 97] (by rw [hm]; decide)
  rw [hm] at hj
  have ht := tell_mark dec [239, 187, 191, 97] (by rw [hm]; decide)
  rw [hm] at ht
  simp only [Dt.act, Dt.verdict, hj]
  simp [finP, ht, hd]
set_option maxRecDepth 100000 in
set_option maxHeartbeats 1000000 in
theorem alive_any {W : World} {best : List UInt8 → Int} {dec : Int → List UInt8 → List Int} (C : DetC W best dec) (hd : dec 1 [97] = [97]) (w : World) (hw : Below W.heap.size W w) : Calls Tryz.prog 20 #[] w fun e w' => e = .returned (.bool true) ∧ Below w.heap.size w w' := by
  have HN := hid (C.new ⟨#[]⟩ w (by decide) hw)
  go_enter Tryz.func20, Tryz.ntmps20
  go_wp2_with fail
  refine (HN.out).mono ?_
  rintro r w1 ⟨a, F, rfl, hD, hF, hb⟩
  have hw1 := hw.trans (hb.mono hw.size)
  have H1 := C.act' 1 ⟨#[239, 187, 191, 97]⟩ hw1 hD
  rw [show (⟨#[239, 187, 191, 97]⟩ : ByteArray).data.toList = [239, 187, 191, 97] from rfl, alive_feed] at H1
  replace H1 := hid H1
  go_wp2_with fail
  refine (H1.out).mono ?_
  rintro r w2 ⟨⟨A1, c1, rfl, _⟩, F2, hD2, hF2, ho2, hw2⟩
  simp only [rpV, Vd.zero, List.length_nil]
  have hb2 : Below w.heap.size w w2 := hb.trans (ho2.below hb.size hF)
  have hF2' : ∀ k, F2 k → w.heap.size ≤ k := fun k hk => by rcases hF2 k hk with h | h; exact hF k h; exact Nat.le_trans hb.size h
  have hn2 : ¬ F2 w2.heap.size := C.nF hD2 (Nat.le_refl _)
  have H2 := C.act' 3 ⟨#[]⟩ (hw2.alloc hw2.size (.cells #[.int .i64 0, .int .i64 0, .int .i64 0, .bool false, .slice A1 0 c1] 33)) (C.alloc hD2 (.cells #[.int .i64 0, .int .i64 0, .int .i64 0, .bool false, .slice A1 0 c1] 33))
  rw [show (⟨#[]⟩ : ByteArray).data.toList = [] from rfl, alive_end best dec _ hd] at H2
  replace H2 := hid H2
  go_wp2_with fail
  refine (H2.out).mono ?_
  rintro r w3 ⟨⟨A3, c3, rfl, hO⟩, F3, hD3, hF3, ho3, hw3⟩
  have hb3 : Below w.heap.size w w3 := (hb2.alloc hb2.size _).trans (ho3.below (hb2.alloc hb2.size _).size hF2')
  have q0 : w3.cell? ⟨w2.heap.size, 0, none⟩ = some (.int .i64 0) := by rw [ho3.cell (b := w2.heap.size) (by simp) hn2 0]; simp [go_sem]
  have hl3 : w2.heap.size < w3.heap.size := by have := ho3.size; simp at this; omega
  obtain ⟨g, cap, hA3, hg, hc⟩ := hO.rows (by simp)
  obtain ⟨rfl, _, rfl⟩ : A3 = some ⟨g, 0, none⟩ ∧ True ∧ c3 = cap := by injection hA3 with h1 h2 h3; exact ⟨h1, trivial, h3⟩
  clear hA3
  have hc0 := hc 0 (by simp)
  simp only [rpV, List.length_cons, List.length_nil, Nat.zero_add] at *
  clear hc hO
  have hv : vEq ⟨1, 1, true⟩ ⟨1, 1, true⟩ = true := vEq_self _
  go_wp2_with fail
  go_ret
  exact ⟨rfl, hb3.alloc hb3.size _⟩
end Go.Proofs.YtgfndlbmolnblaaGreatDoor

/- The statements' own comparisons. -/
namespace Go.Proofs.YtgfndlbmolnblaaGreatDoor
open Go.RowKit
attribute [local go_sem ↓] run_eqV run_neV

/-- Two lists alike. -/
theorem tsame_nil (A B : Option Addr) (c d : Nat) (w : World) : Calls Tryz.prog 18 #[.slice A 0 c, .slice B 0 d] w fun e w' => e = .returned (.bool true) ∧ Below w.heap.size w w' := by
  go_enter Tryz.func18, Tryz.ntmps18
  go_wp2_with fail
  go_loop [13] (fun i => i = .int .i64 0) (fun _ => 0)
  case atStart => rfl
  case round =>
    subst hrel
    go_wp2_with fail
    go_ret
    exact ⟨rfl, Below.refl _ _⟩
set_option maxRecDepth 100000 in
set_option maxHeartbeats 400000 in
theorem tsame_row (l : List Int) (g1 c1 g2 c2 : Nat) (w : World) (hl : l.length ≤ 100000) (h1 : ∀ j (hj : j < l.length), w.cell? ⟨g1, j, none⟩ = some (.int .i64 l[j])) (h2 : ∀ j (hj : j < l.length), w.cell? ⟨g2, j, none⟩ = some (.int .i64 l[j])) :
    Calls Tryz.prog 18 #[.slice (some ⟨g1, 0, none⟩) l.length c1, .slice (some ⟨g2, 0, none⟩) l.length c2] w fun e w' => e = .returned (.bool true) ∧ Below w.heap.size w w' := by
  replace h1 := hid h1
  replace h2 := hid h2
  go_enter Tryz.func18, Tryz.ntmps18
  go_wp2_with fail
  go_loopw [13] (fun i wr => ∃ k n : Nat, k ≤ l.length ∧ i = .int .i64 k ∧ wr = w.drewN n) (fun i _ => l.length - (intOf i).toNat)
  case atStart => exact ⟨0, 0, Nat.zero_le _, rfl, rfl⟩
  case round =>
    obtain ⟨k, n, hk, rfl, rfl⟩ := hrel
    by_cases hlt : k < l.length
    · have e1 := h1.out k hlt
      have e2 := h2.out k hlt
      have b0 : (0 : Int) ≤ (k : Int) := by omega
      have b1 : (k : Int) < (l.length : Int) := by omega
      go_wp2_with fail
      go_quiet (fail)
      go_wp2_with fail
      go_roundw
      case rel => exact ⟨k + 1, _, by omega, by go_num, rfl⟩
      case measure => simp [intOf]; omega
    · go_wp2_with fail
      go_ret
      exact ⟨rfl, bN (Below.refl _ _) _⟩
theorem tsame_any (l : List Int) (v1 v2 : Value) (B1 B2 : Nat) (w : World) (hl : l.length ≤ 100000) (h1 : Out w B1 v1 l) (h2 : Out w B2 v2 l) :
    Calls Tryz.prog 18 #[v1, v2] w fun e w' => e = .returned (.bool true) ∧ Below w.heap.size w w' := by
  by_cases h0 : 0 < l.length
  · obtain ⟨g1, c1, rfl, _, k1⟩ := h1.rows h0
    obtain ⟨g2, c2, rfl, _, k2⟩ := h2.rows h0
    exact tsame_row l g1 c1 g2 c2 w hl k1 k2
  · obtain ⟨a, c, rfl⟩ := h1.shape
    obtain ⟨b, d, rfl⟩ := h2.shape
    rw [show l.length = 0 from by omega]
    exact tsame_nil a b c d w
set_option maxRecDepth 100000 in
set_option maxHeartbeats 1000000 in
theorem sameReply_of (c e y : Int) (f : Bool) (A1 A2 : Option Addr) (n1 n2 c1 c2 : Nat) (w : World) (HS : Hid (∀ o p : Obj, Calls Tryz.prog 18 #[.slice A1 n1 c1, .slice A2 n2 c2] ((w.alloc o).alloc p) fun e w' => e = .returned (.bool true) ∧ Below ((w.alloc o).alloc p).heap.size ((w.alloc o).alloc p) w')) :
    Calls Tryz.prog 23 #[.agg #[.int .i64 c, .int .i64 e, .int .i64 y, .bool f, .slice A1 n1 c1], .agg #[.int .i64 c, .int .i64 e, .int .i64 y, .bool f, .slice A2 n2 c2]] w fun r w' => r = .returned (.bool true) ∧ Below w.heap.size w w' := by
  have hv : vEq ⟨e, y, f⟩ ⟨e, y, f⟩ = true := vEq_self _
  have hc : (c == c) = true := by simp
  go_enter Tryz.func23, Tryz.ntmps23
  go_wp2_with fail
  refine (HS.out _ _).mono ?_
  rintro r w1 ⟨rfl, hb⟩
  go_wp2_with fail
  go_ret
  exact ⟨rfl, two_boxes hb⟩
theorem sameReply_top (c e y : Int) (f : Bool) (l : List Int) (A1 A2 : Option Addr) (c1 c2 B1 B2 : Nat) (w : World) (hl : l.length ≤ 100000) (h1 : Out w B1 (.slice A1 l.length c1) l) (h2 : Out w B2 (.slice A2 l.length c2) l) :
    Calls Tryz.prog 23 #[.agg #[.int .i64 c, .int .i64 e, .int .i64 y, .bool f, .slice A1 l.length c1], .agg #[.int .i64 c, .int .i64 e, .int .i64 y, .bool f, .slice A2 l.length c2]] w fun r w' => r = .returned (.bool true) ∧ Below w.heap.size w w' :=
  sameReply_of c e y f A1 A2 _ _ c1 c2 w (hid fun _ _ => tsame_any l _ _ B1 B2 _ hl ((h1.alloc _).alloc _) ((h2.alloc _).alloc _))
theorem sameReply_nil (c e y : Int) (f : Bool) (A1 A2 : Option Addr) (c1 c2 : Nat) (w : World) :
    Calls Tryz.prog 23 #[.agg #[.int .i64 c, .int .i64 e, .int .i64 y, .bool f, .slice A1 0 c1], .agg #[.int .i64 c, .int .i64 e, .int .i64 y, .bool f, .slice A2 0 c2]] w fun r w' => r = .returned (.bool true) ∧ Below w.heap.size w w' :=
  sameReply_of c e y f A1 A2 _ _ c1 c2 w (hid fun _ _ => tsame_nil _ _ _ _ _)
/-- The same, of two values of one reply. -/
theorem sameReply_rp (r : Rp) (A1 A2 : Option Addr) (c1 c2 B1 B2 : Nat) (w : World) (hl : r.out.length ≤ 100000) (h1 : Out w B1 (.slice A1 r.out.length c1) r.out) (h2 : Out w B2 (.slice A2 r.out.length c2) r.out) :
    Calls Tryz.prog 23 #[rpV r A1 c1, rpV r A2 c2] w fun e w' => e = .returned (.bool true) ∧ Below w.heap.size w w' := sameReply_top _ _ _ _ _ _ _ _ _ _ _ w hl h1 h2
end Go.Proofs.YtgfndlbmolnblaaGreatDoor
