/- The statement TopSure out of a detector's contracts. -/
import Derived.Test.YtgfndlbmolnblaaGreatDoorDeFinal
namespace Go.Proofs.YtgfndlbmolnblaaGreatDoor
open Go.RowKit
attribute [local go_sem ↓] run_eqV run_neV fld_code fld_verdict fld_out

variable {W : World} {best : List UInt8 → Int} {dec : Int → List UInt8 → List Int}
theorem act_feed (d : Dt) (b : List UInt8) (h : d.acts ≠ 300) (he : d.ended = false) (hl : d.l.length + b.length ≤ 4000) : Dt.act best dec d 1 b = (⟨0, .zero, []⟩, { d with l := d.l ++ b, acts := d.acts + 1 }) := by
  unfold Dt.act
  rw [if_neg h, if_neg (by omega), if_neg (by omega), if_neg (by simp [he]), if_neg (by omega), if_neg (by omega)]
/-- A verdict that is final ahead of more bytes. -/
theorem sure_same (h : Int) (l t : List UInt8) (n m : Nat) (hf : (Dt.verdict best ⟨h, l, false, n⟩).fin = true) : Dt.verdict best ⟨h, l ++ t, true, m⟩ = Dt.verdict best ⟨h, l, false, n⟩ := by
  unfold Dt.verdict at hf ⊢
  simp only at hf ⊢
  obtain ⟨h1, h2⟩ := judge_stays best h l t hf
  rw [h1, hf]
  rfl
set_option maxRecDepth 100000 in
set_option maxHeartbeats 1000000 in
theorem topSure_long (C : DetC W best dec) (hd : dec 1 [97] = [97]) (s x y : ByteArray) (hx : x.size ≤ 140737488355328) (hy : y.size ≤ 140737488355328) (hl : decide ((4000 : Int) < (x.size : Int) + (y.size : Int)) = true) :
    Calls Tryz.prog 6 #[.string s, .string x, .string y] W fun e w' => e = .returned (.bool true) ∧ Below W.heap.size W w' := by
  have HA := hid (alive_any C hd W (Below.refl _ _))
  go_enter Tryz.func6, Tryz.ntmps6
  go_wp2_with fail
  refine (HA.out).mono ?_
  rintro r w1 ⟨rfl, hb1⟩
  go_wp2_with fail
  go_ret
  exact ⟨rfl, hb1⟩
set_option maxRecDepth 100000 in
set_option maxHeartbeats 1000000 in
theorem topSure_of (C : DetC W best dec) (hd : dec 1 [97] = [97]) (s x y : ByteArray) (hs : s.size ≤ 140737488355328) (hx : x.size ≤ 140737488355328) (hy : y.size ≤ 140737488355328) (hl : decide ((4000 : Int) < (x.size : Int) + (y.size : Int)) = false)
    (e1 y1 e2 y2 : Int) (f1 : Bool) (hv1 : Hid (Dt.verdict best ⟨findL s.data.toList, x.data.toList, false, 1⟩ = ⟨e1, y1, f1⟩)) (hv2 : Hid (Dt.verdict best ⟨findL s.data.toList, x.data.toList ++ y.data.toList, true, 3⟩ = ⟨e2, y2, true⟩)) (hq : f1 = false ∨ vEq ⟨e1, y1, true⟩ ⟨e2, y2, true⟩ = true) :
    Calls Tryz.prog 6 #[.string s, .string x, .string y] W fun e w' => e = .returned (.bool true) ∧ Below W.heap.size W w' := by
  have HA := hid (alive_any C hd W (Below.refl _ _))
  have hl4 : x.size + y.size ≤ 4000 := by simp at hl; omega
  go_enter Tryz.func6, Tryz.ntmps6
  go_wp2_with fail
  refine (HA.out).mono ?_
  rintro r w1 ⟨rfl, hw1⟩
  have HN := hid (C.new s w1 hs hw1)
  go_wp2_with fail
  refine (HN.out).mono ?_
  rintro r w2 ⟨a, F, rfl, hD, _, hb2⟩
  have hw2 := hw1.trans (hb2.mono hw1.size)
  have H3 := C.act' 1 x hw2 hD
  rw [act_feed _ _ (by simp) rfl (by simp; omega)] at H3
  simp only [PRp, rpV, Vd.zero, List.nil_append, Nat.zero_add] at H3
  replace H3 := hid H3
  go_wp2_with fail
  refine (H3.out).mono ?_
  rintro r w3 ⟨⟨A3, c3, rfl, _⟩, F3, hD3, _, _, hw3⟩
  have H4 := C.act' 2 ⟨#[]⟩ hw3 hD3
  rw [show (⟨#[]⟩ : ByteArray).data.toList = [] from rfl, act_ask _ (by simp), hv1.out] at H4
  simp only [PRp, rpV] at H4
  replace H4 := hid H4
  simp only [List.length_nil]
  go_wp2_with fail
  refine (H4.out).mono ?_
  rintro r w4 ⟨⟨A4, c4, rfl, _⟩, F4, hD4, _, _, hw4⟩
  simp only [List.length_nil]
  go_wp2_with fail
  have hv5 := Has3.new w4 ⟨e1, y1, f1⟩ 30
  have hn5 := C.nF hD4 (Nat.le_refl _)
  have hD5 := C.alloc hD4 (.cells #[.int .i64 e1, .int .i64 y1, .bool f1] 30)
  have hw5 := hw4.alloc hw4.size (.cells #[.int .i64 e1, .int .i64 y1, .bool f1] 30)
  simp only at hv5
  generalize w4.alloc (.cells #[.int .i64 e1, .int .i64 y1, .bool f1] 30) = w5 at *
  generalize w4.heap.size = vb at *
  have H6 := C.act' 1 y hw5 hD5
  rw [act_feed _ _ (by simp) rfl (by simp; omega)] at H6
  simp only [PRp, rpV, Vd.zero] at H6
  replace H6 := hid H6
  refine (H6.out).mono ?_
  rintro r w6 ⟨⟨A6, c6, rfl, _⟩, F6, hD6, hF6, ho6, hw6⟩
  have hv6 := hv5.only ho6 hn5
  have hn6 := nF_next hn5 hF6 hv5.lt
  have H7 := C.act' 3 ⟨#[]⟩ hw6 hD6
  rw [show (⟨#[]⟩ : ByteArray).data.toList = [] from rfl, act_fin _ (by simp) rfl] at H7
  simp only [PRp, rpV] at H7
  rw [verdict_same best _ ⟨findL s.data.toList, x.data.toList ++ y.data.toList, true, 3⟩ rfl rfl rfl, hv2.out] at H7
  replace H7 := hid H7
  simp only [List.length_nil]
  go_wp2_with fail
  refine (H7.out).mono ?_
  rintro r w7 ⟨⟨A7, c7, rfl, _⟩, F7, hD7, hF7, ho7, hw7⟩
  have hv7 := hv6.only ho7 hn6
  have hl7 := hv7.lt
  obtain ⟨v0, v1, v2, vz⟩ := hv7
  simp only at v0 v1 v2
  generalize (tellP dec _ _).length = tn at *
  rcases hq with rfl | hq
  · go_wp2_with fail
    go_ret
    exact ⟨rfl, hw7.alloc hw7.size _⟩
  · cases f1 with
    | false =>
      go_wp2_with fail
      go_ret
      exact ⟨rfl, hw7.alloc hw7.size _⟩
    | true =>
      go_wp2_with fail
      go_ret
      exact ⟨rfl, hw7.alloc hw7.size _⟩
theorem topSure_true (C : DetC W best dec) (hd : dec 1 [97] = [97]) (s x y : ByteArray) (hs : s.size ≤ 140737488355328) (hx : x.size ≤ 140737488355328) (hy : y.size ≤ 140737488355328) :
    Calls Tryz.prog 6 #[.string s, .string x, .string y] W fun e w' => e = .returned (.bool true) ∧ Below W.heap.size W w' := by
  cases hl : decide ((4000 : Int) < (x.size : Int) + (y.size : Int)) with
  | true => exact topSure_long C hd s x y hx hy hl
  | false =>
    have hv2 := vd_fin (best := best) ⟨findL s.data.toList, x.data.toList ++ y.data.toList, true, 3⟩ rfl
    have hss := sure_same (best := best) (findL s.data.toList) x.data.toList y.data.toList 1 3
    generalize hv1 : Dt.verdict best ⟨findL s.data.toList, x.data.toList, false, 1⟩ = v1 at *
    obtain ⟨e1, y1, f1⟩ := v1
    refine topSure_of C hd s x y hs hx hy hl e1 y1 _ _ f1 (hid hv1) (hid hv2) ?_
    cases f1 with
    | false => exact Or.inl rfl
    | true => rw [hss rfl]; exact Or.inr (vEq_self _)
end Go.Proofs.YtgfndlbmolnblaaGreatDoor
