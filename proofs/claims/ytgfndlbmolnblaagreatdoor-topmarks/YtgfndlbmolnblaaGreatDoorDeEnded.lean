/- The statement TopEnded out of a detector's contracts. -/
import Derived.Test.YtgfndlbmolnblaaGreatDoorDeRef
namespace Go.Proofs.YtgfndlbmolnblaaGreatDoor
open Go.RowKit
attribute [local go_sem ↓] run_eqV run_neV fld_code fld_verdict fld_out

variable {W : World} {best : List UInt8 → Int} {dec : Int → List UInt8 → List Int}
theorem act_fin_ended (d : Dt) (h : d.acts ≠ 300) (he : d.ended = true) : Dt.act best dec d 3 [] = (.err 3, { d with acts := d.acts + 1 }) := by
  unfold Dt.act
  rw [if_neg h, if_neg (by omega), if_neg (by omega), if_pos he]
theorem act_feed_ended (d : Dt) (b : List UInt8) (h : d.acts ≠ 300) (he : d.ended = true) : Dt.act best dec d 1 b = (.err 3, { d with acts := d.acts + 1 }) := by
  unfold Dt.act
  rw [if_neg h, if_neg (by omega), if_neg (by omega), if_pos he]
theorem act_fin (d : Dt) (h : d.acts ≠ 300) (he : d.ended = false) : Dt.act best dec d 3 [] = (⟨0, Dt.verdict best { d with ended := true }, tellP dec (judgeP best d.hint d.l).1 d.l⟩, { d with ended := true, acts := d.acts + 1 }) := by
  unfold Dt.act
  rw [if_neg h, if_neg (by omega), if_neg (by omega), if_neg (by simp [he]), if_pos rfl]
theorem fin_ended (d : Dt) (he : d.ended = true) : (d.verdict best).fin = true := by unfold Dt.verdict finP; simp [he]
set_option maxRecDepth 100000 in
set_option maxHeartbeats 2000000 in
/-- TopEnded, behind a finish that left an ended stream. -/
theorem topEnded_ok (C : DetC W best dec) (hd : dec 1 [97] = [97]) (s : ByteArray) (A : Option Addr) (cap : Nat) (l : List (Int × ByteArray)) (hA : ActsIn W (.slice A l.length cap) l) (k : Int) (b : ByteArray) (hs : s.size ≤ 140737488355328)
    (d0 d1 : Dt) (hd0 : Hid (dtAt best dec (findL s.data.toList) l (min l.length 100) = d0))  (xe xy : Int) (ro : List Int) (hf : Hid (Dt.act best dec d0 3 [] = (⟨0, ⟨xe, xy, true⟩, ro⟩, d1))) (he1 : d1.ended = true) (ha1 : d1.acts < 200)
    (hx : Hid (d1.verdict best = ⟨xe, xy, true⟩)) :
    Calls Tryz.prog 9 #[.string s, .slice A l.length cap, .agg #[.int .i64 k, .string b]] W fun e w' => e = .returned (.bool true) ∧ Below W.heap.size W w' := by
  have HP := hid (fun w hw => play_any C hd s _ l hA 27 #[] _ _ (look_quiet C l _) w hs hw (fun _ h => h.elim) trivial)
  have hv : vEq ⟨xe, xy, true⟩ ⟨xe, xy, true⟩ = true := vEq_self _
  have hx2 := hid (fun n => (verdict_same best ⟨d1.hint, d1.l, d1.ended, n⟩ d1 rfl rfl rfl).trans hx.out)
  go_enter Tryz.func9, Tryz.ntmps9
  go_wp2_with fail
  have hw0 : Below W.heap.size W (W.alloc (.cells #[.int .i64 k, .string b] 27)) := (Below.refl _ _).alloc (Nat.le_refl _) _
  have q1 : (W.alloc (.cells #[.int .i64 k, .string b] 27)).cell? ⟨W.heap.size, 1, none⟩ = some (.string b) := by simp [go_sem]
  have q2 : W.heap.size < (W.alloc (.cells #[.int .i64 k, .string b] 27)).heap.size := by simp
  generalize W.alloc (.cells #[.int .i64 k, .string b] 27) = w0 at *
  refine (HP.out _ hw0).mono ?_
  rintro r w1 ⟨a, F, rfl, hD, hF, _, ho, hw1⟩
  rw [hd0.out] at hD
  replace ho := ho.all
  have hp1 : w1.cell? ⟨W.heap.size, 1, none⟩ = some (.string b) := by rw [World.cell?_of_block (a := ⟨W.heap.size, 1, none⟩) (ho.block _ q2)]; exact q1
  have hn1 : ¬ F W.heap.size := fun x => by have := hF _ x; omega
  have hs1 : W.heap.size < w1.heap.size := Nat.lt_of_lt_of_le q2 ho.size
  clear ho hF q1 HP q2 hw0
  have H1 := C.act' 3 ⟨#[]⟩ hw1 hD
  rw [show (⟨#[]⟩ : ByteArray).data.toList = [] from rfl, hf.out] at H1
  simp only [PRp, rpV] at H1
  replace H1 := hid H1
  go_wp2_with fail
  refine (H1.out).mono ?_
  rintro r w2 ⟨⟨A2, c2, rfl, _⟩, F2, hD2, hF2, ho2, hww2⟩
  have hp2 : w2.cell? ⟨W.heap.size, 1, none⟩ = some (.string b) := (ho2.cell hs1 hn1 1).trans hp1
  have hn2 := nF_next hn1 hF2 hs1
  have hs2 := Nat.lt_of_lt_of_le hs1 ho2.size
  clear hp1 hn1 hs1 H1 ho2 hF2 hD hw1
  go_wp2_with fail
  have hf3 := Has5.new w2 0 xe xy true A2 ro.length c2 33
  have hm3 := C.nF hD2 (Nat.le_refl _)
  have hD3 := C.alloc hD2 (.cells #[.int .i64 0, .int .i64 xe, .int .i64 xy, .bool true, .slice A2 ro.length c2] 33)
  have hw3 := hww2.alloc hww2.size (.cells #[.int .i64 0, .int .i64 xe, .int .i64 xy, .bool true, .slice A2 ro.length c2] 33)
  have hp3 : (w2.alloc (.cells #[.int .i64 0, .int .i64 xe, .int .i64 xy, .bool true, .slice A2 ro.length c2] 33)).cell? ⟨W.heap.size, 1, none⟩ = some (.string b) := (World.cell?_of_block (a := ⟨W.heap.size, 1, none⟩) (Below.heap_alloc w2 _ _ hs2)).trans hp2
  have hs3 : W.heap.size < (w2.alloc (.cells #[.int .i64 0, .int .i64 xe, .int .i64 xy, .bool true, .slice A2 ro.length c2] 33)).heap.size := by simp; omega
  generalize w2.alloc (.cells #[.int .i64 0, .int .i64 xe, .int .i64 xy, .bool true, .slice A2 ro.length c2] 33) = w3 at *
  generalize w2.heap.size = fb at *
  clear hp2 hs2 hD2 hww2
  have HB := hid (C.bytes hw3 hD3)
  refine (HB.out).mono ?_
  rintro r w4 ⟨s1, rfl, hs4, hb4⟩
  have hD4 := C.below hD3 hb4
  have hw4 := hw3.trans (hb4.mono hw3.size)
  have hf4 := hf3.below hb4
  have hp4 : w4.cell? ⟨W.heap.size, 1, none⟩ = some (.string b) := (World.cell?_of_block (a := ⟨W.heap.size, 1, none⟩) (hb4.block _ hs3)).trans hp3
  have hs4' := Nat.lt_of_lt_of_le hs3 hb4.size
  clear hp3 hs3 hD3 hw3 hf3 hb4 HB
  have H5 := C.act' 2 ⟨#[]⟩ hw4 hD4
  rw [show (⟨#[]⟩ : ByteArray).data.toList = [] from rfl, act_ask d1 (by omega), hx.out] at H5
  simp only [PRp, rpV] at H5
  replace H5 := hid H5
  go_wp2_with fail
  refine (H5.out).mono ?_
  rintro r w5 ⟨⟨A5, c5, rfl, _⟩, F5, hD5, hF5, ho5, hw5⟩
  simp only [List.length_nil]
  have hp5 : w5.cell? ⟨W.heap.size, 1, none⟩ = some (.string b) := (ho5.cell hs4' hn2 1).trans hp4
  have hn5 := nF_next hn2 hF5 hs4'
  have hs5 := Nat.lt_of_lt_of_le hs4' ho5.size
  have hf5 := hf4.only ho5 hm3
  have hm5 := nF_next hm3 hF5 hf4.lt
  clear hp4 hs4' hD4 hw4 hf4 ho5 hF5 H5 hn2 hm3
  go_wp2_with fail
  have hx6 := Has5.new w5 0 xe xy true A5 0 c5 33
  have hk6 := C.nF hD5 (Nat.le_refl _)
  have hD6 := C.alloc hD5 (.cells #[.int .i64 0, .int .i64 xe, .int .i64 xy, .bool true, .slice A5 0 c5] 33)
  have hw6 := hw5.alloc hw5.size (.cells #[.int .i64 0, .int .i64 xe, .int .i64 xy, .bool true, .slice A5 0 c5] 33)
  have hf6 := hf5.alloc (.cells #[.int .i64 0, .int .i64 xe, .int .i64 xy, .bool true, .slice A5 0 c5] 33)
  generalize w5.alloc (.cells #[.int .i64 0, .int .i64 xe, .int .i64 xy, .bool true, .slice A5 0 c5] 33) = w6 at *
  generalize w5.heap.size = xb at *
  clear hD5 hw5 hf5 hp5 hn5 hs5
  have H7 := C.act' 1 b hw6 hD6
  rw [act_feed_ended _ _ (by simp; omega) (by exact he1)] at H7
  simp only [PRp, rpV, Rp.err, Vd.zero] at H7
  replace H7 := hid H7
  refine (H7.out).mono ?_
  rintro r w7 ⟨⟨A7, c7, rfl, _⟩, F7, hD7, hF7, ho7, hw7⟩
  simp only [List.length_nil]
  have hf7 := hf6.only ho7 hm5
  have hm7 := nF_next hm5 hF7 hf6.lt
  have hx7 := hx6.only ho7 hk6
  have hk7 := nF_next hk6 hF7 hx6.lt
  clear hD6 hw6 hf6 hx6 H7 ho7 hF7 hm5 hk6
  go_wp2_with fail
  have hr8 := Has5.new w7 3 0 0 false A7 0 c7 33
  have hj8 := C.nF hD7 (Nat.le_refl _)
  have hD8 := C.alloc hD7 (.cells #[.int .i64 3, .int .i64 0, .int .i64 0, .bool false, .slice A7 0 c7] 33)
  have hw8 := hw7.alloc hw7.size (.cells #[.int .i64 3, .int .i64 0, .int .i64 0, .bool false, .slice A7 0 c7] 33)
  have hf8 := hf7.alloc (.cells #[.int .i64 3, .int .i64 0, .int .i64 0, .bool false, .slice A7 0 c7] 33)
  have hx8 := hx7.alloc (.cells #[.int .i64 3, .int .i64 0, .int .i64 0, .bool false, .slice A7 0 c7] 33)
  generalize w7.alloc (.cells #[.int .i64 3, .int .i64 0, .int .i64 0, .bool false, .slice A7 0 c7] 33) = w8 at *
  generalize w7.heap.size = rb at *
  clear hD7 hw7 hf7 hx7
  have H9 := C.act' 2 ⟨#[]⟩ hw8 hD8
  rw [show (⟨#[]⟩ : ByteArray).data.toList = [] from rfl, act_ask _ (by simp; omega), hx2.out] at H9
  simp only [PRp, rpV] at H9
  replace H9 := hid H9
  refine (H9.out).mono ?_
  rintro r w9 ⟨⟨A9, c9, rfl, _⟩, F9, hD9, hF9, ho9, hw9⟩
  simp only [List.length_nil]
  have hf9 := hf8.only ho9 hm7
  have hm9 := nF_next hm7 hF9 hf8.lt
  have hx9 := hx8.only ho9 hk7
  have hk9 := nF_next hk7 hF9 hx8.lt
  have hr9 := hr8.only ho9 hj8
  have hj9 := nF_next hj8 hF9 hr8.lt
  have z1 := hf9.lt
  have z2 := hx9.lt
  have z3 := hr9.lt
  obtain ⟨f0, f1, f2, f3, f4⟩ := hf9
  obtain ⟨x0, x1, x2, x3, x4⟩ := hx9
  obtain ⟨r0, r1, r2, r3, r4⟩ := hr9
  clear hD8 hw8 hf8 hx8 hr8 H9 ho9 hF9
  go_wp2_with fail
  have hD10 := C.alloc hD9 (.cells #[.int .i64 0, .int .i64 xe, .int .i64 xy, .bool true, .slice A9 0 c9] 33)
  have hw10 := hw9.alloc hw9.size (.cells #[.int .i64 0, .int .i64 xe, .int .i64 xy, .bool true, .slice A9 0 c9] 33)
  have hy10 := Has5.new w9 0 xe xy true A9 0 c9 33
  have hf10 := (Has5.mk f0 f1 f2 f3 f4).alloc (.cells #[.int .i64 0, .int .i64 xe, .int .i64 xy, .bool true, .slice A9 0 c9] 33)
  have hx10 := (Has5.mk x0 x1 x2 x3 x4).alloc (.cells #[.int .i64 0, .int .i64 xe, .int .i64 xy, .bool true, .slice A9 0 c9] 33)
  generalize w9.alloc (.cells #[.int .i64 0, .int .i64 xe, .int .i64 xy, .bool true, .slice A9 0 c9] 33) = w10 at *
  generalize w9.heap.size = yb at *
  clear f0 f1 f2 f3 f4 x0 x1 x2 x3 x4 r0 r1 r2 r3 r4 hD9 hw9 z1 z2 z3
  have HB := hid (C.bytes hw10 hD10)
  refine (HB.out).mono ?_
  rintro r w11 ⟨s2, rfl, hs11, hb11⟩
  obtain rfl := ba_eq hs4 hs11
  have hse : (s1.toList == s1.toList) = true := by simp
  have hD11 := C.below hD10 hb11
  have hw11 := hw10.trans (hb11.mono hw10.size)
  have hy11 := hy10.below hb11
  have hf11 := hf10.below hb11
  have hx11 := hx10.below hb11
  obtain ⟨f0, f1, f2, f3, f4⟩ := hf11
  obtain ⟨x0, x1, x2, x3, x4⟩ := hx11
  obtain ⟨y0, y1, y2, y3, y4⟩ := hy11
  clear hD10 hw10 hb11 HB hf10 hx10 hy10
  go_wp2_with fail
  refine (sameReply_nil 0 xe xy true A5 A9 c5 c9 w11).mono ?_
  rintro r w12 ⟨rfl, hb12⟩
  have hD12 := C.below hD11 hb12
  have hw12 := hw11.trans (hb12.mono hw11.size)
  obtain ⟨f0, f1, f2, f3, f4⟩ := (Has5.mk f0 f1 f2 f3 f4).below hb12
  obtain ⟨x0, x1, x2, x3, x4⟩ := (Has5.mk x0 x1 x2 x3 x4).below hb12
  have H13 := C.act' 3 ⟨#[]⟩ hw12 hD12
  rw [show (⟨#[]⟩ : ByteArray).data.toList = [] from rfl, act_fin_ended _ (by simp; omega) (by exact he1)] at H13
  simp only [PRp, rpV, Rp.err, Vd.zero] at H13
  replace H13 := hid H13
  go_wp2_with fail
  refine (H13.out).mono ?_
  rintro r w13 ⟨⟨A13, c13, rfl, _⟩, F13, hD13, hF13, ho13, hw13⟩
  simp only [List.length_nil]
  go_wp2_with fail
  go_ret
  exact ⟨rfl, hw13⟩
set_option maxRecDepth 100000 in
set_option maxHeartbeats 2000000 in
/-- TopEnded, behind a finish that left an ended stream. -/
theorem topEnded_no (C : DetC W best dec) (hd : dec 1 [97] = [97]) (s : ByteArray) (A : Option Addr) (cap : Nat) (l : List (Int × ByteArray)) (hA : ActsIn W (.slice A l.length cap) l) (k : Int) (b : ByteArray) (hs : s.size ≤ 140737488355328)
    (d0 d1 : Dt) (hd0 : Hid (dtAt best dec (findL s.data.toList) l (min l.length 100) = d0))  (xe xy : Int) (ro : List Int) (hf : Hid (Dt.act best dec d0 3 [] = (⟨3, ⟨0, 0, false⟩, ro⟩, d1))) (he1 : d1.ended = true) (ha1 : d1.acts < 200)
    (hx : Hid (d1.verdict best = ⟨xe, xy, true⟩)) :
    Calls Tryz.prog 9 #[.string s, .slice A l.length cap, .agg #[.int .i64 k, .string b]] W fun e w' => e = .returned (.bool true) ∧ Below W.heap.size W w' := by
  have HP := hid (fun w hw => play_any C hd s _ l hA 27 #[] _ _ (look_quiet C l _) w hs hw (fun _ h => h.elim) trivial)
  have hv : vEq ⟨xe, xy, true⟩ ⟨xe, xy, true⟩ = true := vEq_self _
  have hx2 := hid (fun n => (verdict_same best ⟨d1.hint, d1.l, d1.ended, n⟩ d1 rfl rfl rfl).trans hx.out)
  go_enter Tryz.func9, Tryz.ntmps9
  go_wp2_with fail
  have hw0 : Below W.heap.size W (W.alloc (.cells #[.int .i64 k, .string b] 27)) := (Below.refl _ _).alloc (Nat.le_refl _) _
  have q1 : (W.alloc (.cells #[.int .i64 k, .string b] 27)).cell? ⟨W.heap.size, 1, none⟩ = some (.string b) := by simp [go_sem]
  have q2 : W.heap.size < (W.alloc (.cells #[.int .i64 k, .string b] 27)).heap.size := by simp
  generalize W.alloc (.cells #[.int .i64 k, .string b] 27) = w0 at *
  refine (HP.out _ hw0).mono ?_
  rintro r w1 ⟨a, F, rfl, hD, hF, _, ho, hw1⟩
  rw [hd0.out] at hD
  replace ho := ho.all
  have hp1 : w1.cell? ⟨W.heap.size, 1, none⟩ = some (.string b) := by rw [World.cell?_of_block (a := ⟨W.heap.size, 1, none⟩) (ho.block _ q2)]; exact q1
  have hn1 : ¬ F W.heap.size := fun x => by have := hF _ x; omega
  have hs1 : W.heap.size < w1.heap.size := Nat.lt_of_lt_of_le q2 ho.size
  clear ho hF q1 HP q2 hw0
  have H1 := C.act' 3 ⟨#[]⟩ hw1 hD
  rw [show (⟨#[]⟩ : ByteArray).data.toList = [] from rfl, hf.out] at H1
  simp only [PRp, rpV] at H1
  replace H1 := hid H1
  go_wp2_with fail
  refine (H1.out).mono ?_
  rintro r w2 ⟨⟨A2, c2, rfl, _⟩, F2, hD2, hF2, ho2, hww2⟩
  have hp2 : w2.cell? ⟨W.heap.size, 1, none⟩ = some (.string b) := (ho2.cell hs1 hn1 1).trans hp1
  have hn2 := nF_next hn1 hF2 hs1
  have hs2 := Nat.lt_of_lt_of_le hs1 ho2.size
  clear hp1 hn1 hs1 H1 ho2 hF2 hD hw1
  go_wp2_with fail
  have hf3 := Has5.new w2 3 0 0 false A2 ro.length c2 33
  have hm3 := C.nF hD2 (Nat.le_refl _)
  have hD3 := C.alloc hD2 (.cells #[.int .i64 3, .int .i64 0, .int .i64 0, .bool false, .slice A2 ro.length c2] 33)
  have hw3 := hww2.alloc hww2.size (.cells #[.int .i64 3, .int .i64 0, .int .i64 0, .bool false, .slice A2 ro.length c2] 33)
  have hp3 : (w2.alloc (.cells #[.int .i64 3, .int .i64 0, .int .i64 0, .bool false, .slice A2 ro.length c2] 33)).cell? ⟨W.heap.size, 1, none⟩ = some (.string b) := (World.cell?_of_block (a := ⟨W.heap.size, 1, none⟩) (Below.heap_alloc w2 _ _ hs2)).trans hp2
  have hs3 : W.heap.size < (w2.alloc (.cells #[.int .i64 3, .int .i64 0, .int .i64 0, .bool false, .slice A2 ro.length c2] 33)).heap.size := by simp; omega
  generalize w2.alloc (.cells #[.int .i64 3, .int .i64 0, .int .i64 0, .bool false, .slice A2 ro.length c2] 33) = w3 at *
  generalize w2.heap.size = fb at *
  clear hp2 hs2 hD2 hww2
  have HB := hid (C.bytes hw3 hD3)
  refine (HB.out).mono ?_
  rintro r w4 ⟨s1, rfl, hs4, hb4⟩
  have hD4 := C.below hD3 hb4
  have hw4 := hw3.trans (hb4.mono hw3.size)
  have hf4 := hf3.below hb4
  have hp4 : w4.cell? ⟨W.heap.size, 1, none⟩ = some (.string b) := (World.cell?_of_block (a := ⟨W.heap.size, 1, none⟩) (hb4.block _ hs3)).trans hp3
  have hs4' := Nat.lt_of_lt_of_le hs3 hb4.size
  clear hp3 hs3 hD3 hw3 hf3 hb4 HB
  have H5 := C.act' 2 ⟨#[]⟩ hw4 hD4
  rw [show (⟨#[]⟩ : ByteArray).data.toList = [] from rfl, act_ask d1 (by omega), hx.out] at H5
  simp only [PRp, rpV] at H5
  replace H5 := hid H5
  go_wp2_with fail
  refine (H5.out).mono ?_
  rintro r w5 ⟨⟨A5, c5, rfl, _⟩, F5, hD5, hF5, ho5, hw5⟩
  simp only [List.length_nil]
  have hp5 : w5.cell? ⟨W.heap.size, 1, none⟩ = some (.string b) := (ho5.cell hs4' hn2 1).trans hp4
  have hn5 := nF_next hn2 hF5 hs4'
  have hs5 := Nat.lt_of_lt_of_le hs4' ho5.size
  have hf5 := hf4.only ho5 hm3
  have hm5 := nF_next hm3 hF5 hf4.lt
  clear hp4 hs4' hD4 hw4 hf4 ho5 hF5 H5 hn2 hm3
  go_wp2_with fail
  have hx6 := Has5.new w5 0 xe xy true A5 0 c5 33
  have hk6 := C.nF hD5 (Nat.le_refl _)
  have hD6 := C.alloc hD5 (.cells #[.int .i64 0, .int .i64 xe, .int .i64 xy, .bool true, .slice A5 0 c5] 33)
  have hw6 := hw5.alloc hw5.size (.cells #[.int .i64 0, .int .i64 xe, .int .i64 xy, .bool true, .slice A5 0 c5] 33)
  have hf6 := hf5.alloc (.cells #[.int .i64 0, .int .i64 xe, .int .i64 xy, .bool true, .slice A5 0 c5] 33)
  generalize w5.alloc (.cells #[.int .i64 0, .int .i64 xe, .int .i64 xy, .bool true, .slice A5 0 c5] 33) = w6 at *
  generalize w5.heap.size = xb at *
  clear hD5 hw5 hf5 hp5 hn5 hs5
  have H7 := C.act' 1 b hw6 hD6
  rw [act_feed_ended _ _ (by simp; omega) (by exact he1)] at H7
  simp only [PRp, rpV, Rp.err, Vd.zero] at H7
  replace H7 := hid H7
  refine (H7.out).mono ?_
  rintro r w7 ⟨⟨A7, c7, rfl, _⟩, F7, hD7, hF7, ho7, hw7⟩
  simp only [List.length_nil]
  have hf7 := hf6.only ho7 hm5
  have hm7 := nF_next hm5 hF7 hf6.lt
  have hx7 := hx6.only ho7 hk6
  have hk7 := nF_next hk6 hF7 hx6.lt
  clear hD6 hw6 hf6 hx6 H7 ho7 hF7 hm5 hk6
  go_wp2_with fail
  have hr8 := Has5.new w7 3 0 0 false A7 0 c7 33
  have hj8 := C.nF hD7 (Nat.le_refl _)
  have hD8 := C.alloc hD7 (.cells #[.int .i64 3, .int .i64 0, .int .i64 0, .bool false, .slice A7 0 c7] 33)
  have hw8 := hw7.alloc hw7.size (.cells #[.int .i64 3, .int .i64 0, .int .i64 0, .bool false, .slice A7 0 c7] 33)
  have hf8 := hf7.alloc (.cells #[.int .i64 3, .int .i64 0, .int .i64 0, .bool false, .slice A7 0 c7] 33)
  have hx8 := hx7.alloc (.cells #[.int .i64 3, .int .i64 0, .int .i64 0, .bool false, .slice A7 0 c7] 33)
  generalize w7.alloc (.cells #[.int .i64 3, .int .i64 0, .int .i64 0, .bool false, .slice A7 0 c7] 33) = w8 at *
  generalize w7.heap.size = rb at *
  clear hD7 hw7 hf7 hx7
  have H9 := C.act' 2 ⟨#[]⟩ hw8 hD8
  rw [show (⟨#[]⟩ : ByteArray).data.toList = [] from rfl, act_ask _ (by simp; omega), hx2.out] at H9
  simp only [PRp, rpV] at H9
  replace H9 := hid H9
  refine (H9.out).mono ?_
  rintro r w9 ⟨⟨A9, c9, rfl, _⟩, F9, hD9, hF9, ho9, hw9⟩
  simp only [List.length_nil]
  have hf9 := hf8.only ho9 hm7
  have hm9 := nF_next hm7 hF9 hf8.lt
  have hx9 := hx8.only ho9 hk7
  have hk9 := nF_next hk7 hF9 hx8.lt
  have hr9 := hr8.only ho9 hj8
  have hj9 := nF_next hj8 hF9 hr8.lt
  have z1 := hf9.lt
  have z2 := hx9.lt
  have z3 := hr9.lt
  obtain ⟨f0, f1, f2, f3, f4⟩ := hf9
  obtain ⟨x0, x1, x2, x3, x4⟩ := hx9
  obtain ⟨r0, r1, r2, r3, r4⟩ := hr9
  clear hD8 hw8 hf8 hx8 hr8 H9 ho9 hF9
  go_wp2_with fail
  have hD10 := C.alloc hD9 (.cells #[.int .i64 0, .int .i64 xe, .int .i64 xy, .bool true, .slice A9 0 c9] 33)
  have hw10 := hw9.alloc hw9.size (.cells #[.int .i64 0, .int .i64 xe, .int .i64 xy, .bool true, .slice A9 0 c9] 33)
  have hy10 := Has5.new w9 0 xe xy true A9 0 c9 33
  have hf10 := (Has5.mk f0 f1 f2 f3 f4).alloc (.cells #[.int .i64 0, .int .i64 xe, .int .i64 xy, .bool true, .slice A9 0 c9] 33)
  have hx10 := (Has5.mk x0 x1 x2 x3 x4).alloc (.cells #[.int .i64 0, .int .i64 xe, .int .i64 xy, .bool true, .slice A9 0 c9] 33)
  generalize w9.alloc (.cells #[.int .i64 0, .int .i64 xe, .int .i64 xy, .bool true, .slice A9 0 c9] 33) = w10 at *
  generalize w9.heap.size = yb at *
  clear f0 f1 f2 f3 f4 x0 x1 x2 x3 x4 r0 r1 r2 r3 r4 hD9 hw9 z1 z2 z3
  have HB := hid (C.bytes hw10 hD10)
  refine (HB.out).mono ?_
  rintro r w11 ⟨s2, rfl, hs11, hb11⟩
  obtain rfl := ba_eq hs4 hs11
  have hse : (s1.toList == s1.toList) = true := by simp
  have hD11 := C.below hD10 hb11
  have hw11 := hw10.trans (hb11.mono hw10.size)
  have hy11 := hy10.below hb11
  have hf11 := hf10.below hb11
  have hx11 := hx10.below hb11
  obtain ⟨f0, f1, f2, f3, f4⟩ := hf11
  obtain ⟨x0, x1, x2, x3, x4⟩ := hx11
  obtain ⟨y0, y1, y2, y3, y4⟩ := hy11
  clear hD10 hw10 hb11 HB hf10 hx10 hy10
  go_wp2_with fail
  refine (sameReply_nil 0 xe xy true A5 A9 c5 c9 w11).mono ?_
  rintro r w12 ⟨rfl, hb12⟩
  have hD12 := C.below hD11 hb12
  have hw12 := hw11.trans (hb12.mono hw11.size)
  obtain ⟨f0, f1, f2, f3, f4⟩ := (Has5.mk f0 f1 f2 f3 f4).below hb12
  obtain ⟨x0, x1, x2, x3, x4⟩ := (Has5.mk x0 x1 x2 x3 x4).below hb12
  have H13 := C.act' 3 ⟨#[]⟩ hw12 hD12
  rw [show (⟨#[]⟩ : ByteArray).data.toList = [] from rfl, act_fin_ended _ (by simp; omega) (by exact he1)] at H13
  simp only [PRp, rpV, Rp.err, Vd.zero] at H13
  replace H13 := hid H13
  go_wp2_with fail
  refine (H13.out).mono ?_
  rintro r w13 ⟨⟨A13, c13, rfl, _⟩, F13, hD13, hF13, ho13, hw13⟩
  simp only [List.length_nil]
  go_wp2_with fail
  go_ret
  exact ⟨rfl, hw13⟩
theorem vd_fin (d : Dt) (he : d.ended = true) : d.verdict best = ⟨(d.verdict best).enc, (d.verdict best).why, true⟩ := by rw [← fin_ended (best := best) d he]
theorem topEnded_true (C : DetC W best dec) (hd : dec 1 [97] = [97]) (s : ByteArray) (A : Option Addr) (cap : Nat) (l : List (Int × ByteArray)) (hA : ActsIn W (.slice A l.length cap) l) (k : Int) (b : ByteArray) (hs : s.size ≤ 140737488355328) :
    Calls Tryz.prog 9 #[.string s, .slice A l.length cap, .agg #[.int .i64 k, .string b]] W fun e w' => e = .returned (.bool true) ∧ Below W.heap.size W w' := by
  have hac := dtAt_acts (best := best) (dec := dec) (findL s.data.toList) l (min l.length 100) (by omega) (by omega)
  generalize hd0 : dtAt best dec (findL s.data.toList) l (min l.length 100) = d0 at *
  cases he : d0.ended with
  | true =>
    have hv : Dt.verdict best { d0 with acts := d0.acts + 1 } = ⟨(Dt.verdict best { d0 with acts := d0.acts + 1 }).enc, (Dt.verdict best { d0 with acts := d0.acts + 1 }).why, true⟩ := vd_fin _ he
    exact topEnded_no C hd s A cap l hA k b hs d0 _ (hid hd0) _ _ [] (hid (act_fin_ended d0 (by omega) he)) he (by simp; omega) (hid hv)
  | false =>
    have hv : Dt.verdict best { d0 with ended := true, acts := d0.acts + 1 } = ⟨(Dt.verdict best { d0 with ended := true }).enc, (Dt.verdict best { d0 with ended := true }).why, true⟩ := (verdict_same best _ { d0 with ended := true } rfl rfl rfl).trans (vd_fin _ rfl)
    have hf := act_fin (best := best) (dec := dec) d0 (by omega) he
    rw [vd_fin (best := best) { d0 with ended := true } rfl] at hf
    exact topEnded_ok C hd s A cap l hA k b hs d0 _ (hid hd0) _ _ _ (hid hf) rfl (by simp; omega) (hid hv)
end Go.Proofs.YtgfndlbmolnblaaGreatDoor
