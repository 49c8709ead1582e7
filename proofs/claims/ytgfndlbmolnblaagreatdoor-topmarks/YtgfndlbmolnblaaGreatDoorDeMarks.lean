/- The statement TopMarks out of a detector's contracts. -/
import Derived.Test.YtgfndlbmolnblaaGreatDoorDeSure
namespace Go.Proofs.YtgfndlbmolnblaaGreatDoor
open Go.RowKit
attribute [local go_sem ↓] run_eqV run_neV fld_code fld_verdict fld_out

variable {W : World} {best : List UInt8 → Int} {dec : Int → List UInt8 → List Int}
set_option maxRecDepth 100000 in
set_option maxHeartbeats 1000000 in
theorem topMarks_0 (C : DetC W best dec) (hd : dec 1 [97] = [97]) (hdl : ∀ e l, 1 ≤ e → e ≤ 6 → (dec e l).length ≤ l.length) (s x : ByteArray) (k : Int) (hs : s.size ≤ 140737488355328) (hl : decide ((3997 : Int) < (x.size : Int)) = false) (hk : (wrap64 (k.tmod 3 + 3)).tmod 3 = 0) :
    Calls Tryz.prog 8 #[.string s, .string x, .int .i64 k] W fun e w' => e = .returned (.bool true) ∧ Below W.heap.size W w' := by
  have HA := hid (alive_any C hd W (Below.refl _ _))
  have hx : x.size ≤ 3997 := by simp at hl; omega
  have hv : vEq ⟨1, 1, true⟩ ⟨1, 1, true⟩ = true := vEq_self _
  go_enter Tryz.func8, Tryz.ntmps8
  go_wp2_with fail
  refine (HA.out).mono ?_
  rintro r w1 ⟨rfl, hw1⟩
  have HN := hid (fun w hw => C.new s w hs hw)
  go_wp2_with fail
  have hw2 := (hw1.alloc hw1.size (.cells #[.string ⟨#[239, 187, 191]⟩, .string ⟨#[255, 254]⟩, .string ⟨#[254, 255]⟩] 9)).alloc (by simp; exact Nat.le_succ_of_le hw1.size) (.cells #[.int .i64 1, .int .i64 5, .int .i64 6] 3)
  refine (HN.out _ hw2).mono ?_
  rintro r w3 ⟨a, F, rfl, hD, hF, hb3⟩
  have hw3 := hw2.trans (hb3.mono hw2.size)
  have hc3 : w3.cell? ⟨w1.heap.size, 0, none⟩ = some (.string ⟨#[239, 187, 191]⟩) := by rw [(bcell hb3).1 _ _ (by simp; omega)]; simp [go_sem]
  have hn3 : ¬ F w1.heap.size := fun z => by have := hF _ z; simp at this; omega
  have hs3 : w1.heap.size < w3.heap.size := by have := hb3.size; simp at this; omega
  have hy : ((⟨#[239, 187, 191]⟩ : ByteArray) ++ x).data.toList = 239 :: 187 :: 191 :: x.data.toList := by simp
  have hz : ((⟨#[239, 187, 191]⟩ : ByteArray) ++ x).size ≤ 4000 := by
    have h0 : ((⟨#[239, 187, 191]⟩ : ByteArray) ++ x).size = ((⟨#[239, 187, 191]⟩ : ByteArray) ++ x).data.toList.length := Array.length_toList.symm
    rw [h0, hy]; simp; omega
  have H4 := C.act' 1 (⟨#[239, 187, 191]⟩ ++ x) hw3 hD
  have H6 := hid (fun w hw => C.tell 1 (⟨#[239, 187, 191]⟩ ++ x) w (by omega) (by omega) hz hw)
  rw [hy, act_feed _ _ (by simp) rfl (by simp; omega)] at H4
  simp only [PRp, rpV, Vd.zero, List.nil_append, Nat.zero_add] at H4
  replace H4 := hid H4
  have hm := mark_utf x.data.toList
  have hj := judge_mark best (findL s.data.toList) (239 :: 187 :: 191 :: x.data.toList) (by rw [hm]; decide)
  have ht := tell_mark dec (239 :: 187 :: 191 :: x.data.toList) (by rw [hm]; decide)
  rw [hm] at hj ht
  have hdr : (239 :: 187 :: 191 :: x.data.toList).drop ((1, 3) : Int × Int).2.toNat = x.data.toList := rfl
  rw [hdr] at ht
  have hlen : (dec 1 x.data.toList).length ≤ x.size := by have := hdl 1 x.data.toList (by omega) (by omega); simpa using this
  have hlen2 : ((dec 1 x.data.toList).length : Int) ≤ (x.size : Int) := by omega
  rw [hy] at H6
  simp only at ht
  rw [ht] at H6
  go_wp2_with fail
  refine (H4.out).mono ?_
  rintro r w4 ⟨⟨A4, c4, rfl, _⟩, F4, hD4, hF4, ho4, hw4⟩
  have hc4 : w4.cell? ⟨w1.heap.size, 0, none⟩ = some (.string ⟨#[239, 187, 191]⟩) := (ho4.cell hs3 hn3 0).trans hc3
  have hn4 := nF_next hn3 hF4 hs3
  have hs4 := Nat.lt_of_lt_of_le hs3 ho4.size
  have H5 := C.act' 3 ⟨#[]⟩ hw4 hD4
  rw [show (⟨#[]⟩ : ByteArray).data.toList = [] from rfl, act_fin _ (by simp) rfl] at H5
  simp only [PRp, rpV, Dt.verdict, hj, ht] at H5
  rw [show finP true 1 (239 :: 187 :: 191 :: x.data.toList) = true from rfl] at H5
  generalize dec 1 x.data.toList = D at *
  replace H5 := hid H5
  simp only [List.length_nil]
  go_wp2_with fail
  refine (H5.out).mono ?_
  rintro r w5 ⟨⟨A5, c5, rfl, hO5⟩, F5, hD5, hF5, ho5, hw5⟩
  have hc5 : w5.cell? ⟨w1.heap.size, 0, none⟩ = some (.string ⟨#[239, 187, 191]⟩) := (ho5.cell hs4 hn4 0).trans hc4
  have hs5 := Nat.lt_of_lt_of_le hs4 ho5.size
  have hr6 := Has5.new w5 0 1 1 true A5 D.length c5 33
  have hO6 := hO5.alloc (.cells #[.int .i64 0, .int .i64 1, .int .i64 1, .bool true, .slice A5 D.length c5] 33)
  have hw6 := hw5.alloc hw5.size (.cells #[.int .i64 0, .int .i64 1, .int .i64 1, .bool true, .slice A5 D.length c5] 33)
  go_wp2_with fail
  refine (H6.out _ hw6).mono ?_
  rintro r w7 ⟨⟨A7, c7, rfl, hO7⟩, hb7⟩
  have hr7 := hr6.below hb7
  have hO7' := hO6.below hb7
  have hw7 := hw6.trans (hb7.mono hw6.size)
  obtain ⟨r0, r1, r2, r3, r4⟩ := hr7
  clear hr6 hO6 hc5 hs5
  go_wp2_with fail
  refine (tsame_any D _ _ _ _ _ (by omega) hO7' hO7).mono ?_
  rintro r w8 ⟨rfl, hb8⟩
  have hw8 := hw7.trans (hb8.mono hw7.size)
  obtain ⟨r0, r1, r2, r3, r4⟩ := (Has5.mk r0 r1 r2 r3 r4).below hb8
  go_wp2_with fail
  go_ret
  exact ⟨rfl, hw8⟩
set_option maxRecDepth 100000 in
set_option maxHeartbeats 1000000 in
theorem topMarks_1 (C : DetC W best dec) (hd : dec 1 [97] = [97]) (hdl : ∀ e l, 1 ≤ e → e ≤ 6 → (dec e l).length ≤ l.length) (s x : ByteArray) (k : Int) (hs : s.size ≤ 140737488355328) (hl : decide ((3997 : Int) < (x.size : Int)) = false) (hk : (wrap64 (k.tmod 3 + 3)).tmod 3 = 1) :
    Calls Tryz.prog 8 #[.string s, .string x, .int .i64 k] W fun e w' => e = .returned (.bool true) ∧ Below W.heap.size W w' := by
  have HA := hid (alive_any C hd W (Below.refl _ _))
  have hx : x.size ≤ 3997 := by simp at hl; omega
  have hv : vEq ⟨5, 1, true⟩ ⟨5, 1, true⟩ = true := vEq_self _
  go_enter Tryz.func8, Tryz.ntmps8
  go_wp2_with fail
  refine (HA.out).mono ?_
  rintro r w1 ⟨rfl, hw1⟩
  have HN := hid (fun w hw => C.new s w hs hw)
  go_wp2_with fail
  have hw2 := (hw1.alloc hw1.size (.cells #[.string ⟨#[239, 187, 191]⟩, .string ⟨#[255, 254]⟩, .string ⟨#[254, 255]⟩] 9)).alloc (by simp; exact Nat.le_succ_of_le hw1.size) (.cells #[.int .i64 1, .int .i64 5, .int .i64 6] 3)
  refine (HN.out _ hw2).mono ?_
  rintro r w3 ⟨a, F, rfl, hD, hF, hb3⟩
  have hw3 := hw2.trans (hb3.mono hw2.size)
  have hc3 : w3.cell? ⟨w1.heap.size, 1, none⟩ = some (.string ⟨#[255, 254]⟩) := by rw [(bcell hb3).1 _ _ (by simp; omega)]; simp [go_sem]
  have hn3 : ¬ F w1.heap.size := fun z => by have := hF _ z; simp at this; omega
  have hs3 : w1.heap.size < w3.heap.size := by have := hb3.size; simp at this; omega
  have hy : ((⟨#[255, 254]⟩ : ByteArray) ++ x).data.toList = 255 :: 254 :: x.data.toList := by simp
  have hz : ((⟨#[255, 254]⟩ : ByteArray) ++ x).size ≤ 4000 := by
    have h0 : ((⟨#[255, 254]⟩ : ByteArray) ++ x).size = ((⟨#[255, 254]⟩ : ByteArray) ++ x).data.toList.length := Array.length_toList.symm
    rw [h0, hy]; simp; omega
  have H4 := C.act' 1 (⟨#[255, 254]⟩ ++ x) hw3 hD
  have H6 := hid (fun w hw => C.tell 5 (⟨#[255, 254]⟩ ++ x) w (by omega) (by omega) hz hw)
  rw [hy, act_feed _ _ (by simp) rfl (by simp; omega)] at H4
  simp only [PRp, rpV, Vd.zero, List.nil_append, Nat.zero_add] at H4
  replace H4 := hid H4
  have hm := mark_low x.data.toList
  have hj := judge_mark best (findL s.data.toList) (255 :: 254 :: x.data.toList) (by rw [hm]; decide)
  have ht := tell_mark dec (255 :: 254 :: x.data.toList) (by rw [hm]; decide)
  rw [hm] at hj ht
  have hdr : (255 :: 254 :: x.data.toList).drop ((5, 2) : Int × Int).2.toNat = x.data.toList := rfl
  rw [hdr] at ht
  have hlen : (dec 5 x.data.toList).length ≤ x.size := by have := hdl 5 x.data.toList (by omega) (by omega); simpa using this
  have hlen2 : ((dec 5 x.data.toList).length : Int) ≤ (x.size : Int) := by omega
  rw [hy] at H6
  simp only at ht
  rw [ht] at H6
  go_wp2_with fail
  refine (H4.out).mono ?_
  rintro r w4 ⟨⟨A4, c4, rfl, _⟩, F4, hD4, hF4, ho4, hw4⟩
  have hc4 : w4.cell? ⟨w1.heap.size, 1, none⟩ = some (.string ⟨#[255, 254]⟩) := (ho4.cell hs3 hn3 1).trans hc3
  have hn4 := nF_next hn3 hF4 hs3
  have hs4 := Nat.lt_of_lt_of_le hs3 ho4.size
  have H5 := C.act' 3 ⟨#[]⟩ hw4 hD4
  rw [show (⟨#[]⟩ : ByteArray).data.toList = [] from rfl, act_fin _ (by simp) rfl] at H5
  simp only [PRp, rpV, Dt.verdict, hj, ht] at H5
  rw [show finP true 1 (255 :: 254 :: x.data.toList) = true from rfl] at H5
  generalize dec 5 x.data.toList = D at *
  replace H5 := hid H5
  simp only [List.length_nil]
  go_wp2_with fail
  refine (H5.out).mono ?_
  rintro r w5 ⟨⟨A5, c5, rfl, hO5⟩, F5, hD5, hF5, ho5, hw5⟩
  have hc5 : w5.cell? ⟨w1.heap.size, 1, none⟩ = some (.string ⟨#[255, 254]⟩) := (ho5.cell hs4 hn4 1).trans hc4
  have hs5 := Nat.lt_of_lt_of_le hs4 ho5.size
  have hr6 := Has5.new w5 0 5 1 true A5 D.length c5 33
  have hO6 := hO5.alloc (.cells #[.int .i64 0, .int .i64 5, .int .i64 1, .bool true, .slice A5 D.length c5] 33)
  have hw6 := hw5.alloc hw5.size (.cells #[.int .i64 0, .int .i64 5, .int .i64 1, .bool true, .slice A5 D.length c5] 33)
  go_wp2_with fail
  refine (H6.out _ hw6).mono ?_
  rintro r w7 ⟨⟨A7, c7, rfl, hO7⟩, hb7⟩
  have hr7 := hr6.below hb7
  have hO7' := hO6.below hb7
  have hw7 := hw6.trans (hb7.mono hw6.size)
  obtain ⟨r0, r1, r2, r3, r4⟩ := hr7
  clear hr6 hO6 hc5 hs5
  go_wp2_with fail
  refine (tsame_any D _ _ _ _ _ (by omega) hO7' hO7).mono ?_
  rintro r w8 ⟨rfl, hb8⟩
  have hw8 := hw7.trans (hb8.mono hw7.size)
  obtain ⟨r0, r1, r2, r3, r4⟩ := (Has5.mk r0 r1 r2 r3 r4).below hb8
  go_wp2_with fail
  go_ret
  exact ⟨rfl, hw8⟩
set_option maxRecDepth 100000 in
set_option maxHeartbeats 1000000 in
theorem topMarks_2 (C : DetC W best dec) (hd : dec 1 [97] = [97]) (hdl : ∀ e l, 1 ≤ e → e ≤ 6 → (dec e l).length ≤ l.length) (s x : ByteArray) (k : Int) (hs : s.size ≤ 140737488355328) (hl : decide ((3997 : Int) < (x.size : Int)) = false) (hk : (wrap64 (k.tmod 3 + 3)).tmod 3 = 2) :
    Calls Tryz.prog 8 #[.string s, .string x, .int .i64 k] W fun e w' => e = .returned (.bool true) ∧ Below W.heap.size W w' := by
  have HA := hid (alive_any C hd W (Below.refl _ _))
  have hx : x.size ≤ 3997 := by simp at hl; omega
  have hv : vEq ⟨6, 1, true⟩ ⟨6, 1, true⟩ = true := vEq_self _
  go_enter Tryz.func8, Tryz.ntmps8
  go_wp2_with fail
  refine (HA.out).mono ?_
  rintro r w1 ⟨rfl, hw1⟩
  have HN := hid (fun w hw => C.new s w hs hw)
  go_wp2_with fail
  have hw2 := (hw1.alloc hw1.size (.cells #[.string ⟨#[239, 187, 191]⟩, .string ⟨#[255, 254]⟩, .string ⟨#[254, 255]⟩] 9)).alloc (by simp; exact Nat.le_succ_of_le hw1.size) (.cells #[.int .i64 1, .int .i64 5, .int .i64 6] 3)
  refine (HN.out _ hw2).mono ?_
  rintro r w3 ⟨a, F, rfl, hD, hF, hb3⟩
  have hw3 := hw2.trans (hb3.mono hw2.size)
  have hc3 : w3.cell? ⟨w1.heap.size, 2, none⟩ = some (.string ⟨#[254, 255]⟩) := by rw [(bcell hb3).1 _ _ (by simp; omega)]; simp [go_sem]
  have hn3 : ¬ F w1.heap.size := fun z => by have := hF _ z; simp at this; omega
  have hs3 : w1.heap.size < w3.heap.size := by have := hb3.size; simp at this; omega
  have hy : ((⟨#[254, 255]⟩ : ByteArray) ++ x).data.toList = 254 :: 255 :: x.data.toList := by simp
  have hz : ((⟨#[254, 255]⟩ : ByteArray) ++ x).size ≤ 4000 := by
    have h0 : ((⟨#[254, 255]⟩ : ByteArray) ++ x).size = ((⟨#[254, 255]⟩ : ByteArray) ++ x).data.toList.length := Array.length_toList.symm
    rw [h0, hy]; simp; omega
  have H4 := C.act' 1 (⟨#[254, 255]⟩ ++ x) hw3 hD
  have H6 := hid (fun w hw => C.tell 6 (⟨#[254, 255]⟩ ++ x) w (by omega) (by omega) hz hw)
  rw [hy, act_feed _ _ (by simp) rfl (by simp; omega)] at H4
  simp only [PRp, rpV, Vd.zero, List.nil_append, Nat.zero_add] at H4
  replace H4 := hid H4
  have hm := mark_high x.data.toList
  have hj := judge_mark best (findL s.data.toList) (254 :: 255 :: x.data.toList) (by rw [hm]; decide)
  have ht := tell_mark dec (254 :: 255 :: x.data.toList) (by rw [hm]; decide)
  rw [hm] at hj ht
  have hdr : (254 :: 255 :: x.data.toList).drop ((6, 2) : Int × Int).2.toNat = x.data.toList := rfl
  rw [hdr] at ht
  have hlen : (dec 6 x.data.toList).length ≤ x.size := by have := hdl 6 x.data.toList (by omega) (by omega); simpa using this
  have hlen2 : ((dec 6 x.data.toList).length : Int) ≤ (x.size : Int) := by omega
  rw [hy] at H6
  simp only at ht
  rw [ht] at H6
  go_wp2_with fail
  refine (H4.out).mono ?_
  rintro r w4 ⟨⟨A4, c4, rfl, _⟩, F4, hD4, hF4, ho4, hw4⟩
  have hc4 : w4.cell? ⟨w1.heap.size, 2, none⟩ = some (.string ⟨#[254, 255]⟩) := (ho4.cell hs3 hn3 2).trans hc3
  have hn4 := nF_next hn3 hF4 hs3
  have hs4 := Nat.lt_of_lt_of_le hs3 ho4.size
  have H5 := C.act' 3 ⟨#[]⟩ hw4 hD4
  rw [show (⟨#[]⟩ : ByteArray).data.toList = [] from rfl, act_fin _ (by simp) rfl] at H5
  simp only [PRp, rpV, Dt.verdict, hj, ht] at H5
  rw [show finP true 1 (254 :: 255 :: x.data.toList) = true from rfl] at H5
  generalize dec 6 x.data.toList = D at *
  replace H5 := hid H5
  simp only [List.length_nil]
  go_wp2_with fail
  refine (H5.out).mono ?_
  rintro r w5 ⟨⟨A5, c5, rfl, hO5⟩, F5, hD5, hF5, ho5, hw5⟩
  have hc5 : w5.cell? ⟨w1.heap.size, 2, none⟩ = some (.string ⟨#[254, 255]⟩) := (ho5.cell hs4 hn4 2).trans hc4
  have hs5 := Nat.lt_of_lt_of_le hs4 ho5.size
  have hr6 := Has5.new w5 0 6 1 true A5 D.length c5 33
  have hO6 := hO5.alloc (.cells #[.int .i64 0, .int .i64 6, .int .i64 1, .bool true, .slice A5 D.length c5] 33)
  have hw6 := hw5.alloc hw5.size (.cells #[.int .i64 0, .int .i64 6, .int .i64 1, .bool true, .slice A5 D.length c5] 33)
  go_wp2_with fail
  refine (H6.out _ hw6).mono ?_
  rintro r w7 ⟨⟨A7, c7, rfl, hO7⟩, hb7⟩
  have hr7 := hr6.below hb7
  have hO7' := hO6.below hb7
  have hw7 := hw6.trans (hb7.mono hw6.size)
  obtain ⟨r0, r1, r2, r3, r4⟩ := hr7
  clear hr6 hO6 hc5 hs5
  go_wp2_with fail
  refine (tsame_any D _ _ _ _ _ (by omega) hO7' hO7).mono ?_
  rintro r w8 ⟨rfl, hb8⟩
  have hw8 := hw7.trans (hb8.mono hw7.size)
  obtain ⟨r0, r1, r2, r3, r4⟩ := (Has5.mk r0 r1 r2 r3 r4).below hb8
  go_wp2_with fail
  go_ret
  exact ⟨rfl, hw8⟩
set_option maxRecDepth 100000 in
set_option maxHeartbeats 1000000 in
theorem topMarks_long (C : DetC W best dec) (hd : dec 1 [97] = [97]) (s x : ByteArray) (k : Int) (hl : decide ((3997 : Int) < (x.size : Int)) = true) :
    Calls Tryz.prog 8 #[.string s, .string x, .int .i64 k] W fun e w' => e = .returned (.bool true) ∧ Below W.heap.size W w' := by
  have HA := hid (alive_any C hd W (Below.refl _ _))
  go_enter Tryz.func8, Tryz.ntmps8
  go_wp2_with fail
  refine (HA.out).mono ?_
  rintro r w1 ⟨rfl, hw1⟩
  go_wp2_with fail
  go_ret
  exact ⟨rfl, hw1⟩
theorem topMarks_true (C : DetC W best dec) (hd : dec 1 [97] = [97]) (hdl : ∀ e l, 1 ≤ e → e ≤ 6 → (dec e l).length ≤ l.length) (s x : ByteArray) (k : Int) (hs : s.size ≤ 140737488355328) :
    Calls Tryz.prog 8 #[.string s, .string x, .int .i64 k] W fun e w' => e = .returned (.bool true) ∧ Below W.heap.size W w' := by
  cases hl : decide ((3997 : Int) < (x.size : Int)) with
  | true => exact topMarks_long C hd s x k hl
  | false =>
    have h1 := Int.tmod_lt_of_pos k (show (0 : Int) < 3 by omega)
    have h2 : -3 < k.tmod 3 := by
      have := Int.tmod_lt_of_pos (-k) (show (0 : Int) < 3 by omega)
      rw [Int.neg_tmod] at this; omega
    have h3 : wrap64 (k.tmod 3 + 3) = k.tmod 3 + 3 := by unfold wrap64; omega
    have h4 := Int.tmod_lt_of_pos (k.tmod 3 + 3) (show (0 : Int) < 3 by omega)
    have h5 := Int.tmod_nonneg 3 (show 0 ≤ k.tmod 3 + 3 by omega)
    rw [← h3] at h4 h5
    obtain h | h | h : (wrap64 (k.tmod 3 + 3)).tmod 3 = 0 ∨ (wrap64 (k.tmod 3 + 3)).tmod 3 = 1 ∨ (wrap64 (k.tmod 3 + 3)).tmod 3 = 2 := by omega
    · exact topMarks_0 C hd hdl s x k hs hl h
    · exact topMarks_1 C hd hdl s x k hs hl h
    · exact topMarks_2 C hd hdl s x k hs hl h
end Go.Proofs.YtgfndlbmolnblaaGreatDoor
