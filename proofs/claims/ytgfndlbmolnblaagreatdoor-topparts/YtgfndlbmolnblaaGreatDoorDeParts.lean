/- The statement TopParts out of a detector's contracts. -/
import Derived.Test.YtgfndlbmolnblaaGreatDoorDeSure
import Derived.Deep.RegionWith
namespace Go.Proofs.YtgfndlbmolnblaaGreatDoor
open Go.RowKit
attribute [local go_sem ↓] run_eqV run_neV fld_code fld_verdict fld_out

variable {W : World} {best : List UInt8 → Int} {dec : Int → List UInt8 → List Int}
/-- What a finish tells of all bytes. -/
def finRp (best : List UInt8 → Int) (dec : Int → List UInt8 → List Int) (h : Int) (l : List UInt8) : Rp := ⟨0, Dt.verdict best ⟨h, l, true, 0⟩, tellP dec (judgeP best h l).1 l⟩
theorem act_finRp (d : Dt) (h : d.acts ≠ 300) (he : d.ended = false) : (Dt.act best dec d 3 []).1 = finRp best dec d.hint d.l := by
  rw [act_fin d h he]
  exact congrArg (fun v => Rp.mk 0 v _) (verdict_same best _ _ rfl rfl rfl)
/-- What holds at the head of TopParts' loop. -/
def PartR (C : DetC W best dec) (h : Int) (x : ByteArray) (xb N B : Nat) (c e y : Int) (f : Bool) (A : Option Addr) (n : Nat) (T : List Int) (g : Addr) (i : Value) (wr : World) : Prop :=
  ∃ (k : Nat) (F : Nat → Prop), k ≤ x.size ∧ i = .int .i64 k ∧ C.IsD wr F g ⟨h, x.data.toList.take k, false, k⟩ ∧ (∀ b, F b → N ≤ b) ∧ N ≤ wr.heap.size ∧ Has5 wr xb c e y f A T.length n ∧ Out wr B (.slice A T.length n) T ∧ Below W.heap.size W wr
theorem ext_one (x : ByteArray) (k : Nat) (h : k < x.size) : (x.extract k (k + 1)).data.toList = [x[k]] := by
  have h1 : (x.extract k (k + 1)).data.toList = (x.data.toList.drop k).take 1 := by simp
  rw [h1, List.drop_eq_getElem_cons (by simpa using h)]
  rfl
theorem take_next (x : ByteArray) (k : Nat) (h : k < x.size) : x.data.toList.take k ++ [x[k]] = x.data.toList.take (k + 1) := by
  rw [List.take_add_one, List.getElem?_eq_getElem (by simpa using h)]
  rfl
set_option maxRecDepth 100000 in
set_option maxHeartbeats 2000000 in
theorem topParts_mid (C : DetC W best dec) (hd : dec 1 [97] = [97]) (s x : ByteArray) (k : Int) (kk : Nat) (hs : s.size ≤ 140737488355328) (hl : decide ((4000 : Int) < (x.size : Int)) = false) (hkk : kk ≤ x.size) (hk : (wrap64 (wrap64 (k.tmod ((x.size : Int) + 1) + (x.size : Int)) + 1)).tmod ((x.size : Int) + 1) = (kk : Int))
    (c e y : Int) (f : Bool) (T : List Int) (hR : Hid (finRp best dec (findL s.data.toList) x.data.toList = ⟨c, ⟨e, y, f⟩, T⟩)) (hT : T.length ≤ 4000) :
    Calls Tryz.prog 4 #[.string s, .string x, .int .i64 k] W fun e w' => e = .returned (.bool true) ∧ Below W.heap.size W w' := by
  have HA := hid (alive_any C hd W (Below.refl _ _))
  have hx4 : x.size ≤ 4000 := by simp at hl; omega
  have hx5 : (x.size : Int) ≤ 4000 := by omega
  have hnz : ((x.size : Int) + 1 == 0) = false := by simp; omega
  have k0 : (0 : Int) ≤ (kk : Int) := by omega
  have k1 : (kk : Int) ≤ (x.size : Int) := by omega
  have hxl : x.data.toList.length = x.size := Array.length_toList
  go_enter Tryz.func4, Tryz.ntmps4
  go_wp2_with fail
  refine (HA.out).mono ?_
  rintro r w1 ⟨rfl, hw1⟩
  have HN := hid (C.new s w1 hs hw1)
  go_wp2_with fail
  refine (HN.out).mono ?_
  rintro r w2 ⟨a, F, rfl, hD, _, hb2⟩
  have hw2 := hw1.trans (hb2.mono hw1.size)
  have HN2 := hid (C.new s w2 hs hw2)
  go_wp2_with fail
  refine (HN2.out).mono ?_
  rintro r w3 ⟨g, G, rfl, hG, hGF, hb3⟩
  have hw3 := hw2.trans (hb3.mono hw2.size)
  have hD3 := C.below hD hb3
  have hdis : ∀ k, G k → ¬ F k := fun k h1 h2 => by have := hGF k h1; have := (C.lt hD k h2).2; omega
  clear hb2 hb3 hw1 hw2 HN HN2 hD hGF
  -- all bytes at once
  have H4 := C.act' 1 x hw3 hD3
  rw [act_feed _ _ (by simp) rfl (by simp; omega)] at H4
  simp only [PRp, rpV, Vd.zero, List.nil_append, Nat.zero_add] at H4
  replace H4 := hid H4
  go_wp2_with fail
  refine (H4.out).mono ?_
  rintro r w4 ⟨⟨A4, c4, rfl, _⟩, F4, hD4, hF4, ho4, hw4⟩
  have hG4 := C.other hG ho4 hdis
  have hdis4 : ∀ k, G k → ¬ F4 k := fun k h1 h2 => by rcases hF4 k h2 with h | h; exact hdis k h1 h; have := (C.lt hG k h1).2; omega
  simp only [List.length_nil]
  clear H4 hF4 ho4 hw3 hD3 hdis hG
  have hda : ∀ k, F4 k → ¬ G k := fun k h1 h2 => hdis4 k h2 h1
  clear hdis4
  have H5 := C.act' 1 (x.extract 0 kk) hw4 hG4
  rw [act_feed _ _ (by simp) rfl (by rw [extP_take]; simp; omega)] at H5
  simp only [PRp, rpV, Vd.zero, List.nil_append, Nat.zero_add, extP_take] at H5
  replace H5 := hid H5
  go_wp2_with fail
  refine (H5.out).mono ?_
  rintro r w5 ⟨⟨A5, c5, rfl, _⟩, G5, hG5, hGF5, ho5, hw5⟩
  have hD5 := C.other hD4 ho5 hda
  have hd5 : ∀ k, F4 k → ¬ G5 k := fun k h1 h2 => by rcases hGF5 k h2 with h | h; exact hda k h1 h; have := (C.lt hD4 k h1).2; omega
  simp only [List.length_nil]
  clear H5 hw4 hG4 hD4 hda ho5 hGF5
  have H6 := C.act' 2 ⟨#[]⟩ hw5 hG5
  rw [show (⟨#[]⟩ : ByteArray).data.toList = [] from rfl, act_ask _ (by simp)] at H6
  simp only [PRp, rpV] at H6
  generalize Dt.verdict best _ = V6 at H6
  obtain ⟨ve6, vy6, vf6⟩ := V6
  simp only at H6
  replace H6 := hid H6
  go_wp2_with fail
  refine (H6.out).mono ?_
  rintro r w6 ⟨⟨A6, c6, rfl, _⟩, G6, hG6, hGF6, ho6, hw6⟩
  have hD6 := C.other hD5 ho6 hd5
  have hd6 : ∀ k, F4 k → ¬ G6 k := fun k h1 h2 => by rcases hGF6 k h2 with h | h; exact hd5 k h1 h; have := (C.lt hD5 k h1).2; omega
  simp only [List.length_nil]
  clear H6 hw5 hG5 hD5 hd5 ho6 hGF6
  have H7 := C.act' 1 ⟨#[]⟩ hw6 hG6
  rw [show (⟨#[]⟩ : ByteArray).data.toList = [] from rfl, act_feed _ _ (by simp) rfl (by simp; omega)] at H7
  simp only [PRp, rpV, Vd.zero, List.append_nil] at H7
  replace H7 := hid H7
  go_wp2_with fail
  refine (H7.out).mono ?_
  rintro r w7 ⟨⟨A7, c7, rfl, _⟩, G7, hG7, hGF7, ho7, hw7⟩
  have hD7 := C.other hD6 ho7 hd6
  have hd7 : ∀ k, F4 k → ¬ G7 k := fun k h1 h2 => by rcases hGF7 k h2 with h | h; exact hd6 k h1 h; have := (C.lt hD6 k h1).2; omega
  simp only [List.length_nil]
  clear H7 hw6 hG6 hD6 hd6 ho7 hGF7
  have H8 := C.act' 1 (x.extract kk x.size) hw7 hG7
  rw [act_feed _ _ (by simp) rfl (by rw [extP_drop]; simp; omega)] at H8
  simp only [PRp, rpV, Vd.zero, extP_drop, List.take_append_drop] at H8
  replace H8 := hid H8
  go_wp2_with fail
  refine (H8.out).mono ?_
  rintro r w8 ⟨⟨A8, c8, rfl, _⟩, G8, hG8, hGF8, ho8, hw8⟩
  have hD8 := C.other hD7 ho8 hd7
  have hd8 : ∀ k, F4 k → ¬ G8 k := fun k h1 h2 => by rcases hGF8 k h2 with h | h; exact hd7 k h1 h; have := (C.lt hD7 k h1).2; omega
  simp only [List.length_nil]
  clear H8 hw7 hG7 hD7 hd7 ho8 hGF8
  have H9 := C.act' 3 ⟨#[]⟩ hw8 hD8
  rw [show (⟨#[]⟩ : ByteArray).data.toList = [] from rfl] at H9
  rw [act_finRp _ (by simp) rfl] at H9
  simp only [hR.out, PRp, rpV] at H9
  replace H9 := hid H9
  go_wp2_with fail
  refine (H9.out).mono ?_
  rintro r w9 ⟨⟨A9, c9, rfl, hO9⟩, F9, hD9, hF9, ho9, hw9⟩
  have hG9 := C.other hG8 ho9 (fun k h1 h2 => hd8 k h2 h1)
  have H10 := C.act' 3 ⟨#[]⟩ hw9 hG9
  rw [show (⟨#[]⟩ : ByteArray).data.toList = [] from rfl] at H10
  rw [act_finRp _ (by simp) rfl] at H10
  simp only [hR.out, PRp, rpV] at H10
  replace H10 := hid H10
  go_wp2_with fail
  refine (H10.out).mono ?_
  rintro r w10 ⟨⟨A10, c10, rfl, hO10⟩, G10, hG10, hGF10, ho10, hw10⟩
  have hO9' := hO9.only ho10 (fun b hb hx => by have := (hO9.own b hb).1; have := (C.lt hG8 b hx).2; omega)
  clear H9 H10 hD9 hG10 hGF10 ho10 hG9 ho9 hF9 hw9 hD8 hG8 hd8 hw8 hO9
  go_wp2_with fail
  have hx11 := (Has5.new w10 c e y f A9 T.length c9 33).alloc (.cells #[.int .i64 c, .int .i64 e, .int .i64 y, .bool f, .slice A10 T.length c10] 33)
  have hO11 := (hO9'.alloc (.cells #[.int .i64 c, .int .i64 e, .int .i64 y, .bool f, .slice A9 T.length c9] 33)).alloc (.cells #[.int .i64 c, .int .i64 e, .int .i64 y, .bool f, .slice A10 T.length c10] 33)
  have hP11 := (hO10.alloc (.cells #[.int .i64 c, .int .i64 e, .int .i64 y, .bool f, .slice A9 T.length c9] 33)).alloc (.cells #[.int .i64 c, .int .i64 e, .int .i64 y, .bool f, .slice A10 T.length c10] 33)
  have hw11 := (hw10.alloc hw10.size (.cells #[.int .i64 c, .int .i64 e, .int .i64 y, .bool f, .slice A9 T.length c9] 33)).alloc (hw10.alloc hw10.size _).size (.cells #[.int .i64 c, .int .i64 e, .int .i64 y, .bool f, .slice A10 T.length c10] 33)
  generalize (w10.alloc (.cells #[.int .i64 c, .int .i64 e, .int .i64 y, .bool f, .slice A9 T.length c9] 33)).alloc (.cells #[.int .i64 c, .int .i64 e, .int .i64 y, .bool f, .slice A10 T.length c10] 33) = w11 at *
  refine (sameReply_top c e y f T A9 A10 c9 c10 _ _ w11 (by omega) hO11 hP11).mono ?_
  rintro r w12 ⟨rfl, hb12⟩
  have hw12 := hw11.trans (hb12.mono hw11.size)
  have hx12 := hx11.below hb12
  have hO12 := hO11.below hb12
  generalize w10.heap.size = xb at *
  clear hx11 hO11 hP11 hw11 hb12 hO9' hO10 hw10
  cases hq : decide ((200 : Int) < (x.size : Int)) with
  | true =>
    go_wp2_with fail
    go_ret
    exact ⟨rfl, hw12⟩
  | false =>
    have hx2 : x.size ≤ 200 := by simp at hq; omega
    have HN := hid (C.new s w12 hs hw12)
    go_wp2_with fail
    refine (HN.out).mono ?_
    rintro r w13 ⟨p, P, rfl, hD13, hP13, hb13⟩
    have hR13 : PartR C (findL s.data.toList) x xb w12.heap.size w8.heap.size c e y f A9 c9 T p (.int .i64 0) w13 := ⟨0, P, Nat.zero_le _, rfl, hD13, hP13, hb13.size, hx12.below hb13, hO12.below hb13, hw12.trans (hb13.mono hw12.size)⟩
    have hxb := hx12.lt
    have hob := fun g hg => (hO12.own g hg).2
    replace hR13 := hid hR13
    replace hob := hid hob
    clear hD13 hP13 hb13 hx12 hO12 hw12 HN
    go_wp2_with fail
    go_loopw [74] (fun i wr => PartR C (findL s.data.toList) x xb w12.heap.size w8.heap.size c e y f A9 c9 T p i wr) (fun i _ => x.size - (intOf i).toNat)
    case atStart => exact hR13.out
    case round =>
      clear hR13
      obtain ⟨j, F, hj, rfl, hDj, hFj, hNj, hxj, hOj, hwj⟩ := hrel
      have hnx : ¬ F xb := fun z => by have := hFj _ z; omega
      have hno : ∀ g, (Value.slice A9 T.length c9).ownBlock = some g → ¬ F g := fun g hg z => by have := hFj _ z; have := hob.out g hg; omega
      by_cases hlt : j < x.size
      · have b0 : (0 : Int) ≤ (j : Int) := by omega
        have b1 : (j : Int) < (x.size : Int) := by omega
        have b2 : (j : Int) + 1 ≤ (x.size : Int) := by omega
        have H14 := C.act' 1 (x.extract j (j + 1)) hwj hDj
        rw [ext_one x j hlt, act_feed _ _ (by simp; omega) rfl (by simp; omega)] at H14
        simp only [PRp, rpV, Vd.zero, take_next x j hlt] at H14
        replace H14 := hid H14
        go_wp2_with fail
        refine (H14.out).mono ?_
        rintro r w14 ⟨⟨A14, c14, rfl, _⟩, F14, hD14, hF14, ho14, hw14⟩
        simp only [List.length_nil]
        go_wp2_with fail
        exact ⟨⟨j + 1, F14, by omega, by go_num, hD14, fun b hb => by rcases hF14 b hb with h | h; exact hFj b h; omega, Nat.le_trans hNj ho14.size, hxj.only ho14 hnx, hOj.only ho14 hno, hw14⟩, by simp [intOf]; omega⟩
      · obtain rfl : j = x.size := by omega
        have b1 : ¬ (x.size : Int) < (x.size : Int) := by omega
        rw [List.take_of_length_le (by simp)] at hDj
        have H15 := fun w hw hD => C.act' (w := w) (F := F) (a := p) (d := ⟨findL s.data.toList, x.data.toList, false, x.size⟩) 3 ⟨#[]⟩ hw hD
        rw [show (⟨#[]⟩ : ByteArray).data.toList = [] from rfl] at H15
        rw [act_finRp _ (by simp; omega) rfl] at H15
        simp only [hR.out, PRp, rpV] at H15
        replace H15 := hid H15
        have hlx := hxj.lt
        have kx := hxj
        obtain ⟨x0, x1, x2, x3, x4⟩ := kx
        go_wp2_with fail
        go_region_with (first
          | (go_at_call 22; refine (H15.out _ ?_ ?_).mono ?_; exact hwj.drew; exact C.drew hDj; rintro r w15 ⟨⟨A15, c15, rfl, hO15⟩, F15, hD15, hF15, ho15, hw15⟩; have ho15' : Only F wr w15 := ⟨ho15.os, ho15.tape, ho15.output, ho15.size, ho15.block⟩; obtain ⟨q0, q1, q2, q3, q4⟩ := hxj.only ho15' hnx; have hO16 := hOj.only ho15' hno)
          | (go_at_call 23; refine (sameReply_top c e y f T A9 A15 c9 c15 _ _ _ (by omega) hO16 hO15).mono ?_; rintro r w17 ⟨rfl, hb17⟩))
        all_goals
          go_wp2_with fail
          go_ret
          exact ⟨rfl, hw15.trans (hb17.mono hw15.size)⟩
set_option maxRecDepth 100000 in
set_option maxHeartbeats 1000000 in
theorem topParts_long (C : DetC W best dec) (hd : dec 1 [97] = [97]) (s x : ByteArray) (k : Int) (hl : decide ((4000 : Int) < (x.size : Int)) = true) :
    Calls Tryz.prog 4 #[.string s, .string x, .int .i64 k] W fun e w' => e = .returned (.bool true) ∧ Below W.heap.size W w' := by
  have HA := hid (alive_any C hd W (Below.refl _ _))
  go_enter Tryz.func4, Tryz.ntmps4
  go_wp2_with fail
  refine (HA.out).mono ?_
  rintro r w1 ⟨rfl, hw1⟩
  go_wp2_with fail
  go_ret
  exact ⟨rfl, hw1⟩
/-- The place of the cut. -/
theorem cut_at (n : Nat) (hn : n ≤ 4000) (k : Int) : ∃ kk : Nat, kk ≤ n ∧ (wrap64 (wrap64 (k.tmod ((n : Int) + 1) + (n : Int)) + 1)).tmod ((n : Int) + 1) = (kk : Int) := by
  have h1 := Int.tmod_lt_of_pos k (show (0 : Int) < (n : Int) + 1 by omega)
  have h2 : -((n : Int) + 1) < k.tmod ((n : Int) + 1) := by
    have := Int.tmod_lt_of_pos (-k) (show (0 : Int) < (n : Int) + 1 by omega)
    rw [Int.neg_tmod] at this; omega
  generalize k.tmod ((n : Int) + 1) = q at *
  have h3 : wrap64 (q + (n : Int)) = q + (n : Int) := by unfold wrap64; omega
  have h4 : wrap64 (q + (n : Int) + 1) = q + (n : Int) + 1 := by unfold wrap64; omega
  rw [h3, h4]
  have h5 := Int.tmod_lt_of_pos (q + (n : Int) + 1) (show (0 : Int) < (n : Int) + 1 by omega)
  have h6 := Int.tmod_nonneg ((n : Int) + 1) (show 0 ≤ q + (n : Int) + 1 by omega)
  exact ⟨((q + (n : Int) + 1).tmod ((n : Int) + 1)).toNat, by omega, by omega⟩
theorem topParts_true (C : DetC W best dec) (hd : dec 1 [97] = [97]) (hbest : ∀ l, 0 ≤ best l ∧ best l ≤ 6) (hdl : ∀ e l, 1 ≤ e → e ≤ 6 → (dec e l).length ≤ l.length) (s x : ByteArray) (k : Int) (hs : s.size ≤ 140737488355328) :
    Calls Tryz.prog 4 #[.string s, .string x, .int .i64 k] W fun e w' => e = .returned (.bool true) ∧ Below W.heap.size W w' := by
  cases hl : decide ((4000 : Int) < (x.size : Int)) with
  | true => exact topParts_long C hd s x k hl
  | false =>
    have hx : x.size ≤ 4000 := by simp at hl; omega
    obtain ⟨kk, h1, h2⟩ := cut_at x.size hx k
    have hin := judgeP_in best hbest (findL s.data.toList) x.data.toList
    have hT : (finRp best dec (findL s.data.toList) x.data.toList).out.length ≤ 4000 := by
      have hxl : x.data.toList.length = x.size := Array.length_toList
      simp only [finRp]
      unfold tellP
      split
      · have := hdl (judgeP best (findL s.data.toList) x.data.toList).1 (x.data.toList.drop (markL x.data.toList).2.toNat) hin.1 hin.2.1
        simp at this; omega
      · have := hdl (judgeP best (findL s.data.toList) x.data.toList).1 x.data.toList hin.1 hin.2.1
        omega
    generalize hR : finRp best dec (findL s.data.toList) x.data.toList = R at *
    obtain ⟨c, ⟨e, y, f⟩, T⟩ := R
    exact topParts_mid C hd s x k kk hs hl h1 h2 c e y f T (hid hR) hT
end Go.Proofs.YtgfndlbmolnblaaGreatDoor
