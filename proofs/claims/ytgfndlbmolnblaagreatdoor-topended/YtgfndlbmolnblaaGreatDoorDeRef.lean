/- The statement TopRefused out of a detector's contracts. -/
import Derived.Test.YtgfndlbmolnblaaGreatDoorDeEnds
namespace Go.Proofs.YtgfndlbmolnblaaGreatDoor
open Go.RowKit
attribute [local go_sem ↓] run_eqV run_neV fld_code fld_verdict fld_out

variable {W : World} {best : List UInt8 → Int} {dec : Int → List UInt8 → List Int}
theorem act_ask (d : Dt) (h : d.acts ≠ 300) : Dt.act best dec d 2 [] = (⟨0, d.verdict best, []⟩, { d with acts := d.acts + 1 }) := by
  unfold Dt.act
  rw [if_neg h, if_neg (by omega), if_pos rfl]
set_option maxRecDepth 100000 in
set_option maxHeartbeats 1000000 in
theorem topRefused_true (C : DetC W best dec) (hd : dec 1 [97] = [97]) (s : ByteArray) (A : Option Addr) (cap : Nat) (l : List (Int × ByteArray)) (hA : ActsIn W (.slice A l.length cap) l) (k : Int) (b : ByteArray) (hs : s.size ≤ 140737488355328) :
    Calls Tryz.prog 10 #[.string s, .slice A l.length cap, .agg #[.int .i64 k, .string b]] W fun e w' => e = .returned (.bool true) ∧ Below W.heap.size W w' := by
  have HP := hid (fun w hw => play_any C hd s _ l hA 27 #[] _ _ (look_quiet C l _) w hs hw (fun _ h => h.elim) trivial)
  go_enter Tryz.func10, Tryz.ntmps10
  go_wp2_with fail
  have hw0 : Below W.heap.size W (W.alloc (.cells #[.int .i64 k, .string b] 27)) := (Below.refl _ _).alloc (Nat.le_refl _) _
  have q0 : (W.alloc (.cells #[.int .i64 k, .string b] 27)).cell? ⟨W.heap.size, 0, none⟩ = some (.int .i64 k) := by simp [go_sem]
  have q1 : (W.alloc (.cells #[.int .i64 k, .string b] 27)).cell? ⟨W.heap.size, 1, none⟩ = some (.string b) := by simp [go_sem]
  have q2 : W.heap.size < (W.alloc (.cells #[.int .i64 k, .string b] 27)).heap.size := by simp
  generalize W.alloc (.cells #[.int .i64 k, .string b] 27) = w0 at *
  refine (HP.out _ hw0).mono ?_
  rintro r w1 ⟨a, F, rfl, hD, hF, _, ho, hw1⟩
  replace ho := ho.all
  go_wp2_with fail
  refine (HP.out _ hw1).mono ?_
  rintro r w2 ⟨g, G, rfl, hG, hGF, _, ho2, hw2⟩
  replace ho2 := ho2.all
  have hD2 := C.below hD ho2
  have hdis : ∀ k, G k → ¬ F k := fun k h1 h2 => by have := hGF k h1; have := (C.lt hD k h2).2; omega
  have hac := dtAt_acts (best := best) (dec := dec) (findL s.data.toList) l (min l.length 100) (by omega) (by omega)
  generalize dtAt best dec (findL s.data.toList) l (min l.length 100) = d0 at *
  have hb02 := ho.trans (ho2.mono ho.size)
  have q02 : w2.cell? ⟨W.heap.size, 0, none⟩ = some (.int .i64 k) := by rw [World.cell?_of_block (a := ⟨W.heap.size, 0, none⟩) (hb02.block _ q2)]; exact q0
  have q12 : w2.cell? ⟨W.heap.size, 1, none⟩ = some (.string b) := by rw [World.cell?_of_block (a := ⟨W.heap.size, 1, none⟩) (hb02.block _ q2)]; exact q1
  clear q0 q1
  have H1 := C.act' k b hw2 hD2
  have hcnt := act_count best dec d0 k b.data.toList (by omega)
  have href := act_refused best dec d0 k b.data.toList
  generalize hr : Dt.act best dec d0 k b.data.toList = R at *
  obtain ⟨⟨rc, ⟨re, ry, rf⟩, ro⟩, d1⟩ := R
  simp only [PRp, rpV] at *
  replace H1 := hid H1
  replace href := hid href
  replace hr := hid hr
  go_wp2_with fail
  refine (H1.out).mono ?_
  rintro r w3 ⟨⟨A1, c1, rfl, hO⟩, F3, hD3, hF3, ho3, hw3⟩
  have hG3 := C.other hG ho3 hdis
  have hdis3 : ∀ k, G k → ¬ F3 k := fun k h1 h2 => by rcases hF3 k h2 with h | h; exact hdis k h1 h; have := (C.lt hG k h1).2; omega
  by_cases hc : rc = 0
  · subst hc
    go_wp2_with fail
    go_ret
    exact ⟨rfl, hw3.alloc hw3.size _⟩
  · have hc' : (rc == 0) = false := by simpa using hc
    obtain ⟨e1, e2, e3, e4⟩ := href.out hc
    simp only [Rp.err, Vd.zero, Rp.mk.injEq, Vd.mk.injEq, true_and] at e1
    obtain ⟨⟨rfl, rfl, rfl⟩, rfl⟩ := e1
    have hv : vEq ⟨0, 0, false⟩ ⟨0, 0, false⟩ = true := vEq_self _
    have hw4 := hw3.alloc hw3.size (.cells #[.int .i64 rc, .int .i64 0, .int .i64 0, .bool false, .slice A1 0 c1] 33)
    have hD4 := C.alloc hD3 (.cells #[.int .i64 rc, .int .i64 0, .int .i64 0, .bool false, .slice A1 0 c1] 33)
    have hG4 := C.alloc hG3 (.cells #[.int .i64 rc, .int .i64 0, .int .i64 0, .bool false, .slice A1 0 c1] 33)
    have HB1 := hid (C.bytes hw4 hD4)
    go_wp2_with fail
    refine (HB1.out).mono ?_
    rintro r w5 ⟨s1, rfl, hs1, hb5⟩
    have hw5 := hw4.trans (hb5.mono hw4.size)
    have hD5 := C.below hD4 hb5
    have hG5 := C.below hG4 hb5
    have HB2 := hid (C.bytes hw5 hG5)
    go_wp2_with fail
    refine (HB2.out).mono ?_
    rintro r w6 ⟨s2, rfl, hs2, hb6⟩
    rw [e2] at hs1
    obtain rfl := ba_eq hs1 hs2
    have hse : (s1.toList == s1.toList) = true := by simp
    have hw6 := hw5.trans (hb6.mono hw5.size)
    have hD6 := C.below hD5 hb6
    have hG6 := C.below hG5 hb6
    have H6 := C.act' 2 ⟨#[]⟩ hw6 hD6
    rw [show (⟨#[]⟩ : ByteArray).data.toList = [] from rfl, act_ask d1 (by omega)] at H6
    have hve := verdict_same best d1 d0 e4 e2 e3
    rw [hve] at H6
    replace H6 := hid H6
    go_wp2_with fail
    refine (H6.out).mono ?_
    rintro r w7 ⟨⟨A7, c7, rfl, hO7⟩, F7, hD7, hF7, ho7, hw7⟩
    have hG7 := C.other hG6 ho7 hdis3
    have H7 := C.act' 2 ⟨#[]⟩ hw7 hG7
    rw [show (⟨#[]⟩ : ByteArray).data.toList = [] from rfl, act_ask d0 (by omega)] at H7
    replace H7 := hid H7
    simp only [rpV, List.length_nil] at *
    go_wp2_with fail
    refine (H7.out).mono ?_
    rintro r w8 ⟨⟨A8, c8, rfl, hO8⟩, F8, hD8, hF8, ho8, hw8⟩
    simp only [rpV, List.length_nil] at *
    go_wp2_with fail
    refine (sameReply_nil 0 _ _ _ A7 A8 c7 c8 w8).mono ?_
    rintro r w9 ⟨rfl, hb9⟩
    have hw9 := hw8.trans (hb9.mono hw8.size)
    go_wp2_with fail
    go_ret
    exact ⟨rfl, hw9⟩
end Go.Proofs.YtgfndlbmolnblaaGreatDoor
