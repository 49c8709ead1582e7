/- The statement TopEnds out of a detector's contracts. -/
import Derived.Test.YtgfndlbmolnblaaGreatDoorDePlay
namespace Go.Proofs.YtgfndlbmolnblaaGreatDoor
open Go.RowKit
attribute [local go_sem ↓] run_eqV run_neV fld_code fld_verdict fld_out

variable {W : World} {best : List UInt8 → Int} {dec : Int → List UInt8 → List Int}
/-- What holds at the head of TopEnds' loop. -/
def EndsR (C : DetC W best dec) (d0 : Dt) (a : Addr) (w0 : World) (i : Value) (wr : World) : Prop :=
  ∃ (k : Nat) (F : Nat → Prop), k ≤ 300 ∧ i = .int .i64 k ∧ C.IsD wr F a { d0 with acts := k } ∧ (∀ b, F b → w0.heap.size ≤ b) ∧ Below w0.heap.size w0 wr ∧ Below W.heap.size W wr
theorem Only.all {w w' : World} (h : Only (fun _ => False) w w') : Below w.heap.size w w' := ⟨h.os, h.tape, h.output, h.size, fun k hk => h.block k hk id⟩
theorem act_none (d0 : Dt) (k : Nat) (hk : k < 300) : Dt.act best dec { d0 with acts := k } 0 [] = (.err 2, { d0 with acts := k + 1 }) := by
  unfold Dt.act
  rw [if_neg (by simp; omega), if_pos (by simp)]
set_option maxRecDepth 100000 in
set_option maxHeartbeats 1000000 in
theorem topEnds_true (C : DetC W best dec) (hd : dec 1 [97] = [97]) (s : ByteArray) (A : Option Addr) (cap : Nat) (l : List (Int × ByteArray)) (hA : ActsIn W (.slice A l.length cap) l) (k : Int) (b : ByteArray) (hs : s.size ≤ 140737488355328) :
    Calls Tryz.prog 12 #[.string s, .slice A l.length cap, .agg #[.int .i64 k, .string b]] W fun e w' => e = .returned (.bool true) ∧ Below W.heap.size W w' := by
  have HP := hid (fun w hw => play_any C hd s _ l hA 27 #[] _ _ (look_quiet C l _) w hs hw (fun _ h => h.elim) trivial)
  go_enter Tryz.func12, Tryz.ntmps12
  go_wp2_with fail
  have hw0 : Below W.heap.size W (W.alloc (.cells #[.int .i64 k, .string b] 27)) := (Below.refl _ _).alloc (Nat.le_refl _) _
  have q0 : (W.alloc (.cells #[.int .i64 k, .string b] 27)).cell? ⟨W.heap.size, 0, none⟩ = some (.int .i64 k) := by simp [go_sem]
  have q1 : (W.alloc (.cells #[.int .i64 k, .string b] 27)).cell? ⟨W.heap.size, 1, none⟩ = some (.string b) := by simp [go_sem]
  have q2 : W.heap.size < (W.alloc (.cells #[.int .i64 k, .string b] 27)).heap.size := by simp
  generalize W.alloc (.cells #[.int .i64 k, .string b] 27) = w0 at *
  refine (HP.out _ hw0).mono ?_
  rintro r w1 ⟨a, F, rfl, hD, hF, _, ho, hw1⟩
  replace ho := ho.all
  have hac := dtAt_acts (best := best) (dec := dec) (findL s.data.toList) l (min l.length 100) (by omega) (by omega)
  generalize dtAt best dec (findL s.data.toList) l (min l.length 100) = d0 at *
  have hmi : min (l.length : Int) 100 = ((min l.length 100 : Nat) : Int) := by omega
  generalize hm : min l.length 100 = m at *
  have hR : EndsR C d0 a w0 (.int .i64 m) w1 := ⟨m, F, by omega, rfl, by rw [← hac]; exact hD, hF, ho, hw1⟩
  replace hR := hid hR
  replace hm := hid hm
  replace q0 := hid q0
  replace q1 := hid q1
  clear hD hF ho hw1 hac
  go_wp2_with fail
  all_goals
    go_loopw [9] (fun i wr => EndsR C d0 a w0 i wr) (fun i _ => 300 - (intOf i).toNat)
    case atStart =>
      have hm := hm.out
      first
        | exact hR.out
        | (obtain rfl : m = l.length := by omega
           exact hR.out)
        | (obtain rfl : m = 100 := by omega
           exact hR.out)
    case round =>
      clear hR
      obtain ⟨j, F, hj, rfl, hD, hF, hb, hw⟩ := hrel
      by_cases hlt : j < 300
      · have b1 : (j : Int) < 300 := by omega
        have H1 := C.act' 0 ⟨#[]⟩ hw hD
        rw [show (⟨#[]⟩ : ByteArray).data.toList = [] from rfl, act_none d0 j hlt] at H1
        replace H1 := hid H1
        go_wp2_with fail
        refine (H1.out).mono ?_
        rintro r w3 ⟨⟨A1, c1, rfl, hO⟩, F3, hD3, hF3, ho3, hw3⟩
        simp only [rpV, Rp.err, Vd.zero, List.length_nil]
        go_wp2_with fail
        exact ⟨⟨j + 1, F3, by omega, by go_num, hD3, fun b hx => by rcases hF3 b hx with h | h; exact hF b h; exact Nat.le_trans hb.size h, hb.trans (ho3.below hb.size hF), hw3⟩, by simp [intOf]; omega⟩
      · obtain rfl : j = 300 := by omega
        have q0' : wr.cell? ⟨W.heap.size, 0, none⟩ = some (.int .i64 k) := by rw [World.cell?_of_block (a := ⟨W.heap.size, 0, none⟩) (hb.block _ q2)]; exact q0.out
        have q1' : wr.cell? ⟨W.heap.size, 1, none⟩ = some (.string b) := by rw [World.cell?_of_block (a := ⟨W.heap.size, 1, none⟩) (hb.block _ q2)]; exact q1.out
        have HB := hid (fun w hw hD => C.bytes (w := w) (F := F) (a := a) (d := { d0 with acts := 300 }) hw hD)
        go_wp2_with fail
        refine (HB.out _ hw hD).mono ?_
        rintro r w3 ⟨s1, rfl, hs1, hb3⟩
        have hw3 := hw.trans (hb3.mono hw.size)
        have hD3 := C.below hD hb3
        have q03 : w3.cell? ⟨W.heap.size, 0, none⟩ = some (.int .i64 k) := by rw [World.cell?_of_block (a := ⟨W.heap.size, 0, none⟩) (hb3.block _ (Nat.lt_of_lt_of_le q2 hb.size))]; exact q0'
        have q13 : w3.cell? ⟨W.heap.size, 1, none⟩ = some (.string b) := by rw [World.cell?_of_block (a := ⟨W.heap.size, 1, none⟩) (hb3.block _ (Nat.lt_of_lt_of_le q2 hb.size))]; exact q1'
        have H1 := C.act' k b hw3 hD3
        rw [act_full best dec _ _ _ rfl] at H1
        replace H1 := hid H1
        go_wp2_with fail
        refine (H1.out).mono ?_
        rintro r w4 ⟨⟨A1, c1, rfl, hO⟩, F4, hD4, hF4, ho4, hw4⟩
        simp only [rpV, Rp.err, Vd.zero, List.length_nil] at *
        go_wp2_with fail
        refine (sameReply_top 5 0 0 false [] A1 none c1 0 w3.heap.size 0 w4 (by simp) hO (Out.nil _ _)).mono ?_
        rintro r w5 ⟨rfl, hb5⟩
        have hw5 := hw4.trans (hb5.mono hw4.size)
        have hD5 := C.below hD4 hb5
        have HB2 := hid (C.bytes hw5 hD5)
        have hse : (s1.toList == s1.toList) = true := by simp
        go_wp2_with fail
        refine (HB2.out).mono ?_
        rintro r w6 ⟨s2, rfl, hs2, hb6⟩
        obtain rfl := ba_eq hs1 hs2
        have hw6 := hw5.trans (hb6.mono hw5.size)
        go_wp2_with fail
        go_ret
        exact ⟨rfl, hw6⟩
end Go.Proofs.YtgfndlbmolnblaaGreatDoor
