/- score.Whole. -/
import Derived.Test.YtloaemijhggheaaScB
import Derived.Test.YtloaemijhggheaaScS3
namespace Go.Proofs.Ytloaemijhggheaa
open Go.RowKit
attribute [local go_sem ↓] run_eqS run_neS
attribute [local go_sem] byte_at0 byte_at20 byte_at21 w64 S.v and63 and31 and15 and7 kw kw256

/-- The states behind some bytes. -/
def stL (l : List UInt8) (e : Int) : Int := aRun e 0 l
/-- The sums behind some bytes. -/
def smL (l : List UInt8) (e : Int) : Int := sumN e l
/-- The best encoding of some bytes. -/
def bestL (l : List UInt8) : Int := bestE (fun e => aEnds e (aRun e 0 l)) (fun e => sumN e l)
theorem stL_next (s : ByteArray) (k : Nat) (h : k < s.size) (e : Int) : stL (s.data.toList.take (k + 1)) e = aStep e (stL (s.data.toList.take k) e) ((s[k]).toNat : Int) := aRun_next e 0 s k h
theorem smL_one (s : ByteArray) (h : 0 < s.size) : smL (s.data.toList.take (0 + 1)) = smL (s.data.toList.take 0) := by
  funext e
  rw [take_one s 0 h]
  simp [smL, sumN]
theorem smL_next (s : ByteArray) (k : Nat) (h : k + 1 < s.size) (e : Int) : smL (s.data.toList.take (k + 1)) e + weiN e ((s[k]'(by omega)).toNat : Int) ((s[k + 1]).toNat : Int) = smL (s.data.toList.take (k + 1 + 1)) e := by
  unfold smL
  rw [take_one s (k + 1) h, take_one s k (by omega), List.append_assoc]
  exact (sumN_snoc e _ _ _).symm
theorem smL_in (l : List UInt8) (hl : l.length ≤ 4000) (e : Int) : IntKind.i64.wrap (smL l e) = smL l e := by
  have := sumN_in e l
  unfold smL
  rw [IntKind.wrap_i64]
  omega
/-- What holds at the head of Whole's loop. -/
def WhR (s : ByteArray) (w : World) (n : Nat) (last i : Value) (wr : World) : Prop :=
  ∃ k : Nat, k ≤ s.size ∧ i = .int .i64 k ∧ HasL wr n (scL (stL (s.data.toList.take k)) (smL (s.data.toList.take k))) ∧ Below w.heap.size w wr ∧ ((k = 0 ∧ last = .int .i64 (-1)) ∨ ∃ (j : Nat) (h : j < s.size), k = j + 1 ∧ last = .int .i64 ((s[j]).toNat : Int))
set_option maxRecDepth 100000 in
set_option maxHeartbeats 1000000 in
theorem whole_sc (s : ByteArray) (w : World) (hs : s.size ≤ 4000) : Calls Try.prog 38 #[.string s] w (PV w (.int .i64 (bestL s.data.toList))) := by
  go_enter Try.func38, Try.ntmps38
  go_wp2_with fail
  refine (new_any _).mono ?_
  rintro r w1 ⟨rfl, hb⟩
  have hR : WhR s w w1.heap.size (.int .i64 (-1)) (.int .i64 0) (w1.alloc (.cells #[.int .i64 0, .int .i64 0, .int .i64 0, .int .i64 0, .int .i64 0, .int .i64 0, .int .i64 0, .int .i64 0, .int .i64 0, .int .i64 0, .int .i64 0, .int .i64 0, .int .i64 0, .int .i64 0] 59)) :=
    ⟨0, Nat.zero_le _, rfl, HasL.new w1 #[.int .i64 0, .int .i64 0, .int .i64 0, .int .i64 0, .int .i64 0, .int .i64 0, .int .i64 0, .int .i64 0, .int .i64 0, .int .i64 0, .int .i64 0, .int .i64 0, .int .i64 0, .int .i64 0] 59 _ rfl, hb.alloc hb.size _, Or.inl ⟨rfl, rfl⟩⟩
  replace hR := hid hR
  have hsz := hb.size
  clear hb
  go_wp2_with fail
  generalize w1.heap.size = n at *
  go_loopw [4, 10] (fun last i wr => WhR s w n last i wr) (fun _ i _ => s.size - (intOf i).toNat)
  case atStart => exact hR.out
  case round =>
    clear hR
    obtain ⟨k, hk, rfl, hL, hb, hlast⟩ := hrel
    by_cases hlt : k < s.size
    · have b0 : (0 : Int) ≤ (k : Int) := by omega
      have b1 : (k : Int) < (s.size : Int) := by omega
      rcases hlast with ⟨rfl, rfl⟩ | ⟨j, hj, rfl, rfl⟩
      · have H := fun w1 => scStep_first (stL (s.data.toList.take 0)) (smL (s.data.toList.take 0)) (stL (s.data.toList.take (0 + 1))) ((s[0]).toNat : Int) w1 (hid fun e w2 => by rw [stL_next s 0 hlt]; exact step_any e _ s[0] w2)
        have hE := hid (smL_one s hlt)
        have hP := hL.lt (by simp [scL])
        generalize stL (s.data.toList.take 0) = f at *
        generalize smL (s.data.toList.take 0) = g at *
        replace H := hid H
        obtain ⟨n0, n1, n2, n3, n4, n5, n6, n7, n8, n9, n10, n11, n12, n13, nz⟩ := hL.sc
        go_wp2_with fail
        refine (H.out _).mono ?_
        rintro r w2 ⟨rfl, hb2⟩
        have hL2 := hL.below hb2 hP
        have hB2 := hb.trans (hb2.mono hb.size)
        clear n0 n1 n2 n3 n4 n5 n6 n7 n8 n9 n10 n11 n12 n13 nz
        obtain ⟨n0, n1, n2, n3, n4, n5, n6, n7, n8, n9, n10, n11, n12, n13, nz⟩ := hL2.sc
        go_wp2_with fail
        go_roundw
        case rel => exact ⟨1, by omega, rfl, by rw [hE.out]; exact hL2.put14 _ _, put14 hB2 hsz _ _, Or.inr ⟨0, hlt, rfl, rfl⟩⟩
        case measure => simp [intOf]; omega
      · have H := fun w1 => scStep_next (stL (s.data.toList.take (j + 1))) (smL (s.data.toList.take (j + 1))) (stL (s.data.toList.take (j + 1 + 1))) (fun e => weiN e ((s[j]).toNat : Int) ((s[j + 1]).toNat : Int)) (smL (s.data.toList.take (j + 1 + 1))) ((s[j]).toNat : Int) ((s[j + 1]).toNat : Int) w1 (by omega) (fun e => smL_next s j hlt e) (fun e => smL_in _ (by simp; omega) e) (hid fun e w2 => by rw [stL_next s (j + 1) hlt]; exact step_any e _ s[j + 1] w2) (hid fun e w2 => weight_any e _ _ w2 (by omega) (by omega))
        have hP := hL.lt (by simp [scL])
        generalize stL (s.data.toList.take (j + 1)) = f at *
        generalize smL (s.data.toList.take (j + 1)) = g at *
        replace H := hid H
        obtain ⟨n0, n1, n2, n3, n4, n5, n6, n7, n8, n9, n10, n11, n12, n13, nz⟩ := hL.sc
        go_wp2_with fail
        refine (H.out _).mono ?_
        rintro r w2 ⟨rfl, hb2⟩
        have hL2 := hL.below hb2 hP
        have hB2 := hb.trans (hb2.mono hb.size)
        clear n0 n1 n2 n3 n4 n5 n6 n7 n8 n9 n10 n11 n12 n13 nz
        obtain ⟨n0, n1, n2, n3, n4, n5, n6, n7, n8, n9, n10, n11, n12, n13, nz⟩ := hL2.sc
        go_wp2_with fail
        go_roundw
        case rel => exact ⟨j + 1 + 1, by omega, by go_num, hL2.put14 _ _, put14 hB2 hsz _ _, Or.inr ⟨j + 1, hlt, rfl, rfl⟩⟩
        case measure => simp [intOf]; omega
    · have H := fun w1 => scBest_any (stL (s.data.toList.take k)) (smL (s.data.toList.take k)) w1
      rw [List.take_of_length_le (by simp; omega)] at H hL
      change ∀ w1, Calls Try.prog 64 #[(.agg #[.int .i64 0, .int .i64 0, .int .i64 (stL s.data.toList 1), .int .i64 (smL s.data.toList 1), .int .i64 (stL s.data.toList 2), .int .i64 (smL s.data.toList 2), .int .i64 (stL s.data.toList 3), .int .i64 (smL s.data.toList 3), .int .i64 (stL s.data.toList 4), .int .i64 (smL s.data.toList 4), .int .i64 (stL s.data.toList 5), .int .i64 (smL s.data.toList 5), .int .i64 (stL s.data.toList 6), .int .i64 (smL s.data.toList 6)])] w1 (PV w1 (.int .i64 (bestL s.data.toList))) at H
      obtain ⟨v, hv⟩ : ∃ v, v = bestL s.data.toList := ⟨_, rfl⟩
      rw [← hv] at H
      replace hv := hid hv
      generalize stL s.data.toList = f at *
      generalize smL s.data.toList = g at *
      replace H := hid H
      obtain ⟨n0, n1, n2, n3, n4, n5, n6, n7, n8, n9, n10, n11, n12, n13, nz⟩ := hL.sc
      go_wp2_with fail
      refine (H.out _).mono ?_
      rintro r w2 ⟨rfl, hb2⟩
      have hB2 := hb.trans (hb2.mono hb.size)
      go_wp2_with fail
      go_ret
      exact ⟨by rw [← hv.out]; rfl, hB2⟩
end Go.Proofs.Ytloaemijhggheaa
