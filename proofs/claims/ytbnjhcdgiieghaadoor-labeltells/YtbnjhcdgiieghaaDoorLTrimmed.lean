/- The walk over the reference's Trimmed. -/
import Derived.Test.YtbnjhcdgiieghaaDoorLTrimmedM
namespace Go.Proofs.YtbnjhcdgiieghaaDoor
open Go.RowKit

set_option maxRecDepth 100000 in
set_option maxHeartbeats 4000000 in
theorem trimmed_any (s : ByteArray) (w : World) (hs : s.size ≤ 140737488355328) :
    Calls Tryd.prog 9 #[.string s] w fun e w' => e = .returned (.string ⟨(trimL s.data.toList).toArray⟩) ∧ Below w.heap.size w w' := by
  go_enter Tryd.func9, Tryd.ntmps9
  go_wp2_with fail
  go_loop [0] (fun v => ∃ t : ByteArray, v = .string t ∧ t.size ≤ s.size ∧ TL t.data.toList = TL s.data.toList) (fun v => strLenT v)
  case atStart => exact ⟨s, rfl, Nat.le_refl _, rfl⟩
  case round =>
    obtain ⟨t, rfl, ht, he⟩ := hrel
    have HE := hid he
    clear he
    by_cases hgo : ∃ h0 : 0 < t.size, isSp t[0] = true
    · obtain ⟨h0, hsp⟩ := hgo
      have hne := nonempty_of t h0
      have hc := space_any t[0]
      rw [hsp] at hc
      have HC := hid hc
      have HS := hid hsp
      clear hc hsp
      go_wp2_with fail
      refine (HC.out _).mono ?_
      rintro e _ ⟨rfl, rfl⟩
      go_wp2_with fail
      go_round
      case rel => exact ⟨_, rfl, by simp; omega, (TL_tail t h0 HS.out).trans HE.out⟩
      case measure => simp [strLenT]; omega
    · have hst := TL_stay t (fun h0 => by cases h : isSp t[0] with
        | true => exact absurd ⟨h0, h⟩ hgo
        | false => rfl)
      have HT : Hid (trimL s.data.toList = lowL (TR t.data.toList)) := by
        show _ = _
        rw [trimL_eq, ← TL_TR, ← HE.out, hst]
      clear HE hst
      by_cases h0 : 0 < t.size
      focus
        have hne := nonempty_of t h0
        have hc := space_any t[0]
        have hsp : isSp t[0] = false := by
          cases h : isSp t[0] with
          | true => exact absurd ⟨h0, h⟩ hgo
          | false => rfl
        rw [hsp] at hc
        have HC := hid hc
        clear hc hsp hgo
        go_wp2_with fail
        refine (HC.out _).mono ?_
        rintro e _ ⟨rfl, rfl⟩
        clear hne HC
        go_wp2_with fail
      rotate_left
      focus
        have hne := empty_of t h0
        clear hgo
        go_wp2_with fail
        clear hne
      all_goals
        go_loop [0] (fun v => ∃ u : ByteArray, v = .string u ∧ u.size ≤ s.size ∧ TR u.data.toList = TR t.data.toList) (fun v => strLenT v)
        case atStart => exact ⟨t, rfl, ht, rfl⟩
        case round =>
          obtain ⟨u, rfl, hu, he⟩ := hrel
          have HE := hid he
          clear he
          by_cases hgo : ∃ h0 : 0 < u.size, isSp u[u.size - 1] = true
          · obtain ⟨h0, hsp⟩ := hgo
            have hne := nonempty_of u h0
            have hc := space_any u[u.size - 1]
            rw [hsp] at hc
            have HC := hid hc
            have HS := hid hsp
            clear hc hsp
            go_wp2_with fail
            refine (HC.out _).mono ?_
            rintro e _ ⟨rfl, rfl⟩
            go_wp2_with fail
            go_round
            case rel => exact ⟨_, rfl, by simp; omega, (TR_front u h0 HS.out).trans HE.out⟩
            case measure => simp [strLenT]; omega
          · have hst := TR_stay u (fun h0 => by cases h : isSp u[u.size - 1] with
              | true => exact absurd ⟨h0, h⟩ hgo
              | false => rfl)
            have HT2 : Hid (trimL s.data.toList = lowL u.data.toList) := by
              show _ = _
              rw [HT.out, ← HE.out, hst]
            have hmk := run_make_row' (P := Tryd.prog) 37 5 (.int .u8 0) 1 Tryd.underlying37 info5 rfl .i64 .i64 u.size (by omega) (by omega)
            have HM := hid hmk
            clear HE hst HT hmk
            by_cases h0 : 0 < u.size
            focus
              have hne := nonempty_of u h0
              have hc := space_any u[u.size - 1]
              have hsp : isSp u[u.size - 1] = false := by
                cases h : isSp u[u.size - 1] with
                | true => exact absurd ⟨h0, h⟩ hgo
                | false => rfl
              rw [hsp] at hc
              have HC := hid hc
              clear hc hsp hgo
              go_wp2_with fail
              refine (HC.out _).mono ?_
              rintro e _ ⟨rfl, rfl⟩
              clear hne HC
              have hmk := HM.out
              go_wp2_with fail
            rotate_left
            focus
              have hne := empty_of u h0
              clear hgo
              have hmk := HM.out
              go_wp2_with fail
              clear hne
            all_goals
              clear HM hmk h0
              have hst := PutInv.start u.data.toList u.size (size_data u) w
              have HL := hid (size_data u)
              go_loopw [37] (fun i wr => ∃ k : Nat, k ≤ u.size ∧ i = .int .i64 k ∧ PutInv u.data.toList k w.heap.size w wr) (fun i _ => u.size - (intOf i).toNat)
              case atStart => exact ⟨0, Nat.zero_le _, rfl, hst⟩
              case round =>
                clear hst
                obtain ⟨k, hk, rfl, hinv⟩ := hrel
                by_cases hlt : k < u.size
                · obtain ⟨n0, hc, _⟩ := hinv.cell k (by rw [HL.out]; exact hlt)
                  have hf := hinv.free k (by rw [HL.out]; exact hlt)
                  have HX := hid (getD_data u k hlt)
                  by_cases hyes : 65 ≤ u[k].toNat ∧ u[k].toNat ≤ 90
                  · obtain ⟨h1, h2⟩ := hyes
                    have hb : (u[k].toNat : Int) + 32 = ((lowB (u.data.toList.getD k 0)).toNat : Int) := by
                      rw [HX.out, lowB_yes _ ⟨h1, h2⟩]; omega
                    have HP := hid ((hinv.any (u[k].toNat : Int)).put (by rw [HL.out]; exact hlt) _ hb)
                    clear hb
                    go_wp2_with fail
                    go_roundw
                    case rel => exact ⟨k + 1, by omega, by go_num, HP.out⟩
                    case measure => simp [intOf]; omega
                  · have hb : (u[k].toNat : Int) = ((lowB (u.data.toList.getD k 0)).toNat : Int) := by
                      rw [HX.out, lowB_no _ hyes]
                    have HP := hid (hinv.put (by rw [HL.out]; exact hlt) _ hb)
                    clear hb
                    go_wp2_with fail
                    all_goals
                      go_roundw
                      case rel => exact ⟨k + 1, by omega, by go_num, HP.out⟩
                      case measure => simp [intOf]; omega
                · have hk' : k = u.size := by omega
                  subst hk'
                  have hback := fun cap => hinv.back (cap := cap)
                  go_wp2_with fail
                  go_ret
                  exact ⟨by rw [HT2.out]; rfl, hinv.below⟩
end Go.Proofs.YtbnjhcdgiieghaaDoor
