/- The walk over the law DecodePlain. -/
import Derived.Test.YtloaemijhggheaaFewW
namespace Go.Proofs.Ytloaemijhggheaa
open Go.RowKit
attribute [local go_sem ↓] run_eqS run_neS
attribute [local go_sem] byte_at0 byte_at20 byte_at21 w64 S.v and63 and31 and15 and7 kw kw256

/-- The first k bytes are plain. -/
def Plain (s : ByteArray) (k : Nat) : Prop := ∀ j (_ : j < k) (h : j < s.size), plainB s[j]
theorem Plain.next {s : ByteArray} {k : Nat} (h : Plain s k) (hk : k < s.size) (hb : plainB s[k]) : Plain s (k + 1) := fun j hj hg => by
  by_cases e : j = k
  · subst e; exact hb
  · exact h j (by omega) hg
theorem Plain.all {s : ByteArray} {k : Nat} (h : Plain s k) (hk : s.size ≤ k) : ∀ b ∈ s.data.toList, plainB b := fun b hb => by
  obtain ⟨j, hj, e⟩ := List.getElem_of_mem hb
  have hj' : j < s.size := by simpa using hj
  have := h j (by omega) hj'
  rw [← e]; exact this
theorem plain_num (s : ByteArray) (j : Nat) (h : j < s.size) (h2 : j < (s.data.toList.map nb).length) : (s.data.toList.map nb)[j] = (s[j].toNat : Int) := by
  rw [List.getElem_map]; rfl

set_option maxRecDepth 100000 in
set_option maxHeartbeats 2000000 in
theorem plain_any (e : Int) (s : ByteArray) (w : World) (hs : s.size ≤ 140737488355328) : Calls Try.prog 6 #[.int .i64 e, .string s] w fun r w' => r = .returned (.bool true) ∧ Below w.heap.size w w' := by
  go_enter Try.func6, Try.ntmps6
  go_wp2_with fail
  go_loop [11] (fun i => ∃ k : Nat, k ≤ s.size ∧ i = .int .i64 k ∧ Plain s k) (fun i => s.size - (intOf i).toNat)
  case atStart => exact ⟨0, Nat.zero_le _, rfl, fun j hj => absurd hj (by omega)⟩
  case round =>
    obtain ⟨k, hk, rfl, hok⟩ := hrel
    by_cases hlt : k < s.size
    · by_cases hp : plainB s[k]
      · have hn := hok.next hlt hp
        replace hn := hid hn
        obtain ⟨p1, p2⟩ := hp
        unfold nb at p1 p2
        clear hok
        go_wp2_with fail
        go_round
        case rel => exact ⟨k + 1, by omega, by go_num, hn.out⟩
        case measure => simp [intOf]; omega
      · obtain h1 | ⟨h1, h2⟩ : (s[k].toNat : Int) < 32 ∨ (¬ (s[k].toNat : Int) < 32 ∧ 126 < (s[k].toNat : Int)) := by unfold plainB nb at hp; omega
        all_goals
          clear hok hp
          go_wp2_with fail
          refine (decodes_keep _).mono ?_
          rintro r w1 ⟨rfl, hb⟩
          go_wp2_with fail
          go_ret
          exact ⟨rfl, hb⟩
    · have hall := hok.all (by omega)
      clear hok
      cases hd : decide ((4000 : Int) < (s.size : Int)) with
      | true =>
        clear hall
        go_wp2_with fail
        refine (decodes_keep _).mono ?_
        rintro r w1 ⟨rfl, hb⟩
        go_wp2_with fail
        go_ret
        exact ⟨rfl, hb⟩
      | false =>
        by_cases he1 : e < 1
        · clear hall
          go_wp2_with fail
          refine (decodes_keep _).mono ?_
          rintro r w1 ⟨rfl, hb⟩
          go_wp2_with fail
          go_ret
          exact ⟨rfl, hb⟩
        by_cases he2 : 4 < e
        · clear hall
          go_wp2_with fail
          refine (decodes_keep _).mono ?_
          rintro r w1 ⟨rfl, hb⟩
          go_wp2_with fail
          go_ret
          exact ⟨rfl, hb⟩
        obtain ⟨M, F, hF⟩ := plain_of e (by omega) (by omega)
        have hs4 : s.size ≤ 4000 := by simp at hd; omega
        have H := fun w1 => whole_any F.con F.goods s hs4 w1
        rw [hF _ hall] at H
        have hlen : (s.data.toList.map nb).length = s.size := by simp
        have hnum := hid (fun j h h2 => plain_num s j h h2)
        generalize s.data.toList.map nb = l at *
        replace H := hid H
        clear hF F hall
        go_wp2_with fail
        refine (H.out _).mono ?_
        rintro r w1 ⟨v, rfl, ho, hb⟩
        by_cases h0 : 0 < l.length
        · obtain ⟨g, cap, rfl, _, hc⟩ := ho.rows h0
          replace hc := hid hc
          clear ho
          have hd1 : ((l.length : Int) != (s.size : Int)) = false := by simp [hlen]
          have hd2 : ((l.length : Int) == (s.size : Int)) = true := by simp [hlen]
          have hlen' := hid hlen
          have hle : l.length ≤ s.size := by omega
          clear hlen
          go_wp2_with fail
          go_loopw [55] (fun i wr => ∃ k n : Nat, k ≤ l.length ∧ i = .int .i64 k ∧ wr = w1.drewN n) (fun i _ => l.length - (intOf i).toNat)
          case atStart => exact ⟨0, 0, Nat.zero_le _, rfl, rfl⟩
          case round =>
            obtain ⟨k, n, hk, rfl, rfl⟩ := hrel
            by_cases hlt : k < l.length
            · have e1 := hc.out k hlt
              have hks : k < s.size := by omega
              rw [hnum.out k hks hlt] at e1
              have b0 : (0 : Int) ≤ (k : Int) := by omega
              have b1 : (k : Int) < (l.length : Int) := by omega
              have b2 : (k : Int) < (s.size : Int) := by omega
              go_wp2_with fail
              go_quiet (fail)
              go_wp2_with fail
              go_roundw
              case rel => exact ⟨k + 1, _, by omega, by go_num, rfl⟩
              case measure => simp [intOf]; omega
            · go_wp2_with fail
              refine (decodes_keep _).mono ?_
              rintro r w2 ⟨rfl, hb2⟩
              have hb3 := (bdrewN hb n).trans (hb2.mono (bdrewN hb n).size)
              go_wp2_with fail
              go_ret
              exact ⟨rfl, hb3⟩
        · obtain ⟨A, c, rfl⟩ := ho.shape
          have hz : s.size = 0 := by omega
          obtain rfl : l = [] := List.eq_nil_of_length_eq_zero (by omega)
          simp only [List.length_nil]
          clear ho h0 hnum hlen
          have hd1 : ((0 : Int) != (s.size : Int)) = false := by simp [hz]
          have hd2 : ((0 : Int) == (s.size : Int)) = true := by simp [hz]
          have hd3 : ((s.size : Int) == (0 : Int)) = true := by simp [hz]
          have hd4 : ((s.size : Int) != (0 : Int)) = false := by simp [hz]
          replace hz := hid hz
          go_wp2_with fail
          go_loop [55] (fun i => i = .int .i64 0) (fun _ => 0)
          case atStart => rfl
          case round =>
            subst hrel
            go_wp2_with fail
            refine (decodes_keep _).mono ?_
            rintro r w2 ⟨rfl, hb2⟩
            go_wp2_with fail
            go_ret
            exact ⟨rfl, hb.trans (hb2.mono hb.size)⟩
end Go.Proofs.Ytloaemijhggheaa
