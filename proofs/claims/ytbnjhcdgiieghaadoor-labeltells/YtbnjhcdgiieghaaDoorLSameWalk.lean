/- The walk over the law LabelSame. -/
import Derived.Test.YtbnjhcdgiieghaaDoorLSame
namespace Go.Proofs.YtbnjhcdgiieghaaDoor
open Go.RowKit

def GapOk (g : ByteArray) (k : Nat) : Prop := ∀ j (_ : j < k) (h : j < g.size), isSp g[j] = true
theorem sp_of (b : UInt8) (h : ¬ (b.toNat : Int) = 32 → ¬ (b.toNat : Int) = 9 → ¬ (b.toNat : Int) = 10 → ¬ (b.toNat : Int) = 12 → ¬ (b.toNat : Int) = 13 → False) : isSp b = true := by
  have e := all_u8 (fun b => isSp b || !(b.toNat == 32 || b.toNat == 9 || b.toNat == 10 || b.toNat == 12 || b.toNat == 13)) (by decide +kernel) b
  cases hb : isSp b with
  | true => rfl
  | false =>
    simp [hb] at e
    exact (h (by omega) (by omega) (by omega) (by omega) (by omega)).elim
theorem GapOk.next {g : ByteArray} {k : Nat} (h : GapOk g k) (hk : k < g.size) (hs : isSp g[k] = true) : GapOk g (k + 1) := fun j hj hg => by
  by_cases e : j = k
  · subst e; exact hs
  · exact h j (by omega) hg
theorem GapOk.all {g : ByteArray} {k : Nat} (h : GapOk g k) (hk : g.size ≤ k) : ∀ b ∈ g.data.toList, isSp b = true := fun b hb => by
  obtain ⟨j, hj, e⟩ := List.getElem_of_mem hb
  have hj' : j < g.size := by simpa using hj
  have := h j (by omega) hj'
  rw [← e]; exact this

theorem btL {a b c : World} (h : Below a.heap.size a b) (k : Below b.heap.size b c) : Below a.heap.size a c := h.trans (k.mono h.size)
theorem nameL_le (e : Int) : (nameL e).length ≤ 8 := by
  unfold nameL
  repeat (first | (split; decide) | decide)

set_option maxRecDepth 100000 in
set_option maxHeartbeats 4000000 in
theorem labelSame_any (s g : ByteArray) (e : Int) (w : World) (hs : s.size ≤ 140737488355328) (hg : g.size ≤ 140737488355328) :
    Calls Tryd.prog 4 #[.string s, .string g, .int .i64 e] w fun x w' => x = .returned (.bool true) ∧ Below w.heap.size w w' := by
  go_enter Tryd.func4, Tryd.ntmps4
  go_wp2_with fail
  go_loop [11] (fun i => ∃ k : Nat, k ≤ g.size ∧ i = .int .i64 k ∧ GapOk g k) (fun i => g.size - (intOf i).toNat)
  case atStart => exact ⟨0, Nat.zero_le _, rfl, fun j hj => absurd hj (by omega)⟩
  case round =>
    obtain ⟨k, hk, rfl, hok⟩ := hrel
    by_cases hlt : k < g.size
    · go_wp2_with (go_at_call 15; refine (labels12 _).mono ?_; rintro e w1 ⟨rfl, hb1⟩)
      all_goals first
        | (go_ret; exact ⟨rfl, by assumption⟩)
        | (have hsp : isSp g[k] = true := sp_of _ (fun a1 a2 a3 a4 a5 => by simp_all)
           have hn := hok.next hlt hsp
           clear hsp
           go_round
           case rel => exact ⟨k + 1, by omega, by go_num, hn⟩
           case measure => simp [intOf]; omega)
    · have hall := hok.all (by omega)
      clear hok
      have hT : (trimL s.data.toList).length ≤ s.size := by
        have := trimS_le s.data.toList spaces
        unfold trimL; rw [lowL_length]; simpa using this
      have h2 := fun w1 => trim_any ⟨(trimL s.data.toList).toArray⟩ w1 (by rw [Lib.size_mk]; omega)
      have e2 : trimL (⟨(trimL s.data.toList).toArray⟩ : ByteArray).data.toList = trimL s.data.toList := trimL_trimL _
      rw [e2] at h2
      have h1 := fun w1 => trim_any s w1 (by omega)
      clear e2 hT
      have eg : (g ++ s ++ g).data.toList = g.data.toList ++ s.data.toList ++ g.data.toList := by simp
      have h3 := fun w1 => trim_any (g ++ s ++ g) w1 (by simp; omega)
      rw [eg, trimL_gap _ _ hall] at h3
      have h5 := fun w1 => find_any s w1 (by omega)
      have h4 : s.size + 2 * g.size ≤ 40 → ∀ w1, Calls Tryd.prog 10 #[.string (g ++ s ++ g)] w1 fun x w' => x = .returned (.int .i64 (findL s.data.toList)) ∧ Below w1.heap.size w1 w' := fun hn w1 => by
        have := find_any (g ++ s ++ g) w1 (by simp; omega)
        rw [eg, findL_gap _ _ hall (by simpa using hn)] at this
        exact this
      have h6 := name_any e
      have h7 := fun w1 => find_any ⟨(nameL e).toArray⟩ w1 (by rw [Lib.size_mk]; have := nameL_le e; omega)
      have e7 : findL (⟨(nameL e).toArray⟩ : ByteArray).data.toList = if 1 ≤ e ∧ e ≤ 6 then e else 0 := findL_name e
      rw [e7] at h7
      clear e7 eg
      generalize (⟨(nameL e).toArray⟩ : ByteArray) = n at h6 h7
      generalize (⟨(trimL s.data.toList).toArray⟩ : ByteArray) = t at h1 h2 h3
      generalize findL s.data.toList = f at h4 h5
      have H1 := hid h1
      have H2 := hid h2
      have H3 := hid h3
      have H4 := hid h4
      have H5 := hid h5
      have H6 := hid h6
      clear h1 h2 h3 h4 h5 h6 hall
      obtain he | he | he : e < 1 ∨ 6 < e ∨ (1 ≤ e ∧ e ≤ 6) := by omega
      · rw [if_neg (by omega)] at h7
        have H7 := hid h7
        clear h7
        by_cases hn : s.size + 2 * g.size ≤ 40
        · have hd : decide ((40 : Int) < (s.size : Int) + 2 * (g.size : Int)) = false := by simp; omega
          have H4' := hid (H4.out hn)
          clear H4
          go_wp2_with fail
          refine (H1.out _).mono ?_
          rintro e1 w1 ⟨rfl, hb1⟩
          go_wp2_with fail
          refine (H2.out _).mono ?_
          rintro e1 w2 ⟨rfl, hb2⟩
          go_wp2_with fail
          refine (H3.out _).mono ?_
          rintro e1 w3 ⟨rfl, hb3⟩
          go_wp2_with fail
          refine (H4'.out _).mono ?_
          rintro e1 w4 ⟨rfl, hb4⟩
          go_wp2_with fail
          refine (H5.out _).mono ?_
          rintro e1 w5 ⟨rfl, hb5⟩
          go_wp2_with fail
          refine (H6.out _).mono ?_
          rintro e1 w6 ⟨rfl, hb6⟩
          go_wp2_with fail
          refine (H7.out _).mono ?_
          rintro e1 w7 ⟨rfl, hb7⟩
          go_wp2_with fail
          refine (lin_low e he _).mono ?_
          rintro e1 _ ⟨rfl, rfl⟩
          go_wp2_with fail
          refine (labels12 _).mono ?_
          rintro e1 w9 ⟨rfl, hb9⟩
          go_wp2_with fail
          go_ret
          exact ⟨rfl, btL (btL (btL (btL (btL (btL (btL hb1 hb2) hb3) hb4) hb5) hb6) hb7) hb9⟩
        · have hd : decide ((40 : Int) < (s.size : Int) + 2 * (g.size : Int)) = true := by simp; omega
          clear H4 H5
          go_wp2_with fail
          refine (H1.out _).mono ?_
          rintro e1 w1 ⟨rfl, hb1⟩
          go_wp2_with fail
          refine (H2.out _).mono ?_
          rintro e1 w2 ⟨rfl, hb2⟩
          go_wp2_with fail
          refine (H3.out _).mono ?_
          rintro e1 w3 ⟨rfl, hb3⟩
          go_wp2_with fail
          refine (H6.out _).mono ?_
          rintro e1 w4 ⟨rfl, hb6⟩
          go_wp2_with fail
          refine (H7.out _).mono ?_
          rintro e1 w5 ⟨rfl, hb7⟩
          go_wp2_with fail
          refine (lin_low e he _).mono ?_
          rintro e1 _ ⟨rfl, rfl⟩
          go_wp2_with fail
          refine (labels12 _).mono ?_
          rintro e1 w7 ⟨rfl, hb9⟩
          go_wp2_with fail
          go_ret
          exact ⟨rfl, btL (btL (btL (btL (btL hb1 hb2) hb3) hb6) hb7) hb9⟩
      · rw [if_neg (by omega)] at h7
        have H7 := hid h7
        clear h7
        by_cases hn : s.size + 2 * g.size ≤ 40
        · have hd : decide ((40 : Int) < (s.size : Int) + 2 * (g.size : Int)) = false := by simp; omega
          have H4' := hid (H4.out hn)
          clear H4
          go_wp2_with fail
          refine (H1.out _).mono ?_
          rintro e1 w1 ⟨rfl, hb1⟩
          go_wp2_with fail
          refine (H2.out _).mono ?_
          rintro e1 w2 ⟨rfl, hb2⟩
          go_wp2_with fail
          refine (H3.out _).mono ?_
          rintro e1 w3 ⟨rfl, hb3⟩
          go_wp2_with fail
          refine (H4'.out _).mono ?_
          rintro e1 w4 ⟨rfl, hb4⟩
          go_wp2_with fail
          refine (H5.out _).mono ?_
          rintro e1 w5 ⟨rfl, hb5⟩
          go_wp2_with fail
          refine (H6.out _).mono ?_
          rintro e1 w6 ⟨rfl, hb6⟩
          go_wp2_with fail
          refine (H7.out _).mono ?_
          rintro e1 w7 ⟨rfl, hb7⟩
          go_wp2_with fail
          refine (lin_high e he _).mono ?_
          rintro e1 _ ⟨rfl, rfl⟩
          go_wp2_with fail
          refine (labels12 _).mono ?_
          rintro e1 w9 ⟨rfl, hb9⟩
          go_wp2_with fail
          go_ret
          exact ⟨rfl, btL (btL (btL (btL (btL (btL (btL hb1 hb2) hb3) hb4) hb5) hb6) hb7) hb9⟩
        · have hd : decide ((40 : Int) < (s.size : Int) + 2 * (g.size : Int)) = true := by simp; omega
          clear H4 H5
          go_wp2_with fail
          refine (H1.out _).mono ?_
          rintro e1 w1 ⟨rfl, hb1⟩
          go_wp2_with fail
          refine (H2.out _).mono ?_
          rintro e1 w2 ⟨rfl, hb2⟩
          go_wp2_with fail
          refine (H3.out _).mono ?_
          rintro e1 w3 ⟨rfl, hb3⟩
          go_wp2_with fail
          refine (H6.out _).mono ?_
          rintro e1 w4 ⟨rfl, hb6⟩
          go_wp2_with fail
          refine (H7.out _).mono ?_
          rintro e1 w5 ⟨rfl, hb7⟩
          go_wp2_with fail
          refine (lin_high e he _).mono ?_
          rintro e1 _ ⟨rfl, rfl⟩
          go_wp2_with fail
          refine (labels12 _).mono ?_
          rintro e1 w7 ⟨rfl, hb9⟩
          go_wp2_with fail
          go_ret
          exact ⟨rfl, btL (btL (btL (btL (btL hb1 hb2) hb3) hb6) hb7) hb9⟩
      · rw [if_pos he] at h7
        have H7 := hid h7
        clear h7
        by_cases hn : s.size + 2 * g.size ≤ 40
        · have hd : decide ((40 : Int) < (s.size : Int) + 2 * (g.size : Int)) = false := by simp; omega
          have H4' := hid (H4.out hn)
          clear H4
          obtain ⟨he1, he2⟩ := he
          iterate 1
            go_wp2_with fail
            refine (H1.out _).mono ?_
            rintro e1 w1 ⟨rfl, hb1⟩
            go_wp2_with fail
            refine (H2.out _).mono ?_
            rintro e1 w2 ⟨rfl, hb2⟩
            go_wp2_with fail
            refine (H3.out _).mono ?_
            rintro e1 w3 ⟨rfl, hb3⟩
            go_wp2_with fail
            refine (H4'.out _).mono ?_
            rintro e1 w4 ⟨rfl, hb4⟩
            go_wp2_with fail
            refine (H5.out _).mono ?_
            rintro e1 w5 ⟨rfl, hb5⟩
            go_wp2_with fail
            refine (H6.out _).mono ?_
            rintro e1 w6 ⟨rfl, hb6⟩
            go_wp2_with fail
            refine (H7.out _).mono ?_
            rintro e1 w7 ⟨rfl, hb7⟩
            go_wp2_with fail
            rw [show max 0 (min e 7) % 7 = e from by omega]
            refine (lin_yes e he1 he2 _).mono ?_
            rintro e1 _ ⟨rfl, rfl⟩
            go_wp2_with fail
            refine (labels12 _).mono ?_
            rintro e1 w9 ⟨rfl, hb9⟩
            go_wp2_with fail
            go_ret
            exact ⟨rfl, btL (btL (btL (btL (btL (btL (btL hb1 hb2) hb3) hb4) hb5) hb6) hb7) hb9⟩
        · have hd : decide ((40 : Int) < (s.size : Int) + 2 * (g.size : Int)) = true := by simp; omega
          clear H4 H5
          obtain ⟨he1, he2⟩ := he
          iterate 1
            go_wp2_with fail
            refine (H1.out _).mono ?_
            rintro e1 w1 ⟨rfl, hb1⟩
            go_wp2_with fail
            refine (H2.out _).mono ?_
            rintro e1 w2 ⟨rfl, hb2⟩
            go_wp2_with fail
            refine (H3.out _).mono ?_
            rintro e1 w3 ⟨rfl, hb3⟩
            go_wp2_with fail
            refine (H6.out _).mono ?_
            rintro e1 w4 ⟨rfl, hb6⟩
            go_wp2_with fail
            refine (H7.out _).mono ?_
            rintro e1 w5 ⟨rfl, hb7⟩
            go_wp2_with fail
            rw [show max 0 (min e 7) % 7 = e from by omega]
            refine (lin_yes e he1 he2 _).mono ?_
            rintro e1 _ ⟨rfl, rfl⟩
            go_wp2_with fail
            refine (labels12 _).mono ?_
            rintro e1 w7 ⟨rfl, hb9⟩
            go_wp2_with fail
            go_ret
            exact ⟨rfl, btL (btL (btL (btL (btL hb1 hb2) hb3) hb6) hb7) hb9⟩
end Go.Proofs.YtbnjhcdgiieghaaDoor
