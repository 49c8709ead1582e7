/- The walks over the reference's NameOf and FindLabel. -/
import Derived.Test.YtbnjhcdgiieghaaDoorLTrimmed
import Derived.Test.YtbnjhcdgiieghaaDoorLShelf2
namespace Go.Proofs.YtbnjhcdgiieghaaDoor
open Go.RowKit

set_option maxHeartbeats 400000 in
theorem nameOf_1 (w : World) : Calls Tryd.prog 13 #[.int .i64 1] w fun x w' => x = .returned (.string ⟨#[117, 116, 102, 45, 56]⟩) ∧ w = w' := by
  go_enter Tryd.func13, Tryd.ntmps13
  go_wp2
  go_ret
  exact ⟨rfl, rfl⟩
set_option maxHeartbeats 400000 in
theorem nameOf_2 (w : World) : Calls Tryd.prog 13 #[.int .i64 2] w fun x w' => x = .returned (.string ⟨#[115, 104, 105, 102, 116]⟩) ∧ w = w' := by
  go_enter Tryd.func13, Tryd.ntmps13
  go_wp2
  go_ret
  exact ⟨rfl, rfl⟩
set_option maxHeartbeats 400000 in
theorem nameOf_3 (w : World) : Calls Tryd.prog 13 #[.int .i64 3] w fun x w' => x = .returned (.string ⟨#[116, 119, 105, 110]⟩) ∧ w = w' := by
  go_enter Tryd.func13, Tryd.ntmps13
  go_wp2
  go_ret
  exact ⟨rfl, rfl⟩
set_option maxHeartbeats 400000 in
theorem nameOf_4 (w : World) : Calls Tryd.prog 13 #[.int .i64 4] w fun x w' => x = .returned (.string ⟨#[108, 97, 116, 105, 110]⟩) ∧ w = w' := by
  go_enter Tryd.func13, Tryd.ntmps13
  go_wp2
  go_ret
  exact ⟨rfl, rfl⟩
set_option maxHeartbeats 400000 in
theorem nameOf_5 (w : World) : Calls Tryd.prog 13 #[.int .i64 5] w fun x w' => x = .returned (.string ⟨#[117, 116, 102, 45, 49, 54, 108, 101]⟩) ∧ w = w' := by
  go_enter Tryd.func13, Tryd.ntmps13
  go_wp2
  go_ret
  exact ⟨rfl, rfl⟩
set_option maxHeartbeats 400000 in
theorem nameOf_6 (w : World) : Calls Tryd.prog 13 #[.int .i64 6] w fun x w' => x = .returned (.string ⟨#[117, 116, 102, 45, 49, 54, 98, 101]⟩) ∧ w = w' := by
  go_enter Tryd.func13, Tryd.ntmps13
  go_wp2
  go_ret
  exact ⟨rfl, rfl⟩
set_option maxHeartbeats 400000 in
theorem nameOf_none (e : Int) (h1 : (e == 1) = false) (h2 : (e == 2) = false) (h3 : (e == 3) = false) (h4 : (e == 4) = false) (h5 : (e == 5) = false) (h6 : (e == 6) = false) (w : World) : Calls Tryd.prog 13 #[.int .i64 e] w fun x w' => x = .returned (.string ⟨#[]⟩) ∧ w = w' := by
  go_enter Tryd.func13, Tryd.ntmps13
  go_wp2
  go_ret
  exact ⟨rfl, rfl⟩
theorem nameOf_any (e : Int) (w : World) : Calls Tryd.prog 13 #[.int .i64 e] w fun x w' => x = .returned (.string ⟨(nameL e).toArray⟩) ∧ w = w' := by
  by_cases h : 1 ≤ e ∧ e ≤ 6
  · obtain h | h | h | h | h | h : e = 1 ∨ e = 2 ∨ e = 3 ∨ e = 4 ∨ e = 5 ∨ e = 6 := by omega
    · subst h; exact nameOf_1 w
    · subst h; exact nameOf_2 w
    · subst h; exact nameOf_3 w
    · subst h; exact nameOf_4 w
    · subst h; exact nameOf_5 w
    · subst h; exact nameOf_6 w
  · have hn : nameL e = [] := by unfold nameL; repeat rw [if_neg (by omega)]
    rw [hn]
    exact nameOf_none e (beq_eq_false_iff_ne.2 (by omega)) (beq_eq_false_iff_ne.2 (by omega)) (beq_eq_false_iff_ne.2 (by omega)) (beq_eq_false_iff_ne.2 (by omega)) (beq_eq_false_iff_ne.2 (by omega)) (beq_eq_false_iff_ne.2 (by omega)) w

/-- The reference's rows of labels, and the labels in each. -/
def grp (k : Nat) : ByteArray := [(⟨#[117, 116, 102, 45, 56, 32, 117, 116, 102, 56, 32, 117, 110, 105, 99, 111, 100, 101, 45, 49, 45, 49, 45, 117, 116, 102, 45, 56]⟩ : ByteArray), (⟨#[115, 104, 105, 102, 116, 32, 105, 115, 111, 45, 50, 48, 50, 50]⟩ : ByteArray), (⟨#[116, 119, 105, 110, 32, 120, 45, 116, 119, 105, 110, 32, 109, 115, 95, 116, 119, 105, 110]⟩ : ByteArray), (⟨#[108, 97, 116, 105, 110, 32, 108, 97, 116, 105, 110, 49, 32, 97, 115, 99, 105, 105, 32, 117, 115, 45, 97, 115, 99, 105, 105, 32, 119, 105, 110, 100, 111, 119, 115, 45, 49, 50, 53, 50]⟩ : ByteArray), (⟨#[117, 116, 102, 45, 49, 54, 32, 117, 116, 102, 45, 49, 54, 108, 101]⟩ : ByteArray), (⟨#[117, 116, 102, 45, 49, 54, 98, 101]⟩ : ByteArray)].getD k ⟨#[]⟩
def words (k : Nat) : List ByteArray := [[(⟨#[117, 116, 102, 45, 56]⟩ : ByteArray), (⟨#[117, 116, 102, 56]⟩ : ByteArray), (⟨#[117, 110, 105, 99, 111, 100, 101, 45, 49, 45, 49, 45, 117, 116, 102, 45, 56]⟩ : ByteArray)], [(⟨#[115, 104, 105, 102, 116]⟩ : ByteArray), (⟨#[105, 115, 111, 45, 50, 48, 50, 50]⟩ : ByteArray)], [(⟨#[116, 119, 105, 110]⟩ : ByteArray), (⟨#[120, 45, 116, 119, 105, 110]⟩ : ByteArray), (⟨#[109, 115, 95, 116, 119, 105, 110]⟩ : ByteArray)], [(⟨#[108, 97, 116, 105, 110]⟩ : ByteArray), (⟨#[108, 97, 116, 105, 110, 49]⟩ : ByteArray), (⟨#[97, 115, 99, 105, 105]⟩ : ByteArray), (⟨#[117, 115, 45, 97, 115, 99, 105, 105]⟩ : ByteArray), (⟨#[119, 105, 110, 100, 111, 119, 115, 45, 49, 50, 53, 50]⟩ : ByteArray)], [(⟨#[117, 116, 102, 45, 49, 54]⟩ : ByteArray), (⟨#[117, 116, 102, 45, 49, 54, 108, 101]⟩ : ByteArray)], [(⟨#[117, 116, 102, 45, 49, 54, 98, 101]⟩ : ByteArray)]].getD k []
theorem split0 : Lib.splitB ⟨#[32]⟩ 0 (Lib.countB (grp 0) ⟨#[32]⟩) (grp 0) = words 0 := by kernel_rfl
theorem count0 : Lib.countB (grp 0) ⟨#[32]⟩ + 1 = (words 0).length := by kernel_rfl
theorem split1 : Lib.splitB ⟨#[32]⟩ 0 (Lib.countB (grp 1) ⟨#[32]⟩) (grp 1) = words 1 := by kernel_rfl
theorem count1 : Lib.countB (grp 1) ⟨#[32]⟩ + 1 = (words 1).length := by kernel_rfl
theorem split2 : Lib.splitB ⟨#[32]⟩ 0 (Lib.countB (grp 2) ⟨#[32]⟩) (grp 2) = words 2 := by kernel_rfl
theorem count2 : Lib.countB (grp 2) ⟨#[32]⟩ + 1 = (words 2).length := by kernel_rfl
theorem split3 : Lib.splitB ⟨#[32]⟩ 0 (Lib.countB (grp 3) ⟨#[32]⟩) (grp 3) = words 3 := by kernel_rfl
theorem count3 : Lib.countB (grp 3) ⟨#[32]⟩ + 1 = (words 3).length := by kernel_rfl
theorem split4 : Lib.splitB ⟨#[32]⟩ 0 (Lib.countB (grp 4) ⟨#[32]⟩) (grp 4) = words 4 := by kernel_rfl
theorem count4 : Lib.countB (grp 4) ⟨#[32]⟩ + 1 = (words 4).length := by kernel_rfl
theorem split5 : Lib.splitB ⟨#[32]⟩ 0 (Lib.countB (grp 5) ⟨#[32]⟩) (grp 5) = words 5 := by kernel_rfl
theorem count5 : Lib.countB (grp 5) ⟨#[32]⟩ + 1 = (words 5).length := by kernel_rfl

theorem split_at (k : Nat) (hk : k < 6) (m : Int) (w : World) (hm : w.cell? ⟨2, 0, none⟩ = some (.int .i64 m)) :
    Calls Tryd.prog 28 #[.string (grp k), .string ⟨#[32]⟩] w fun e w' =>
      e = .returned (.slice (some ⟨w.heap.size, 0, none⟩) (words k).length (words k).length) ∧ w' = w.alloc (.cells ((words k).map Value.string).toArray 9) := by
  have h := Any.strings_Split (P := Tryd.prog) (ρ := lays146_ren) { lays146 with } lays146.i9 (grp k) ⟨#[32]⟩ m w
  obtain rfl | rfl | rfl | rfl | rfl | rfl : k = 0 ∨ k = 1 ∨ k = 2 ∨ k = 3 ∨ k = 4 ∨ k = 5 := by omega
  · rw [split0, count0] at h; exact h (by decide) hm (by decide)
  · rw [split1, count1] at h; exact h (by decide) hm (by decide)
  · rw [split2, count2] at h; exact h (by decide) hm (by decide)
  · rw [split3, count3] at h; exact h (by decide) hm (by decide)
  · rw [split4, count4] at h; exact h (by decide) hm (by decide)
  · rw [split5, count5] at h; exact h (by decide) hm (by decide)

theorem hit (k : Nat) (hk : k < 6) (q : Nat) (hq : q < (words k).length) : labelOf (words k)[q].data.toList = (k : Int) + 1 := by
  have h : (List.range 6).all (fun k => (List.range (words k).length).all fun q => labelOf ((words k).getD q ⟨#[]⟩).data.toList == (k : Int) + 1) = true := by decide +kernel
  have h2 := List.all_eq_true.1 (List.all_eq_true.1 h k (by simpa using hk)) q (by simpa using hq)
  have e : (words k).getD q ⟨#[]⟩ = (words k)[q] := by rw [List.getD_eq_getElem?_getD, List.getElem?_eq_getElem hq]; rfl
  rw [e] at h2
  simpa using h2
theorem miss (t : List UInt8) (h : ∀ k, k < 6 → ∀ q (hq : q < (words k).length), (words k)[q].data.toList ≠ t) : labelOf t = 0 := by
  have m : ∀ k, k < 6 → ∀ q, q < (words k).length → (t == ((words k).getD q ⟨#[]⟩).data.toList) = false := fun k hk q hq => by
    have e : (words k).getD q ⟨#[]⟩ = (words k)[q] := by rw [List.getD_eq_getElem?_getD, List.getElem?_eq_getElem hq]; rfl
    rw [e]
    exact beq_eq_false_iff_ne.2 fun h' => h k hk q hq h'.symm
  have f0 : (t == [117, 116, 102, 45, 56]) = false := m 0 (by decide) 0 (by decide)
  have f1 : (t == [117, 116, 102, 56]) = false := m 0 (by decide) 1 (by decide)
  have f2 : (t == [117, 110, 105, 99, 111, 100, 101, 45, 49, 45, 49, 45, 117, 116, 102, 45, 56]) = false := m 0 (by decide) 2 (by decide)
  have f3 : (t == [115, 104, 105, 102, 116]) = false := m 1 (by decide) 0 (by decide)
  have f4 : (t == [105, 115, 111, 45, 50, 48, 50, 50]) = false := m 1 (by decide) 1 (by decide)
  have f5 : (t == [116, 119, 105, 110]) = false := m 2 (by decide) 0 (by decide)
  have f6 : (t == [120, 45, 116, 119, 105, 110]) = false := m 2 (by decide) 1 (by decide)
  have f7 : (t == [109, 115, 95, 116, 119, 105, 110]) = false := m 2 (by decide) 2 (by decide)
  have f8 : (t == [108, 97, 116, 105, 110]) = false := m 3 (by decide) 0 (by decide)
  have f9 : (t == [108, 97, 116, 105, 110, 49]) = false := m 3 (by decide) 1 (by decide)
  have f10 : (t == [97, 115, 99, 105, 105]) = false := m 3 (by decide) 2 (by decide)
  have f11 : (t == [117, 115, 45, 97, 115, 99, 105, 105]) = false := m 3 (by decide) 3 (by decide)
  have f12 : (t == [119, 105, 110, 100, 111, 119, 115, 45, 49, 50, 53, 50]) = false := m 3 (by decide) 4 (by decide)
  have f13 : (t == [117, 116, 102, 45, 49, 54]) = false := m 4 (by decide) 0 (by decide)
  have f14 : (t == [117, 116, 102, 45, 49, 54, 108, 101]) = false := m 4 (by decide) 1 (by decide)
  have f15 : (t == [117, 116, 102, 45, 49, 54, 98, 101]) = false := m 5 (by decide) 0 (by decide)
  unfold labelOf; simp only [f0, f1, f2, f3, f4, f5, f6, f7, f8, f9, f10, f11, f12, f13, f14, f15, Bool.false_eq_true, if_false]

theorem words_le (k : Nat) : (words k).length ≤ 5 := by
  rcases Nat.lt_or_ge k 6 with h | h
  · have hh : (List.range 6).all (fun k => decide ((words k).length ≤ 5)) = true := by decide +kernel
    have := List.all_eq_true.1 hh k (by simpa using h)
    simpa using this
  · have : words k = [] := by
      unfold words
      rw [List.getD_eq_getElem?_getD, List.getElem?_eq_none (by simpa using h)]; rfl
    rw [this]; decide
/-- Before the reference's row k: the rows lie in block B, and no label of an earlier row is t. -/
structure FInv (t : List UInt8) (k B : Nat) (w wr : World) : Prop where
  cell : ∀ j, j < 6 → wr.cell? ⟨B, j, none⟩ = some (.string (grp j))
  miss : ∀ j, j < k → ∀ q (hq : q < (words j).length), (words j)[q].data.toList ≠ t
  below : Below B w wr
  size : B < wr.heap.size
/-- Before label q of row k, whose labels lie in block B. -/
structure GInv (t : List UInt8) (k q B : Nat) (w wr : World) : Prop where
  cell : ∀ j (hj : j < (words k).length), wr.cell? ⟨B, j, none⟩ = some (.string (words k)[j])
  miss : ∀ j (hj : j < (words k).length), j < q → (words k)[j].data.toList ≠ t
  below : Below B w wr
  size : B < wr.heap.size
theorem GInv.start (t : List UInt8) (k : Nat) (w : World) : GInv t k 0 w.heap.size w (w.alloc (.cells ((words k).map Value.string).toArray 9)) :=
  ⟨fun j hj => by rw [World.cell?_alloc_at _ _ _ _ rfl]; simp [hj], fun _ _ h => absurd h (by omega), (Below.refl _ _).alloc (Nat.le_refl _) _, by simp⟩
theorem GInv.next {t : List UInt8} {k q B : Nat} {w wr w2 : World} (h : GInv t k q B w wr) (hq : q < (words k).length) (hx : (words k)[q].data.toList ≠ t) (hb : Below wr.heap.size wr w2) : GInv t k (q + 1) B w w2 :=
  ⟨fun j hj => by rw [hb.cell h.size]; exact h.cell j hj,
   fun j hj hjq => by
    by_cases e : j = q
    · subst e; exact hx
    · exact h.miss j hj (by omega),
   h.below.trans (hb.mono (Nat.le_of_lt h.size)), Nat.lt_of_lt_of_le h.size hb.size⟩
theorem FInv.next {t : List UInt8} {k B : Nat} {w wr w2 : World} (h : FInv t k B w wr) (g : GInv t k (words k).length wr.heap.size wr w2) : FInv t (k + 1) B w w2 :=
  ⟨fun j hj => by rw [g.below.cell h.size]; exact h.cell j hj,
   fun j hjk q hq => by
    by_cases e : j = k
    · subst e; exact g.miss q hq hq
    · exact h.miss j (by omega) q hq,
   h.below.trans (g.below.mono (Nat.le_of_lt h.size)), Nat.lt_of_lt_of_le h.size g.below.size⟩

set_option maxRecDepth 100000 in
set_option maxHeartbeats 2000000 in
theorem findRef_any (s : ByteArray) (w : World) (m : Int) (hs : s.size ≤ 140737488355328) (hm : w.cell? ⟨2, 0, none⟩ = some (.int .i64 m)) :
    Calls Tryd.prog 11 #[.string s] w fun e w' => e = .returned (.int .i64 (findL s.data.toList)) ∧ Below w.heap.size w w' := by
  by_cases hlen : 40 < s.size
  · have hf : findL s.data.toList = 0 := by unfold findL; rw [if_pos (by simpa using hlen)]
    rw [hf]
    have hd : decide ((40 : Int) < (s.size : Int)) = true := by simp; omega
    go_enter Tryd.func11, Tryd.ntmps11
    go_wp2_with fail
    go_ret
    exact ⟨rfl, Below.refl _ _⟩
  · have hf : findL s.data.toList = labelOf (trimL s.data.toList) := by unfold findL; rw [if_neg (by simpa using hlen)]
    rw [hf]
    have HT := hid (fun w1 => trimmed_any s w1 (by omega))
    clear hf
    generalize trimL s.data.toList = t at HT ⊢
    have h2 : 2 < w.heap.size := by
      rcases Nat.lt_or_ge 2 w.heap.size with h | h
      · exact h
      · simp [World.cell?, Array.getElem?_eq_none h] at hm
    have hd : decide ((40 : Int) < (s.size : Int)) = false := by simp; omega
    have HM := hid hm
    clear hm
    go_enter Tryd.func11, Tryd.ntmps11
    go_wp2_with fail
    go_loopw [12] (fun i wr => ∃ k : Nat, k ≤ 6 ∧ i = .int .i64 k ∧ FInv t k w.heap.size w wr) (fun i _ => 6 - (intOf i).toNat)
    case atStart =>
      refine ⟨0, Nat.zero_le _, rfl, ⟨fun j hj => ?_, fun j hj => absurd hj (by omega), (Below.refl _ _).alloc (Nat.le_refl _) _, by simp⟩⟩
      obtain rfl | rfl | rfl | rfl | rfl | rfl : j = 0 ∨ j = 1 ∨ j = 2 ∨ j = 3 ∨ j = 4 ∨ j = 5 := by omega
      all_goals (rw [World.cell?_alloc_at _ _ _ _ rfl]; rfl)
    case round =>
      obtain ⟨k, hk, rfl, hinv⟩ := hrel
      by_cases hlt : k < 6
      · have hc := hinv.cell k hlt
        have HS := hid (split_at k hlt m wr (by rw [hinv.below.cell (p := ⟨2, 0, none⟩) h2]; exact HM.out))
        go_wp2_with fail
        refine HS.out.mono ?_
        rintro e _ ⟨rfl, rfl⟩
        clear hc HS
        go_wp2_with fail
        have hg := GInv.start t k wr
        go_loopw [20] (fun j w2 => ∃ q : Nat, q ≤ (words k).length ∧ j = .int .i64 q ∧ GInv t k q wr.heap.size wr w2) (fun j _ => (words k).length - (intOf j).toNat)
        case atStart => exact ⟨0, Nat.zero_le _, rfl, hg⟩
        case round =>
          clear hg
          obtain ⟨q, hq, rfl, hg⟩ := hrel
          have hw5 := words_le k
          by_cases hql : q < (words k).length
          · have hc := hg.cell q hql
            have HH := hid (hit k hlt q hql)
            have HN := hid (fun h w2 hb => hg.next (w2 := w2) hql h hb)
            obtain ⟨x, hx⟩ : ∃ x, x = (words k)[q] := ⟨_, rfl⟩
            rw [← hx] at hc HH HN
            clear hx
            cases heq : (x.toList == t) with
            | true =>
              have HL : Hid (labelOf t = (k : Int) + 1) := by
                have e : x.toList = t := by simpa using heq
                show _ = _
                rw [← e, Lib.toList_data, HH.out]
              go_wp2_with fail
              refine (HT.out _).mono ?_
              rintro e w3 ⟨rfl, hb3⟩
              go_wp2_with fail
              go_ret
              refine ⟨by rw [HL.out]; rfl, ?_⟩
              exact hinv.below.trans ((hg.below.mono (Nat.le_of_lt hinv.size)).trans (hb3.mono (Nat.le_trans (Nat.le_of_lt hinv.size) hg.below.size)))
            | false =>
              have HX : Hid (x.data.toList ≠ t) := by
                rw [Lib.toList_data] at heq
                exact beq_eq_false_iff_ne.1 heq
              go_wp2_with fail
              refine (HT.out _).mono ?_
              rintro e w3 ⟨rfl, hb3⟩
              have HG := hid (HN.out HX.out w3 hb3)
              clear HN
              go_wp2_with fail
              go_roundw
              case rel => exact ⟨q + 1, by omega, by go_num, HG.out⟩
              case measure => simp [intOf]; omega
          · have hqe : q = (words k).length := by omega
            subst hqe
            have HF := hid (hinv.next hg)
            go_wp2_with fail
            go_roundw
            case rel => exact ⟨k + 1, by omega, by go_num, HF.out⟩
            case measure => simp [intOf]; omega
      · have hk' : k = 6 := by omega
        subst hk'
        have E0 := hid (miss t hinv.miss)
        go_wp2_with fail
        go_ret
        refine ⟨?_, hinv.below⟩
        rw [E0.out]; rfl
end Go.Proofs.YtbnjhcdgiieghaaDoor
