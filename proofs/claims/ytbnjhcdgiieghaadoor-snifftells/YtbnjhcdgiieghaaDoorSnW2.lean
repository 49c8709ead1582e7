/- The walks over package sniff: the value of a label. -/
import Derived.Test.YtbnjhcdgiieghaaDoorSnW
namespace Go.Proofs.YtbnjhcdgiieghaaDoor
open Go.RowKit

/-- A string that stands for a set of bytes. -/
def SetC (set : ByteArray) (p : UInt8 → Bool) : Prop := ∀ (b : UInt8) (w : World), ∃ k : Int, Calls Tryd.prog 31 #[.string set, .int .u8 (b.toNat : Int)] w (fun e w' => e = .returned (.int .i64 k) ∧ w' = w) ∧ (p b = true → 0 ≤ k) ∧ (p b = false → k < 0)
theorem setC_of (set : ByteArray) (p : UInt8 → Bool) (h : ∀ b, (p b = true → 0 ≤ Lib.indexByte set.data.toList b) ∧ (p b = false → Lib.indexByte set.data.toList b < 0)) : SetC set p := fun b w =>
  ⟨_, (indexByte_c set (b.toNat : Int) w).mono fun e w' ⟨h1, h2⟩ => by
    rw [show ((b.toNat : Int)).toNat.toUInt8 = b by simp] at h1
    exact ⟨h1, h2⟩, (h b).1, (h b).2⟩
theorem set34_fin : ∀ n : Fin 256, ((UInt8.ofFin n == 34) = true → 0 ≤ Lib.indexByte [34] (UInt8.ofFin n)) ∧ ((UInt8.ofFin n == 34) = false → Lib.indexByte [34] (UInt8.ofFin n) < 0) := by decide +kernel
theorem set39_fin : ∀ n : Fin 256, ((UInt8.ofFin n == 39) = true → 0 ≤ Lib.indexByte [39] (UInt8.ofFin n)) ∧ ((UInt8.ofFin n == 39) = false → Lib.indexByte [39] (UInt8.ofFin n) < 0) := by decide +kernel
theorem setQ_fin : ∀ n : Fin 256, ((UInt8.ofFin n == 34 || UInt8.ofFin n == 39) = true → 0 ≤ Lib.indexByte [34, 39] (UInt8.ofFin n)) ∧ ((UInt8.ofFin n == 34 || UInt8.ofFin n == 39) = false → Lib.indexByte [34, 39] (UInt8.ofFin n) < 0) := by decide +kernel
theorem setE_fin : ∀ n : Fin 256, (isEndB (UInt8.ofFin n) = true → 0 ≤ Lib.indexByte [32, 9, 10, 13, 59, 62, 34, 39] (UInt8.ofFin n)) ∧ (isEndB (UInt8.ofFin n) = false → Lib.indexByte [32, 9, 10, 13, 59, 62, 34, 39] (UInt8.ofFin n) < 0) := by decide +kernel
theorem setE2_fin : ∀ n : Fin 256, (isEndB (UInt8.ofFin n) = true → 0 ≤ Lib.indexByte [32, 9, 10, 13, 59, 34, 39, 62] (UInt8.ofFin n)) ∧ (isEndB (UInt8.ofFin n) = false → Lib.indexByte [32, 9, 10, 13, 59, 34, 39, 62] (UInt8.ofFin n) < 0) := by decide +kernel
theorem set34 (set : ByteArray) (h : set.data.toList = [34]) : SetC set (· == 34) := setC_of _ _ fun b => by rw [h]; exact set34_fin b.toFin
theorem set39 (set : ByteArray) (h : set.data.toList = [39]) : SetC set (· == 39) := setC_of _ _ fun b => by rw [h]; exact set39_fin b.toFin
theorem setQ : SetC ⟨#[34, 39]⟩ (fun b => b == 34 || b == 39) := setC_of _ _ fun b => setQ_fin b.toFin
theorem setE : SetC ⟨#[32, 9, 10, 13, 59, 62, 34, 39]⟩ isEndB := setC_of _ _ fun b => setE_fin b.toFin
theorem setE2 : SetC ⟨#[32, 9, 10, 13, 59, 34, 39, 62]⟩ isEndB := setC_of _ _ fun b => setE2_fin b.toFin

theorem drop_at (s : ByteArray) (k : Nat) (h : k < s.size) : s.data.toList.drop k = s[k] :: s.data.toList.drop (k + 1) := by
  have h2 : k < s.data.toList.length := by rw [size_data]; exact h
  exact List.drop_eq_getElem_cons h2

theorem ba_ext {a b : ByteArray} (h : a.data.toList = b.data.toList) : a = b := by
  cases a; cases b; exact congrArg ByteArray.mk (Array.toList_inj.1 h)
set_option maxRecDepth 100000 in
set_option maxHeartbeats 1000000 in
theorem upTo_any (s set : ByteArray) (p : UInt8 → Bool) (w : World) (hs : s.size ≤ 1125899906842624) (hp : SetC set p) : Calls Tryd.prog 53 #[.string s, .string set] w fun e w' => e = .returned (.tuple #[.string ⟨(s.data.toList.take (upTo p s.data.toList)).toArray⟩, .bool (decide (upTo p s.data.toList < s.data.toList.length))]) ∧ w' = w := by
  have HP := hid hp
  clear hp
  go_enter Tryd.func53, Tryd.ntmps53
  go_wp2_with fail
  go_loopw [9] (fun i wr => ∃ k : Nat, k ≤ s.size ∧ i = .int .i64 k ∧ upTo p (s.data.toList.drop k) + k = upTo p s.data.toList ∧ wr = w) (fun i _ => s.size - (intOf i).toNat)
  case atStart => exact ⟨0, by omega, rfl, rfl, rfl⟩
  case round =>
    obtain ⟨k, hks, rfl, he, rfl⟩ := hrel
    have HE := hid he
    clear he
    have HZ := hid (size_data s)
    by_cases hk : k < s.size
    · rw [drop_at s k hk] at HE
      by_cases hq : p s[k] = true
      · have HN : Hid (upTo p s.data.toList = k) := by
          show _ = _
          have := HE.out; simp only [upTo, hq, if_true] at this; omega
        obtain ⟨x, hc, hx, _⟩ := HP.out s[k] wr
        replace hx := hx hq
        have HC := hid hc
        clear hc hq
        go_wp2_with fail
        refine HC.out.mono ?_
        rintro e _ ⟨rfl, rfl⟩
        go_wp2_with fail
        go_ret2
        have hv : s.extract 0 k = ⟨(s.data.toList.take (upTo p s.data.toList)).toArray⟩ := ba_ext (by rw [HN.out, Lib.extract_data]; simp)
        have hd : decide (upTo p s.data.toList < s.data.toList.length) = true := decide_eq_true (by rw [HN.out, HZ.out]; exact hk)
        exact ⟨by rw [← hv, hd]; rfl, rfl⟩
      · have hq2 : p s[k] = false := by simpa using hq
        have HN : Hid (upTo p (s.data.toList.drop (k + 1)) + (k + 1) = upTo p s.data.toList) := by
          show _ = _
          have := HE.out; simp only [upTo, hq2, if_neg Bool.false_ne_true] at this; omega
        obtain ⟨x, hc, _, hx⟩ := HP.out s[k] wr
        replace hx := hx hq2
        have HC := hid hc
        clear hc hq hq2
        go_wp2_with fail
        refine HC.out.mono ?_
        rintro e _ ⟨rfl, rfl⟩
        go_wp2_with fail
        go_roundw
        case rel => exact ⟨k + 1, by omega, by go_num, HN.out, trivial⟩
        case measure => simp [intOf]; omega
    · have hk2 : k = s.size := by omega
      have HN : Hid (upTo p s.data.toList = s.size) := by
        show _ = _
        have := HE.out
        rw [List.drop_eq_nil_of_le (by rw [HZ.out]; omega)] at this
        simp only [upTo] at this; omega
      subst hk2
      go_wp2_with fail
      go_ret2
      have hv : s = ⟨(s.data.toList.take (upTo p s.data.toList)).toArray⟩ := ba_ext (by rw [HN.out, List.take_of_length_le (by rw [HZ.out]; exact Nat.le_refl _)])
      have hd : decide (upTo p s.data.toList < s.data.toList.length) = false := decide_eq_false (by rw [HN.out, HZ.out]; omega)
      exact ⟨by rw [← hv, hd]; rfl, rfl⟩

theorem valP_34 (v : List UInt8) : valP (34 :: v) = (· == 34) := rfl
theorem valP_39 (v : List UInt8) : valP (39 :: v) = (· == 39) := rfl
theorem val_plain (v : List UInt8) (b : UInt8) (h1 : b ≠ 34) (h2 : b ≠ 39) : valP (b :: v) = isEndB ∧ valR (b :: v) = b :: v := by
  constructor
  · unfold valP
    split
    · rename_i h3; exact absurd (List.cons.inj h3).1 h1
    · rename_i h3; exact absurd (List.cons.inj h3).1 h2
    · rfl
  · unfold valR
    split
    · rename_i h3; exact absurd (List.cons.inj h3).1 h1
    · rename_i h3; exact absurd (List.cons.inj h3).1 h2
    · rfl
theorem one_at (s : ByteArray) (h : 0 < s.size) : (s.extract 0 1).data.toList = [s[0]] := by
  rw [Lib.extract_data, cons_data s h]; rfl
theorem rest_at (s : ByteArray) (h : 0 < s.size) : s.data.toList = s[0] :: (s.extract 1 s.size).data.toList := by
  rw [Lib.extract_data, List.take_of_length_le (by simp)]
  exact cons_data s h

/-- What valueAt answers. -/
def ValC (l : List UInt8) (w : World) (e : Ending) (w' : World) : Prop := ∃ v : ByteArray, e = .returned (.tuple #[.string v, .bool (valE l)]) ∧ v.data.toList = valV l ∧ Below w.heap.size w w'
set_option maxRecDepth 100000 in
set_option maxHeartbeats 1000000 in
theorem valueAt_plain (s : ByteArray) (w : World) (hs : s.size ≤ 1125899906842624) (hp : valP s.data.toList = isEndB) (hr : valR s.data.toList = s.data.toList) (hq : s.toList.isEmpty = true ∨ ∃ h : 0 < s.size, s[0] ≠ 34 ∧ s[0] ≠ 39) : Calls Tryd.prog 42 #[.string s] w (ValC s.data.toList w) := by
  have HU : Hid (∀ w1, Calls Tryd.prog 53 #[.string s, .string ⟨#[32, 9, 10, 13, 59, 62, 34, 39]⟩] w1 (ValC s.data.toList w1)) := fun w1 => (upTo_any s _ isEndB w1 hs setE).mono fun e w' ⟨h1, h2⟩ => ⟨⟨(s.data.toList.take (upTo isEndB s.data.toList)).toArray⟩, by rw [h1, valE, hp, hr], by rw [valV, hp, hr], h2 ▸ Below.refl _ _⟩
  clear hp hr
  rcases hq with hq | ⟨h0, h1, h2⟩
  · go_enter Tryd.func42, Tryd.ntmps42
    go_wp2_with fail
    refine (HU.out _).mono ?_
    rintro e w1 ⟨v, rfl, hv, hb⟩
    go_wp2_with fail
    go_ret2
    exact ⟨v, rfl, hv, hb⟩
  · have hne := nonempty_of s h0
    obtain ⟨x, hc, _, hx⟩ := setQ s[0] w
    replace hx := hx (by simp [h1, h2])
    have HC := hid hc
    clear hc h1 h2
    go_enter Tryd.func42, Tryd.ntmps42
    go_wp2_with fail
    refine HC.out.mono ?_
    rintro e _ ⟨rfl, rfl⟩
    go_wp2_with fail
    refine (HU.out _).mono ?_
    rintro e w1 ⟨v, rfl, hv, hb⟩
    go_wp2_with fail
    go_ret2
    exact ⟨v, rfl, hv, hb⟩
set_option maxRecDepth 100000 in
set_option maxHeartbeats 1000000 in
theorem valueAt_quote (s : ByteArray) (w : World) (hs : s.size ≤ 1125899906842624) (h0 : 0 < s.size) (hq : s[0] = 34 ∨ s[0] = 39) : Calls Tryd.prog 42 #[.string s] w (ValC s.data.toList w) := by
  have HU : Hid (∀ w1, Calls Tryd.prog 53 #[.string (s.extract 1 s.size), .string (s.extract 0 1)] w1 fun e w' => e = .returned (.tuple #[.string ⟨(valV s.data.toList).toArray⟩, .bool (valE s.data.toList)]) ∧ w' = w1) := fun w1 => by
    have hz : (s.extract 1 s.size).size ≤ 1125899906842624 := by simp; omega
    have hr := rest_at s h0
    have ho := one_at s h0
    rcases hq with hq | hq
    · rw [hq] at hr ho
      rw [hr]
      exact upTo_any _ _ (· == 34) w1 hz (set34 _ ho)
    · rw [hq] at hr ho
      rw [hr]
      exact upTo_any _ _ (· == 39) w1 hz (set39 _ ho)
  have hne := nonempty_of s h0
  obtain ⟨x, hc, hx, _⟩ := setQ s[0] w
  replace hx := hx (by rcases hq with h | h <;> rw [h] <;> rfl)
  have HC := hid hc
  clear hc hq
  have b1 : (1 : Int) ≤ (s.size : Int) := by omega
  go_enter Tryd.func42, Tryd.ntmps42
  go_wp2_with fail
  refine HC.out.mono ?_
  rintro e _ ⟨rfl, rfl⟩
  go_wp2_with fail
  go_quiet ((first | (go_at_call 53; exact Calls.quiet_of_same (HU.out _))))
  go_wp2_with fail
  go_ret2
  exact ⟨_, rfl, rfl, drewN_below (Below.refl _ _) _⟩
theorem valueAt_any (s : ByteArray) (w : World) (hs : s.size ≤ 1125899906842624) : Calls Tryd.prog 42 #[.string s] w (ValC s.data.toList w) := by
  by_cases h0 : 0 < s.size
  · by_cases h1 : s[0] = 34
    · exact valueAt_quote s w hs h0 (.inl h1)
    by_cases h2 : s[0] = 39
    · exact valueAt_quote s w hs h0 (.inr h2)
    have h3 := val_plain (s.extract 1 s.size).data.toList s[0] h1 h2
    rw [← rest_at s h0] at h3
    exact valueAt_plain s w hs h3.1 h3.2 (.inr ⟨h0, h1, h2⟩)
  · have e : s.data.toList = [] := List.length_eq_zero_iff.1 (by rw [size_data]; omega)
    exact valueAt_plain s w hs (by rw [e]; rfl) (by rw [e]; rfl) (.inl (empty_of s h0))
set_option maxHeartbeats 400000 in
theorem readable_any (e : Int) (w : World) (h : 0 ≤ e ∧ e ≤ 6) : Calls Tryd.prog 43 #[.int .i64 e] w fun x w' => x = .returned (.int .i64 (asUtf e)) ∧ w = w' := by
  by_cases h5 : 5 ≤ e
  · have hu : asUtf e = 1 := if_pos h5
    rw [hu]
    obtain h | h : e = 5 ∨ e = 6 := by omega
    all_goals
      subst h
      go_enter Tryd.func43, Tryd.ntmps43
      go_wp2
      go_ret
      exact ⟨rfl, rfl⟩
  · have hu : asUtf e = e := if_neg h5
    rw [hu]
    have e1 : (e == 5) = false := beq_false_of_ne (by omega)
    have e2 : (e == 6) = false := beq_false_of_ne (by omega)
    clear hu
    go_enter Tryd.func43, Tryd.ntmps43
    go_wp2
    go_ret
    exact ⟨rfl, rfl⟩
end Go.Proofs.YtbnjhcdgiieghaaDoor
