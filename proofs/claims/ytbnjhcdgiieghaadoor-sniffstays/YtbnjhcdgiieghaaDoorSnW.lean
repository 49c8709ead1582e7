/- The walks over package sniff: the search for a label. -/
import Derived.Test.YtbnjhcdgiieghaaDoorShelfC
import Derived.Test.YtbnjhcdgiieghaaDoorSnM2
import Derived.Test.YtbnjhcdgiieghaaDoorLTrimmedM
import Derived.Deep.QuietTactic
import Derived.BigQuiet
namespace Go.Proofs.YtbnjhcdgiieghaaDoor
open Go.RowKit

theorem drewN_below {B : Nat} {a w : World} (h : Below B a w) (n : Nat) : Below B a (w.drewN n) := ⟨h.os, h.tape, h.output, h.size, h.block⟩

set_option maxHeartbeats 400000 in
theorem slower_any (b : UInt8) (w : World) : Calls Tryd.prog 52 #[.int .u8 (b.toNat : Int)] w fun e w' => e = .returned (.int .u8 ((lowB b).toNat : Int)) ∧ w = w' := by
  have hlt := b.toNat_lt
  by_cases h : 65 ≤ b.toNat ∧ b.toNat ≤ 90
  · have HB := hid (lowB_yes b h)
    obtain ⟨h1, h2⟩ := h
    go_enter Tryd.func52, Tryd.ntmps52
    go_wp2
    go_ret
    exact ⟨congrArg (fun x => Ending.returned (.int .u8 x)) (by rw [HB.out]; simp [go_sem]; omega), rfl⟩
  · have HB := hid (lowB_no b h)
    have HN := hid h
    clear h
    go_enter Tryd.func52, Tryd.ntmps52
    go_wp2
    all_goals go_ret
    all_goals first
      | (exfalso; have := HN.out; omega)
      | exact ⟨by rw [HB.out]; rfl, rfl⟩

def kwA : ByteArray := ⟨#[99, 104, 97, 114, 115, 101, 116, 61]⟩
theorem kw_at (k : Nat) (h : k < 8) : kwL[k]? = some (kwA[k]'h) := by
  match k, h with
  | 0, _ => rfl
  | 1, _ => rfl
  | 2, _ => rfl
  | 3, _ => rfl
  | 4, _ => rfl
  | 5, _ => rfl
  | 6, _ => rfl
  | 7, _ => rfl

theorem key_ends (s : ByteArray) (k : Nat) (hz : k = s.size) (hk : k < 8) (he : (s.data.toList.map lowB).take k = kwL.take k) : keyC s.data.toList = true ∧ keyF s.data.toList = false := by
  have hl := size_data s
  rw [List.take_of_length_le (by simp; omega)] at he
  constructor
  · unfold keyC
    rw [decide_eq_true (by omega), he]
    exact List.isPrefixOf_iff_prefix.2 (List.take_prefix _ _)
  · cases h : keyF s.data.toList with
    | false => rfl
    | true => have := keyF_len _ h; omega
theorem low_at (s : ByteArray) (k : Nat) (h : k < s.size) : (s.data.toList.map lowB)[k]? = some (lowB s[k]) := by
  have h2 : k < s.data.toList.length := by rw [size_data]; exact h
  rw [List.getElem?_map, List.getElem?_eq_getElem h2]; rfl
theorem key_next (s : ByteArray) (k : Nat) (hk : k < 8) (h : k < s.size) (he : (s.data.toList.map lowB).take k = kwL.take k) (hq : lowB s[k] = kwA[k]'hk) : (s.data.toList.map lowB).take (k + 1) = kwL.take (k + 1) := by
  rw [List.take_add_one, List.take_add_one, he, low_at s k h, kw_at k hk, hq]
theorem key_other (s : ByteArray) (k : Nat) (hk : k < 8) (h : k < s.size) (hq : ¬ lowB s[k] = kwA[k]'hk) : keyC s.data.toList = false ∧ keyF s.data.toList = false := by
  have hl := low_at s k h
  have hw := kw_at k hk
  constructor
  · unfold keyC
    cases hp : (s.data.toList.map lowB).isPrefixOf kwL with
    | false => simp
    | true =>
      obtain ⟨t, ht⟩ := List.isPrefixOf_iff_prefix.1 hp
      rw [← ht, List.getElem?_append_left (by simp; omega), hl] at hw
      exact absurd (Option.some.inj hw) hq
  · cases hp : keyF s.data.toList with
    | false => rfl
    | true =>
      have e := eq_of_beq hp
      rw [← e, List.getElem?_take_of_lt hk, hl] at hw
      exact absurd (Option.some.inj hw) hq
set_option maxRecDepth 100000 in
set_option maxHeartbeats 1000000 in
theorem keyAt_any (s : ByteArray) (w : World) (hs : s.size ≤ 1125899906842624) : Calls Tryd.prog 41 #[.string s] w fun e w' => e = .returned (.tuple #[.bool (keyF s.data.toList), .bool (keyC s.data.toList)]) ∧ Below w.heap.size w w' := by
  have HL : Hid (∀ (b : UInt8) w1, Calls Tryd.prog 52 #[.int .u8 (b.toNat : Int)] w1 fun e w' => e = .returned (.int .u8 ((lowB b).toNat : Int)) ∧ w' = w1) := fun b w1 => (slower_any b w1).mono fun e w' ⟨a, b⟩ => ⟨a, b.symm⟩
  go_enter Tryd.func41, Tryd.ntmps41
  go_wp2_with fail
  go_loopw [5] (fun i wr => ∃ k : Nat, k ≤ 8 ∧ k ≤ s.size ∧ i = .int .i64 k ∧ (s.data.toList.map lowB).take k = kwL.take k ∧ Below w.heap.size w wr) (fun i _ => 8 - (intOf i).toNat)
  case atStart => exact ⟨0, by omega, by omega, rfl, rfl, Below.refl _ _⟩
  case round =>
    obtain ⟨k, hk8, hks, rfl, he, hb⟩ := hrel
    have HE := hid he
    clear he
    by_cases h8 : k = 8
    · subst h8
      have HF : Hid (keyF s.data.toList = true) := beq_iff_eq.2 HE.out
      have HC : Hid (keyC s.data.toList = false) := by
        show _ = _
        have := keyF_len _ HF.out
        unfold keyC
        rw [decide_eq_false (by omega)]; rfl
      go_wp2_with fail
      go_ret2
      exact ⟨by rw [HF.out, HC.out]; rfl, hb⟩
    · have hk : k < 8 := by omega
      by_cases hz : k = s.size
      · have HC : Hid (keyC s.data.toList = true ∧ keyF s.data.toList = false) := key_ends s k hz hk HE.out
        subst hz
        go_wp2_with fail
        go_ret2
        exact ⟨by rw [HC.out.1, HC.out.2]; rfl, hb⟩
      · have hks2 : k < s.size := by omega
        have HS := hid (HL.out s[k])
        have b0 : (0 : Int) ≤ (k : Int) := by omega
        have b1 : (k : Int) < (s.size : Int) := by omega
        have b2 : (k : Int) < 8 := by omega
        by_cases hq : lowB s[k] = kwA[k]'hk
        · have HN := hid (key_next s k hk hks2 HE.out hq)
          have hx : (((lowB s[k]).toNat : Int) != (((⟨#[99, 104, 97, 114, 115, 101, 116, 61]⟩ : ByteArray)[k]'hk).toNat : Int)) = false := by rw [hq]; exact bne_self_eq_false _
          clear hq
          go_wp2_with fail
          go_quiet ((first | (go_at_call 52; exact Calls.quiet_of_same (HS.out _))))
          go_wp2_with fail
          go_roundw
          case rel => exact ⟨k + 1, by omega, by omega, by go_num, HN.out, drewN_below hb _⟩
          case measure => simp [intOf]; omega
        · have HN : Hid (keyC s.data.toList = false ∧ keyF s.data.toList = false) := key_other s k hk hks2 hq
          have hx : (((lowB s[k]).toNat : Int) != (((⟨#[99, 104, 97, 114, 115, 101, 116, 61]⟩ : ByteArray)[k]'hk).toNat : Int)) = true := bne_iff_ne.2 fun h => hq (UInt8.toNat_inj.1 (Int.ofNat.inj h))
          clear hq
          go_wp2_with fail
          go_quiet ((first | (go_at_call 52; exact Calls.quiet_of_same (HS.out _))))
          go_wp2_with fail
          go_ret2
          exact ⟨by rw [HN.out.1, HN.out.2]; rfl, drewN_below hb _⟩

end Go.Proofs.YtbnjhcdgiieghaaDoor
