/- What the laws call besides: decodes, in, pick, same. -/
import Derived.Test.YtloaemijhggheaaWhole
import Derived.Test.YtloaemijhggheaaIn
import Derived.Test.YtloaemijhggheaaWGood2
import Derived.Deep.QuietTactic
import Derived.BigQuiet
namespace Go.Proofs.Ytloaemijhggheaa
open Go.RowKit
attribute [local go_sem ↓] run_eqS run_neS
attribute [local go_sem] byte_at0 byte_at20 byte_at21 w64 S.v and63 and31 and15 and7 kw kw256

theorem dec0 : mU.dec mU.init [97, 195, 169, 128] = [97, 233, -1] := by decide +kernel
set_option maxRecDepth 100000 in
set_option maxHeartbeats 400000 in
theorem decodes_keep (w : World) : Calls Try.prog 23 #[] w fun e w' => e = .returned (.bool true) ∧ Below w.heap.size w w' := by
  have H := fun w1 => whole_any conU fullU.goods ⟨#[97, 195, 169, 128]⟩ (by decide) w1
  change ∀ w1, Calls Try.prog 14 #[.int .i64 1, .string ⟨#[97, 195, 169, 128]⟩] w1 (POE w1 (mU.dec mU.init [97, 195, 169, 128]) 0) at H
  rw [dec0] at H
  replace H := hid H
  go_enter Try.func23, Try.ntmps23
  go_wp2_with fail
  refine (H.out _).mono ?_
  rintro e w1 ⟨v, rfl, ho, hb⟩
  obtain ⟨g, cap, rfl, _, hc⟩ := ho.rows (by decide)
  have c1 := hc 1 (by decide)
  have c2 := hc 2 (by decide)
  simp at c1 c2
  clear hc ho
  go_wp2_with fail
  go_ret
  exact ⟨rfl, hb⟩
set_option maxRecDepth 100000 in
set_option maxHeartbeats 400000 in
theorem decodes_law (w : World) : Calls Try.prog 17 #[] w fun e w' => e = .returned (.bool true) ∧ Below w.heap.size w w' := by
  have H := fun w1 => whole_any conU fullU.goods ⟨#[97, 195, 169, 128]⟩ (by decide) w1
  change ∀ w1, Calls Try.prog 14 #[.int .i64 1, .string ⟨#[97, 195, 169, 128]⟩] w1 (POE w1 (mU.dec mU.init [97, 195, 169, 128]) 0) at H
  rw [dec0] at H
  replace H := hid H
  go_enter Try.func17, Try.ntmps17
  go_wp2_with fail
  refine (H.out _).mono ?_
  rintro e w1 ⟨v, rfl, ho, hb⟩
  obtain ⟨g, cap, rfl, _, hc⟩ := ho.rows (by decide)
  have c1 := hc 1 (by decide)
  have c2 := hc 2 (by decide)
  simp at c1 c2
  clear hc ho
  go_wp2_with fail
  go_ret
  exact ⟨rfl, hb⟩
/-- Two lists alike. -/
theorem same_nil (A B : Option Addr) (c d : Nat) (w : World) : Calls Try.prog 25 #[.slice A 0 c, .slice B 0 d] w fun e w' => e = .returned (.bool true) ∧ Below w.heap.size w w' := by
  go_enter Try.func25, Try.ntmps25
  go_wp2_with fail
  go_loop [13] (fun i => i = .int .i64 0) (fun _ => 0)
  case atStart => rfl
  case round =>
    subst hrel
    go_wp2_with fail
    go_ret
    exact ⟨rfl, Below.refl _ _⟩
set_option maxRecDepth 100000 in
set_option maxHeartbeats 400000 in
theorem same_row (l : List Int) (g1 c1 g2 c2 : Nat) (w : World) (hl : l.length ≤ 100000) (h1 : ∀ j (hj : j < l.length), w.cell? ⟨g1, j, none⟩ = some (.int .i64 l[j])) (h2 : ∀ j (hj : j < l.length), w.cell? ⟨g2, j, none⟩ = some (.int .i64 l[j])) :
    Calls Try.prog 25 #[.slice (some ⟨g1, 0, none⟩) l.length c1, .slice (some ⟨g2, 0, none⟩) l.length c2] w fun e w' => e = .returned (.bool true) ∧ Below w.heap.size w w' := by
  replace h1 := hid h1
  replace h2 := hid h2
  go_enter Try.func25, Try.ntmps25
  go_wp2_with fail
  go_loopw [13] (fun i wr => ∃ k n : Nat, k ≤ l.length ∧ i = .int .i64 k ∧ wr = w.drewN n) (fun i _ => l.length - (intOf i).toNat)
  case atStart => exact ⟨0, 0, Nat.zero_le _, rfl, rfl⟩
  case round =>
    obtain ⟨k, n, hk, rfl, rfl⟩ := hrel
    by_cases hlt : k < l.length
    · have e1 := h1.out k hlt
      have e2 := h2.out k hlt
      have b0 : (0 : Int) ≤ (k : Int) := by omega
      have b1 : (k : Int) < (l.length : Int) := by omega
      go_wp2_with fail
      go_quiet (fail)
      go_wp2_with fail
      go_roundw
      case rel => exact ⟨k + 1, _, by omega, by go_num, rfl⟩
      case measure => simp [intOf]; omega
    · go_wp2_with fail
      go_ret
      exact ⟨rfl, bdrewN (Below.refl _ _) _⟩
theorem same_any (l : List Int) (v1 v2 : Value) (B1 B2 : Nat) (w : World) (hl : l.length ≤ 100000) (h1 : Out w B1 v1 l) (h2 : Out w B2 v2 l) :
    Calls Try.prog 25 #[v1, v2] w fun e w' => e = .returned (.bool true) ∧ Below w.heap.size w w' := by
  by_cases h0 : 0 < l.length
  · obtain ⟨g1, c1, rfl, _, k1⟩ := h1.rows h0
    obtain ⟨g2, c2, rfl, _, k2⟩ := h2.rows h0
    exact same_row l g1 c1 g2 c2 w hl k1 k2
  · obtain ⟨a, c, rfl⟩ := h1.shape
    obtain ⟨b, d, rfl⟩ := h2.shape
    rw [show l.length = 0 from by omega]
    exact same_nil a b c d w
/-- Two lists alike. -/
theorem SameNumbers_nil (A B : Option Addr) (c d : Nat) (w : World) : Calls Try.prog 16 #[.slice A 0 c, .slice B 0 d] w fun e w' => e = .returned (.bool true) ∧ Below w.heap.size w w' := by
  go_enter Try.func16, Try.ntmps16
  go_wp2_with fail
  go_loop [13] (fun i => i = .int .i64 0) (fun _ => 0)
  case atStart => rfl
  case round =>
    subst hrel
    go_wp2_with fail
    go_ret
    exact ⟨rfl, Below.refl _ _⟩
set_option maxRecDepth 100000 in
set_option maxHeartbeats 400000 in
theorem SameNumbers_row (l : List Int) (g1 c1 g2 c2 : Nat) (w : World) (hl : l.length ≤ 100000) (h1 : ∀ j (hj : j < l.length), w.cell? ⟨g1, j, none⟩ = some (.int .i64 l[j])) (h2 : ∀ j (hj : j < l.length), w.cell? ⟨g2, j, none⟩ = some (.int .i64 l[j])) :
    Calls Try.prog 16 #[.slice (some ⟨g1, 0, none⟩) l.length c1, .slice (some ⟨g2, 0, none⟩) l.length c2] w fun e w' => e = .returned (.bool true) ∧ Below w.heap.size w w' := by
  replace h1 := hid h1
  replace h2 := hid h2
  go_enter Try.func16, Try.ntmps16
  go_wp2_with fail
  go_loopw [13] (fun i wr => ∃ k n : Nat, k ≤ l.length ∧ i = .int .i64 k ∧ wr = w.drewN n) (fun i _ => l.length - (intOf i).toNat)
  case atStart => exact ⟨0, 0, Nat.zero_le _, rfl, rfl⟩
  case round =>
    obtain ⟨k, n, hk, rfl, rfl⟩ := hrel
    by_cases hlt : k < l.length
    · have e1 := h1.out k hlt
      have e2 := h2.out k hlt
      have b0 : (0 : Int) ≤ (k : Int) := by omega
      have b1 : (k : Int) < (l.length : Int) := by omega
      go_wp2_with fail
      go_quiet (fail)
      go_wp2_with fail
      go_roundw
      case rel => exact ⟨k + 1, _, by omega, by go_num, rfl⟩
      case measure => simp [intOf]; omega
    · go_wp2_with fail
      go_ret
      exact ⟨rfl, bdrewN (Below.refl _ _) _⟩
theorem SameNumbers_any (l : List Int) (v1 v2 : Value) (B1 B2 : Nat) (w : World) (hl : l.length ≤ 100000) (h1 : Out w B1 v1 l) (h2 : Out w B2 v2 l) :
    Calls Try.prog 16 #[v1, v2] w fun e w' => e = .returned (.bool true) ∧ Below w.heap.size w w' := by
  by_cases h0 : 0 < l.length
  · obtain ⟨g1, c1, rfl, _, k1⟩ := h1.rows h0
    obtain ⟨g2, c2, rfl, _, k2⟩ := h2.rows h0
    exact SameNumbers_row l g1 c1 g2 c2 w hl k1 k2
  · obtain ⟨a, c, rfl⟩ := h1.shape
    obtain ⟨b, d, rfl⟩ := h2.shape
    rw [show l.length = 0 from by omega]
    exact SameNumbers_nil a b c d w
end Go.Proofs.Ytloaemijhggheaa
