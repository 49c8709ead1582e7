/- 1 texts of this proof in one file: DeAl. -/
import Derived.Test.YtmdnpgcnbpppfaaGreatDoorQH
/- Does a detector answer at all? -/
namespace Go.Proofs.YtmdnpgcnbpppfaaGreatDoor
open Go.RowKit
attribute [local go_sem ↓] run_eqV run_neV

theorem alive_feed (best : List UInt8 → Int) (dec : Int → List UInt8 → List Int) (h : Int) : Dt.act best dec ⟨h, [], false, 0⟩ 1 [239, 187, 191, 97] = (⟨0, .zero, []⟩, ⟨h, [239, 187, 191, 97], false, 1⟩) := by
  simp [Dt.act]
theorem alive_end (best : List UInt8 → Int) (dec : Int → List UInt8 → List Int) (h : Int) (hd : dec 1 [97] = [97]) : (Dt.act best dec ⟨h, [239, 187, 191, 97], false, 1⟩ 3 []).1 = ⟨0, ⟨1, 1, true⟩, [97]⟩ := by
  have hm := mark_utf [97]
  have hj := judge_mark best h [239, 187, 191, 97] (by rw [hm]; decide)
  rw [hm] at hj
  have ht := tell_mark dec [239, 187, 191, 97] (by rw [hm]; decide)
  rw [hm] at ht
  simp only [Dt.act, Dt.verdict, hj]
  simp [finP, ht, hd]
set_option maxRecDepth 100000 in
set_option maxHeartbeats 1000000 in
theorem detects_any {W : World} {best : List UInt8 → Int} {dec : Int → List UInt8 → List Int} (C : DetC W best dec) (hd : dec 1 [97] = [97]) (w : World) (hw : Below W.heap.size W w) : Calls Tryz.prog 7 #[] w fun e w' => e = .returned (.bool true) ∧ Below w.heap.size w w' := by
  have HN := hid (C.new ⟨#[]⟩ w (by decide) hw)
  go_enter Tryz.func7, Tryz.ntmps7
  go_wp2_with fail
  refine (HN.out).mono ?_
  rintro r w1 ⟨a, F, rfl, hD, hF, hb⟩
  have hw1 := hw.trans (hb.mono hw.size)
  have H1 := C.act' 1 ⟨#[239, 187, 191, 97]⟩ hw1 hD
  rw [show (⟨#[239, 187, 191, 97]⟩ : ByteArray).data.toList = [239, 187, 191, 97] from rfl, alive_feed] at H1
  replace H1 := hid H1
  go_wp2_with fail
  refine (H1.out).mono ?_
  rintro r w2 ⟨⟨A1, c1, rfl, _⟩, F2, hD2, hF2, ho2, hw2⟩
  simp only [rpV, Vd.zero, List.length_nil]
  have hb2 : Below w.heap.size w w2 := hb.trans (ho2.below hb.size hF)
  have hF2' : ∀ k, F2 k → w.heap.size ≤ k := fun k hk => by rcases hF2 k hk with h | h; exact hF k h; exact Nat.le_trans hb.size h
  have hn2 : ¬ F2 w2.heap.size := C.nF hD2 (Nat.le_refl _)
  have H2 := C.act' 3 ⟨#[]⟩ (hw2.alloc hw2.size (.cells #[.int .i64 0, .int .i64 0, .int .i64 0, .bool false, .slice A1 0 c1] 36)) (C.alloc hD2 (.cells #[.int .i64 0, .int .i64 0, .int .i64 0, .bool false, .slice A1 0 c1] 36))
  rw [show (⟨#[]⟩ : ByteArray).data.toList = [] from rfl, alive_end best dec _ hd] at H2
  replace H2 := hid H2
  go_wp2_with fail
  refine (H2.out).mono ?_
  rintro r w3 ⟨⟨A3, c3, rfl, hO⟩, F3, hD3, hF3, ho3, hw3⟩
  have hb3 : Below w.heap.size w w3 := (hb2.alloc hb2.size _).trans (ho3.below (hb2.alloc hb2.size _).size hF2')
  have q0 : w3.cell? ⟨w2.heap.size, 0, none⟩ = some (.int .i64 0) := by rw [ho3.cell (b := w2.heap.size) (by simp) hn2 0]; simp [go_sem]
  have hl3 : w2.heap.size < w3.heap.size := by have := ho3.size; simp at this; omega
  obtain ⟨g, cap, hA3, hg, hc⟩ := hO.rows (by simp)
  obtain ⟨rfl, _, rfl⟩ : A3 = some ⟨g, 0, none⟩ ∧ True ∧ c3 = cap := by injection hA3 with h1 h2 h3; exact ⟨h1, trivial, h3⟩
  clear hA3
  have hc0 := hc 0 (by simp)
  simp only [rpV, List.length_cons, List.length_nil, Nat.zero_add] at *
  clear hc hO
  have hv : vEq ⟨1, 1, true⟩ ⟨1, 1, true⟩ = true := vEq_self _
  go_wp2_with fail
  go_ret
  exact ⟨rfl, hb3.alloc hb3.size _⟩
end Go.Proofs.YtmdnpgcnbpppfaaGreatDoor
