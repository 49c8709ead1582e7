/- The walk over the law SniffTells. -/
import Derived.Test.YtbnjhcdgiieghaaDoorSnRef2
namespace Go.Proofs.YtbnjhcdgiieghaaDoor
open Go.RowKit

set_option maxRecDepth 100000 in
set_option maxHeartbeats 1000000 in
theorem sniffsL_any (w : World) (hl : Laid w) : Calls Tryd.prog 23 #[] w fun e w' => e = .returned (.bool true) ∧ Below w.heap.size w w' := by
  have HM : Hid (Calls Tryd.prog 17 #[.string ⟨#[255, 254, 97]⟩] w fun e w' => e = .returned (.tuple #[.int .i64 5, .int .i64 2]) ∧ w' = w) := by
    have := mark_any ⟨#[255, 254, 97]⟩ w hl
    change Calls _ _ _ w (fun e w' => e = .returned (.tuple #[.int .i64 (markL [255, 254, 97]).1, .int .i64 (markL [255, 254, 97]).2]) ∧ w' = w) at this
    rw [exA_is] at this
    exact this
  have HB : Hid (∀ w1, Calls Tryd.prog 19 #[.string ⟨#[60, 109, 101, 116, 97, 32, 99, 104, 97, 114, 115, 101, 116, 61, 34, 116, 119, 105, 110, 34, 62]⟩] w1 fun e w' => e = .returned (.tuple #[.int .i64 3, .bool true]) ∧ Below w1.heap.size w1 w') := fun w1 => by
    have := label_any ⟨#[60, 109, 101, 116, 97, 32, 99, 104, 97, 114, 115, 101, 116, 61, 34, 116, 119, 105, 110, 34, 62]⟩ w1 (by decide)
    change Calls _ _ _ w1 (fun e w' => e = .returned (.tuple #[.int .i64 (labelL [60, 109, 101, 116, 97, 32, 99, 104, 97, 114, 115, 101, 116, 61, 34, 116, 119, 105, 110, 34, 62]).1, .bool (labelL [60, 109, 101, 116, 97, 32, 99, 104, 97, 114, 115, 101, 116, 61, 34, 116, 119, 105, 110, 34, 62]).2]) ∧ Below w1.heap.size w1 w') at this
    rw [exB_is] at this
    exact this
  go_enter Tryd.func23, Tryd.ntmps23
  go_wp2_with fail
  refine HM.out.mono ?_
  rintro e _ ⟨rfl, rfl⟩
  go_wp2_with fail
  refine (HB.out _).mono ?_
  rintro e w2 ⟨rfl, hb⟩
  go_wp2_with fail
  go_ret
  exact ⟨rfl, hb⟩

set_option maxRecDepth 100000 in
set_option maxHeartbeats 2000000 in
theorem tellsSn_any (s : ByteArray) (w : World) (m : Int) (hs : s.size ≤ 140737488355328) (hm : w.cell? ⟨2, 0, none⟩ = some (.int .i64 m)) (hl : Laid w) : Calls Tryd.prog 5 #[.string s] w fun e w' => e = .returned (.bool true) ∧ Below w.heap.size w w' := by
  have HA := hid (mark_any s w hl)
  have HB := hid (markOf_any s w)
  have HC := hid (label_any s w (by omega))
  have HD := hid (fun w1 hm1 => labelOf_any s w1 m hs hm1)
  have HP := hid (fun w1 (h : Laid w1) => mayMark_any s w1 h)
  have HQ := hid (fun w1 => mayBe_any s w1)
  generalize markL s.data.toList = A at HA HB
  generalize labelL s.data.toList = L at HC HD
  generalize mayL s.data.toList = p at HP HQ
  obtain ⟨a, n⟩ := A
  obtain ⟨x, ok⟩ := L
  have HM := hid hm
  have HW := hid hl
  clear hm hl
  go_enter Tryd.func5, Tryd.ntmps5
  go_wp2_with fail
  refine HA.out.mono ?_
  rintro e w0 ⟨rfl, h0⟩
  subst h0
  go_wp2_with fail
  refine HB.out.mono ?_
  rintro e w0 ⟨rfl, h0⟩
  subst h0
  go_wp2_with fail
  refine HC.out.mono ?_
  rintro e w1 ⟨rfl, hb1⟩
  have HM1 : Hid (w1.cell? ⟨2, 0, none⟩ = some (.int .i64 m)) := by
    show _ = _
    rw [hb1.cell (World.block_lt_of_cell? _ _ HM.out)]; exact HM.out
  go_wp2_with fail
  refine (HD.out _ HM1.out).mono ?_
  rintro e w2 ⟨rfl, hb2⟩
  have HB2 := hid (hb1.trans (hb2.mono hb1.size))
  have HW2 := hid (HW.out.below HB2.out)
  have HS := hid (sniffsL_any w2 HW2.out)
  clear hb1 hb2
  go_wp2_with fail
  refine (HP.out _ HW2.out).mono ?_
  rintro e w3 ⟨rfl, h3⟩
  subst h3
  go_wp2_with fail
  refine (HQ.out _).mono ?_
  rintro e w3 ⟨rfl, h3⟩
  subst h3
  go_wp2_with fail
  refine HS.out.mono ?_
  rintro e w4 ⟨rfl, hb4⟩
  go_wp2_with fail
  go_ret
  exact ⟨rfl, HB2.out.trans (hb4.mono HB2.out.size)⟩
end Go.Proofs.YtbnjhcdgiieghaaDoor
