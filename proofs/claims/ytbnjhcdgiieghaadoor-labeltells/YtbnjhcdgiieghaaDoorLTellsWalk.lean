/- The walk over the law LabelTells. -/
import Derived.Test.YtbnjhcdgiieghaaDoorLFindRef
namespace Go.Proofs.YtbnjhcdgiieghaaDoor
open Go.RowKit

set_option maxRecDepth 100000 in
set_option maxHeartbeats 1000000 in
theorem tells_any (s : ByteArray) (e : Int) (w : World) (m : Int) (hs : s.size ≤ 140737488355328) (hm : w.cell? ⟨2, 0, none⟩ = some (.int .i64 m)) :
    Calls Tryd.prog 3 #[.string s, .int .i64 e] w fun x w' => x = .returned (.bool true) ∧ Below w.heap.size w w' := by
  have h2 : 2 < w.heap.size := by
    rcases Nat.lt_or_ge 2 w.heap.size with h | h
    · exact h
    · simp [World.cell?, Array.getElem?_eq_none h] at hm
  have HM := hid hm
  have H1 := hid (fun w1 => trim_any s w1 (by omega))
  have H2 := hid (fun w1 => trimmed_any s w1 hs)
  have H3 := hid (fun w1 => find_any s w1 (by omega))
  have H4 := hid (fun w1 => findRef_any s w1 m hs)
  have H5 := hid (name_any e)
  have H6 := hid (nameOf_any e)
  generalize findL s.data.toList = f at H3 H4
  generalize (⟨(nameL e).toArray⟩ : ByteArray) = n at H5 H6
  generalize (⟨(trimL s.data.toList).toArray⟩ : ByteArray) = t at H1 H2
  clear hm
  go_enter Tryd.func3, Tryd.ntmps3
  go_wp2_with fail
  refine (H1.out _).mono ?_
  rintro e1 w1 ⟨rfl, hb1⟩
  go_wp2_with fail
  refine (H2.out _).mono ?_
  rintro e1 w2 ⟨rfl, hb2⟩
  go_wp2_with fail
  refine (H3.out _).mono ?_
  rintro e1 w3 ⟨rfl, hb3⟩
  have hb := btL (btL hb1 hb2) hb3
  go_wp2_with fail
  refine (H4.out w3 (by rw [hb.cell (p := ⟨2, 0, none⟩) h2]; exact HM.out)).mono ?_
  rintro e1 w4 ⟨rfl, hb4⟩
  go_wp2_with fail
  refine (H5.out _).mono ?_
  rintro e1 w5 ⟨rfl, hb5⟩
  go_wp2_with fail
  refine (H6.out _).mono ?_
  rintro e1 _ ⟨rfl, rfl⟩
  go_wp2_with fail
  refine (labels11 _).mono ?_
  rintro e1 w7 ⟨rfl, hb7⟩
  go_wp2_with fail
  go_ret
  exact ⟨rfl, btL (btL (btL hb hb4) hb5) hb7⟩
end Go.Proofs.YtbnjhcdgiieghaaDoor
