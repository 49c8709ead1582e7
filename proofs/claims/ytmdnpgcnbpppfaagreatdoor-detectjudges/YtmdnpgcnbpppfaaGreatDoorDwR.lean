/- The reference's parts keep their contracts. -/
import Derived.Test.YtmdnpgcnbpppfaaGreatDoorQF
import Derived.Test.YtmdnpgcnbpppfaaGreatDoorDeRf4
import Derived.Test.YtmdnpgcnbpppfaaGreatDoorQS
import Derived.Test.YtmdnpgcnbpppfaaGreatDoorQY
import Derived.Test.YtmdnpgcnbpppfaaGreatDoorQU
namespace Go.Proofs.YtmdnpgcnbpppfaaGreatDoor
open Go.RowKit

theorem ref_dec (e : Int) (h1 : 1 ≤ e) (h2 : e ≤ 6) (s : ByteArray) (w : World) (hs : s.size ≤ 4000) : Calls Tryz.prog 27 #[.int .i64 e, .string s] w (POE w (decA e s.data.toList) 0) := by
  obtain h | h | h | h | h | h : e = 1 ∨ e = 2 ∨ e = 3 ∨ e = 4 ∨ e = 5 ∨ e = 6 := by omega
  all_goals subst h
  · exact wholeOf_any piecesU s w h1 h2 hs
  · exact wholeOf_any piecesSh s w h1 h2 hs
  · exact wholeOf_any piecesT s w h1 h2 hs
  · exact wholeOf_any piecesLat s w h1 h2 hs
  · exact wholeOf_any piecesLo s w h1 h2 hs
  · exact wholeOf_any piecesHi s w h1 h2 hs
/-- What lay in W still lies there. -/
theorem max_below {W w : World} {m : Int} (hm : W.cell? ⟨2, 0, none⟩ = some (.int .i64 m)) (hw : Below W.heap.size W w) : w.cell? ⟨2, 0, none⟩ = some (.int .i64 m) :=
  (World.cell?_of_block (a := ⟨2, 0, none⟩) (hw.block _ (World.block_lt_of_cell? W _ hm))).trans hm
theorem refC (W : World) (m : Int) (hm : W.cell? ⟨2, 0, none⟩ = some (.int .i64 m)) : RefC W bestL decA where
  mark := fun s w _ _ => (markOf_any s w).mono fun e w' ⟨h1, h2⟩ => ⟨h1, by rw [h2]; exact Below.refl _ _⟩
  label := fun s w hs hw => labelOf_any s w m (by omega) (max_below hm hw)
  best_ := fun s w hs _ => bestOf_any s w hs
  may := fun s w _ _ => (mayBe_any s w).mono fun e w' ⟨h1, h2⟩ => ⟨h1, by rw [h2]; exact Below.refl _ _⟩
  whole := fun x s w h1 h2 hs _ => (ref_dec x h1 h2 s w hs).mono fun e w' ⟨v, h3, h4, h5⟩ => by
    obtain ⟨A, c, rfl⟩ := h4.shape
    exact ⟨⟨A, c, h3, h4⟩, h5⟩
end Go.Proofs.YtmdnpgcnbpppfaaGreatDoor
