/- The walk over the law AutoAccepts. -/
import Derived.Test.YtloaemijhggheaaIsRightW
import Derived.Test.YtloaemijhggheaaWholeW
namespace Go.Proofs.Ytloaemijhggheaa
open Go.RowKit

theorem refA_of (e : Int) (h1 : 1 ≤ e) (h2 : e ≤ 6) : ∃ M qm okm, Pieces e M qm okm ∧ (∀ l, (M.dec M.init l).length ≤ l.length) ∧ ∀ l, aEnds e (aRun e 0 l) = !(hasBad (M.dec M.init l)) := by
  obtain h | h | h | h | h | h : e = 1 ∨ e = 2 ∨ e = 3 ∨ e = 4 ∨ e = 5 ∨ e = 6 := by omega
  all_goals subst h
  · exact ⟨_, _, _, piecesU, fun l => (fewU.dec conU l).1, autoU.all⟩
  · exact ⟨_, _, _, piecesSh, fun l => (fewSh.dec conSh l).1, autoSh.all⟩
  · exact ⟨_, _, _, piecesT, fun l => (fewT.dec conT l).1, autoT.all⟩
  · exact ⟨_, _, _, piecesLat, fun l => (fewLat.dec conLat l).1, autoLat.all⟩
  · exact ⟨_, _, _, piecesLo, fun l => (fewLo.dec conLo l).1, autoLo.all⟩
  · exact ⟨_, _, _, piecesHi, fun l => (fewHi.dec conHi l).1, autoHi.all⟩
theorem autoAccepts_any (e : Int) (s : ByteArray) (w : World) (_hs : s.size ≤ 140737488355328) : Calls Try.prog 9 #[.int .i64 e, .string s] w fun r w' => r = .returned (.bool true) ∧ Below w.heap.size w w' := by
  cases hd : decide ((4000 : Int) < (s.size : Int)) with
  | true => exact aa_long e s w hd
  | false =>
    have hz : s.size ≤ 4000 := by simp at hd; omega
    have HA := fun w1 => accepts_any e s w1 (by omega)
    by_cases he : 1 ≤ e ∧ e ≤ 6
    · obtain ⟨M, qm, okm, P, hF, hA⟩ := refA_of e he.1 he.2
      rw [hA] at HA
      refine aa_of e s w _ hd (hid HA) (hid fun w1 => isRight_of e s _ w1 hz ?_ (hid fun w2 => wholeOf_any P s w2 he.1 he.2 hz))
      have := hF s.data.toList
      simp at this
      omega
    · rw [aEnds_none _ _ he] at HA
      exact aa_of e s w _ hd (hid HA) (hid fun w1 => isRight_none e s w1 hz he)
end Go.Proofs.Ytloaemijhggheaa
