/- The walk over the law DecodeWhole: all pieces together. -/
import Derived.Test.YtloaemijhggheaaFewW
import Derived.Test.YtloaemijhggheaaPureW
import Derived.Test.YtloaemijhggheaaPureS
import Derived.Test.YtloaemijhggheaaPureU
namespace Go.Proofs.Ytloaemijhggheaa
open Go.RowKit

theorem ref_of (e : Int) (h1 : 1 ≤ e) (h2 : e ≤ 6) : ∃ M qm okm, Full e M ∧ Pieces e M qm okm ∧ ∀ l, (M.dec M.init l).length ≤ l.length := by
  obtain h | h | h | h | h | h : e = 1 ∨ e = 2 ∨ e = 3 ∨ e = 4 ∨ e = 5 ∨ e = 6 := by omega
  all_goals subst h
  · exact ⟨_, _, _, fullU, piecesU, fun l => (fewU.dec conU l).1⟩
  · exact ⟨_, _, _, fullSh, piecesSh, fun l => (fewSh.dec conSh l).1⟩
  · exact ⟨_, _, _, fullT, piecesT, fun l => (fewT.dec conT l).1⟩
  · exact ⟨_, _, _, fullLat, piecesLat, fun l => (fewLat.dec conLat l).1⟩
  · exact ⟨_, _, _, fullLo, piecesLo, fun l => (fewLo.dec conLo l).1⟩
  · exact ⟨_, _, _, fullHi, piecesHi, fun l => (fewHi.dec conHi l).1⟩
theorem lawWhole_any (e : Int) (s : ByteArray) (w : World) (_hs : s.size ≤ 140737488355328) : Calls Try.prog 3 #[.int .i64 e, .string s] w fun r w' => r = .returned (.bool true) ∧ Below w.heap.size w w' := by
  by_cases he : 1 ≤ e ∧ e ≤ 6
  · cases hd : decide ((4000 : Int) < (s.size : Int)) with
    | true => exact law_of e 4 s [] w (Nat.zero_le _) (hid fun w1 => whole_err e 4 s _ w1 rfl (hid fun w2 => feedS_long e ⟨#[]⟩ s w2 he.1 he.2 hd)) (hid fun w1 => wholeOf_long e s w1 he.1 he.2 hd)
    | false =>
      have hz : s.size ≤ 4000 := by simp at hd; omega
      obtain ⟨M, qm, okm, F, P, hF⟩ := ref_of e he.1 he.2
      refine law_of e 0 s _ w ?_ (hid fun w1 => whole_any F.con F.goods s hz w1) (hid fun w1 => wholeOf_any P s w1 he.1 he.2 hz)
      have := hF s.data.toList
      simp at this
      omega
  · exact law_of e 2 s [] w (Nat.zero_le _) (hid fun w1 => whole_err e 2 s _ w1 rfl (hid fun w2 => feedS_kind e ⟨#[]⟩ s w2 he)) (hid fun w1 => wholeOf_kind e s w1 he)
end Go.Proofs.Ytloaemijhggheaa
