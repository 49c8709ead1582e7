/- The walks over the laws DecodeFew and DecodePlain. -/
import Derived.Test.YtpkifomoffhpdaaLaw
import Derived.Test.YtpkifomoffhpdaaPure
namespace Go.Proofs.Ytpkifomoffhpdaa
open Go.RowKit
attribute [local go_sem ↓] run_eqS run_neS
attribute [local go_sem] byte_at0 byte_at20 byte_at21 w64 S.v and63 and31 and15 and7 kw kw256

theorem few_of (e : Int) (h1 : 1 ≤ e) (h2 : e ≤ 6) : ∃ M, Full e M ∧ ∀ l, (M.dec M.init l).length ≤ l.length ∧ ∀ x ∈ M.dec M.init l, okN x := by
  obtain h | h | h | h | h | h : e = 1 ∨ e = 2 ∨ e = 3 ∨ e = 4 ∨ e = 5 ∨ e = 6 := by omega
  all_goals subst h
  · exact ⟨_, fullU, fewU.dec conU⟩
  · exact ⟨_, fullSh, fewSh.dec conSh⟩
  · exact ⟨_, fullT, fewT.dec conT⟩
  · exact ⟨_, fullLat, fewLat.dec conLat⟩
  · exact ⟨_, fullLo, fewLo.dec conLo⟩
  · exact ⟨_, fullHi, fewHi.dec conHi⟩
theorem plain_of (e : Int) (h1 : 1 ≤ e) (h2 : e ≤ 4) : ∃ M, Full e M ∧ ∀ l : List UInt8, (∀ b ∈ l, plainB b) → M.dec M.init l = l.map nb := by
  obtain h | h | h | h : e = 1 ∨ e = 2 ∨ e = 3 ∨ e = 4 := by omega
  all_goals subst h
  · exact ⟨_, fullU, dec_plain plainU rfl⟩
  · exact ⟨_, fullSh, dec_plain plainSh rfl⟩
  · exact ⟨_, fullT, dec_plain plainT rfl⟩
  · exact ⟨_, fullLat, dec_plain plainLat rfl⟩

end Go.Proofs.Ytpkifomoffhpdaa
