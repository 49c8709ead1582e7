/- The walk over the law LabelSame. -/
import Derived.Test.YtnihcgahenogaaaDoorLSame
namespace Go.Proofs.YtnihcgahenogaaaDoor
open Go.RowKit

def GapOk (g : ByteArray) (k : Nat) : Prop := ∀ j (_ : j < k) (h : j < g.size), isSp g[j] = true
theorem sp_of (b : UInt8) (h : ¬ (b.toNat : Int) = 32 → ¬ (b.toNat : Int) = 9 → ¬ (b.toNat : Int) = 10 → ¬ (b.toNat : Int) = 12 → ¬ (b.toNat : Int) = 13 → False) : isSp b = true := by
  have e := all_u8 (fun b => isSp b || !(b.toNat == 32 || b.toNat == 9 || b.toNat == 10 || b.toNat == 12 || b.toNat == 13)) (by decide +kernel) b
  cases hb : isSp b with
  | true => rfl
  | false =>
    simp [hb] at e
    exact (h (by omega) (by omega) (by omega) (by omega) (by omega)).elim
theorem GapOk.next {g : ByteArray} {k : Nat} (h : GapOk g k) (hk : k < g.size) (hs : isSp g[k] = true) : GapOk g (k + 1) := fun j hj hg => by
  by_cases e : j = k
  · subst e; exact hs
  · exact h j (by omega) hg
theorem GapOk.all {g : ByteArray} {k : Nat} (h : GapOk g k) (hk : g.size ≤ k) : ∀ b ∈ g.data.toList, isSp b = true := fun b hb => by
  obtain ⟨j, hj, e⟩ := List.getElem_of_mem hb
  have hj' : j < g.size := by simpa using hj
  have := h j (by omega) hj'
  rw [← e]; exact this

theorem bt {a b c : World} (h : Below a.heap.size a b) (k : Below b.heap.size b c) : Below a.heap.size a c := h.trans (k.mono h.size)
theorem nameL_le (e : Int) : (nameL e).length ≤ 8 := by
  unfold nameL
  repeat (first | (split; decide) | decide)

end Go.Proofs.YtnihcgahenogaaaDoor
