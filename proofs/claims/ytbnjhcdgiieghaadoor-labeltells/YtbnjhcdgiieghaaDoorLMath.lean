/- Plain mathematics of labels: bytes in lower case, spaces cut off. -/
import Derived.Lib.SlTrimSet
import Derived.Test.YtbnjhcdgiieghaaDoorKit0
namespace Go.Proofs.YtbnjhcdgiieghaaDoor

/-- A byte in lower case. -/
def lowB (b : UInt8) : UInt8 := if 65 ≤ b.toNat ∧ b.toNat ≤ 90 then UInt8.ofNat (b.toNat + 32) else b
def lowL (l : List UInt8) : List UInt8 := l.map lowB

theorem lowB_yes (b : UInt8) (h : 65 ≤ b.toNat ∧ b.toNat ≤ 90) : (lowB b).toNat = b.toNat + 32 := by
  unfold lowB; rw [if_pos h]; simp; omega
theorem lowB_no (b : UInt8) (h : ¬ (65 ≤ b.toNat ∧ b.toNat ≤ 90)) : lowB b = b := by
  unfold lowB; rw [if_neg h]
theorem lowL_length (l : List UInt8) : (lowL l).length = l.length := by simp [lowL]

/-- What lies at place j when the first k places are done. -/
def lowAt (l : List UInt8) (k j : Nat) : UInt8 := if j < k then lowB (l.getD j 0) else l.getD j 0
/-- The bytes that count as spaces around a label. -/
def spaces : List UInt8 := [32, 9, 10, 12, 13]
/-- A label as it is compared. -/
def trimL (l : List UInt8) : List UInt8 := lowL (Lib.trimS l spaces)
/-- The labels, each with its encoding. -/
def table : List (List UInt8 × Int) := [([117, 116, 102, 45, 56], 1), ([117, 116, 102, 56], 1), ([117, 110, 105, 99, 111, 100, 101, 45, 49, 45, 49, 45, 117, 116, 102, 45, 56], 1), ([115, 104, 105, 102, 116], 2), ([105, 115, 111, 45, 50, 48, 50, 50], 2), ([116, 119, 105, 110], 3), ([120, 45, 116, 119, 105, 110], 3), ([109, 115, 95, 116, 119, 105, 110], 3), ([108, 97, 116, 105, 110], 4), ([108, 97, 116, 105, 110, 49], 4), ([97, 115, 99, 105, 105], 4), ([117, 115, 45, 97, 115, 99, 105, 105], 4), ([119, 105, 110, 100, 111, 119, 115, 45, 49, 50, 53, 50], 4), ([117, 116, 102, 45, 49, 54], 5), ([117, 116, 102, 45, 49, 54, 108, 101], 5), ([117, 116, 102, 45, 49, 54, 98, 101], 6)]
/-- The encoding of a label that is trimmed. -/
def labelOf (t : List UInt8) : Int := if t == [117, 116, 102, 45, 56] then 1 else if t == [117, 116, 102, 56] then 1 else if t == [117, 110, 105, 99, 111, 100, 101, 45, 49, 45, 49, 45, 117, 116, 102, 45, 56] then 1 else if t == [115, 104, 105, 102, 116] then 2 else if t == [105, 115, 111, 45, 50, 48, 50, 50] then 2 else if t == [116, 119, 105, 110] then 3 else if t == [120, 45, 116, 119, 105, 110] then 3 else if t == [109, 115, 95, 116, 119, 105, 110] then 3 else if t == [108, 97, 116, 105, 110] then 4 else if t == [108, 97, 116, 105, 110, 49] then 4 else if t == [97, 115, 99, 105, 105] then 4 else if t == [117, 115, 45, 97, 115, 99, 105, 105] then 4 else if t == [119, 105, 110, 100, 111, 119, 115, 45, 49, 50, 53, 50] then 4 else if t == [117, 116, 102, 45, 49, 54] then 5 else if t == [117, 116, 102, 45, 49, 54, 108, 101] then 5 else if t == [117, 116, 102, 45, 49, 54, 98, 101] then 6 else 0
/-- The encoding of a label as it is given. -/
def findL (l : List UInt8) : Int := if l.length > 40 then 0 else labelOf (trimL l)
end Go.Proofs.YtbnjhcdgiieghaaDoor
