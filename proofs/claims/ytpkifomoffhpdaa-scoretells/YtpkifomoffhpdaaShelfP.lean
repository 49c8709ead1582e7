/- The library's contracts of strings.HasPrefix and strings.IndexByte at this program: each fact by the kernel. -/
import Derived.Test.YtpkifomoffhpdaaShelfC
import Derived.Test.YtpkifomoffhpdaaBase
namespace Go.Proofs.Ytpkifomoffhpdaa
open Go.RowKit
open Go.Shelf
/-- A string begins with three bytes, or not. -/
def pre3 (a b c : UInt8) (s : ByteArray) : Bool := Lib.hasPrefix s.data.toList [a, b, c]
theorem pre3_c (a b c : UInt8) (s : ByteArray) (v : Bool) (hv : pre3 a b c s = v) (w : World) : Calls Try.prog 58 #[.string s, .string ⟨#[a, b, c]⟩] w fun e w' => e = .returned (.bool v) ∧ w = w' :=
  (hasPrefix_c s ⟨#[a, b, c]⟩ w).mono fun e w' ⟨h1, h2⟩ => ⟨by rw [h1, ← hv]; rfl, h2.symm⟩
theorem pre3_yes (a b c : UInt8) (s : ByteArray) (h : pre3 a b c s = true) : ∃ r, s.data.toList = a :: b :: c :: r := by
  unfold pre3 Lib.hasPrefix at h
  match hl : s.data.toList, h with
  | [], h => simp at h
  | [x], h => simp [List.isPrefixOf] at h
  | [x, y], h => simp [List.isPrefixOf] at h
  | x :: y :: z :: r, h =>
    simp [List.isPrefixOf] at h
    obtain ⟨rfl, rfl, rfl⟩ := h
    exact ⟨r, rfl⟩
theorem pre3_no (a b c : UInt8) (s : ByteArray) (h : pre3 a b c s = false) (r : List UInt8) : s.data.toList ≠ a :: b :: c :: r := by
  intro e
  unfold pre3 Lib.hasPrefix at h
  rw [e] at h
  simp [List.isPrefixOf] at h
/-- The five bytes that Latin leaves out. -/
def lat5 (b : UInt8) : Bool := b == 129 || b == 141 || b == 143 || b == 144 || b == 157
theorem lat5_fin : ∀ n : Fin 256, (lat5 (UInt8.ofFin n) = true → 0 ≤ Lib.indexByte [129, 141, 143, 144, 157] (UInt8.ofFin n)) ∧ (lat5 (UInt8.ofFin n) = false → Lib.indexByte [129, 141, 143, 144, 157] (UInt8.ofFin n) < 0) := by decide +kernel
theorem lat5_all (b : UInt8) : (lat5 b = true → 0 ≤ Lib.indexByte [129, 141, 143, 144, 157] b) ∧ (lat5 b = false → Lib.indexByte [129, 141, 143, 144, 157] b < 0) := lat5_fin b.toFin
theorem lat5_c (b : UInt8) (w : World) : Calls Try.prog 56 #[.string ⟨#[129, 141, 143, 144, 157]⟩, .int .u8 (b.toNat : Int)] w fun e w' => ∃ k : Int, e = .returned (.int .i64 k) ∧ (lat5 b = true → 0 ≤ k) ∧ (lat5 b = false → k < 0) ∧ w = w' :=
  (indexByte_c ⟨#[129, 141, 143, 144, 157]⟩ (b.toNat : Int) w).mono fun e w' ⟨h1, h2⟩ => by
    have e0 : ((b.toNat : Int)).toNat.toUInt8 = b := by simp
    rw [e0] at h1
    exact ⟨_, h1, (lat5_all b).1, (lat5_all b).2, h2.symm⟩
end Go.Proofs.Ytpkifomoffhpdaa
