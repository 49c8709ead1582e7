/- 3 texts of this proof in one file: ShelfC, ShelfP, PieceL. -/
import Derived.Shelf.Strings.Prefix
import Derived.Shelf.Small.Strs
import Derived.Test.YtloaemijhggheaaProg
import Derived.Test.YtloaemijhggheaaBase
import Derived.Test.YtloaemijhggheaaPieceT
/- The library's contracts of strings.HasPrefix and strings.IndexByte at this program: each fact by the kernel. -/
namespace Go.Proofs.Ytloaemijhggheaa
open Go.RowKit
open Go.Shelf
def lays99_ren : Go.Shelf.Ren := ⟨fun | 99 => 73 | 206 => 91 | n => n, fun | 3 => 3 | 4 => 4 | 9 => 9 | n => n, fun n => n⟩
theorem lays99 : Go.Proofs.Lays.n99 Try.prog lays99_ren := {
  mixed := by kernel_rfl
  f99 := Try.func73.trans (congrArg some (by kernel_rfl))
  f206 := Try.func91.trans (congrArg some (by kernel_rfl))
  t3 := Try.underlying3
  a3 := Try.isAgg3
  z3 := Try.sizeOf3
  v3 := Try.zeroValue3
  t4 := Try.underlying4
  a4 := Try.isAgg4
  z4 := Try.sizeOf4
  v4 := Try.zeroValue4
  t9 := Try.underlying9
  a9 := Try.isAgg9
  z9 := Try.sizeOf9
  v9 := Try.zeroValue9 }
def lays137_ren : Go.Shelf.Ren := ⟨fun | 137 => 71 | 217 => 90 | 266 => 100 | n => n, fun | 3 => 3 | 5 => 5 | 9 => 9 | n => n, fun n => n⟩
theorem lays137 : Go.Proofs.Lays.n137 Try.prog lays137_ren := {
  mixed := by kernel_rfl
  f137 := Try.func71.trans (congrArg some (by kernel_rfl))
  f217 := Try.func90.trans (congrArg some (by kernel_rfl))
  f266 := Try.func100.trans (congrArg some (by kernel_rfl))
  t3 := Try.underlying3
  a3 := Try.isAgg3
  z3 := Try.sizeOf3
  v3 := Try.zeroValue3
  t5 := Try.underlying5
  a5 := Try.isAgg5
  z5 := Try.sizeOf5
  v5 := Try.zeroValue5
  t9 := Try.underlying9
  a9 := Try.isAgg9
  z9 := Try.sizeOf9
  v9 := Try.zeroValue9 }
theorem hasPrefix_c (s p : ByteArray) (w : World) : Calls Try.prog 73 #[.string s, .string p] w fun e w' => e = .returned (.bool (Lib.hasPrefix s.data.toList p.data.toList)) ∧ w' = w := Any.strings_HasPrefix lays99 s p w
theorem indexByte_c (s : ByteArray) (c : Int) (w : World) : Calls Try.prog 71 #[.string s, .int .u8 c] w fun e w' => e = .returned (.int .i64 (Lib.indexByte s.data.toList c.toNat.toUInt8)) ∧ w' = w := Any.strings_IndexByte lays137 s c w
end Go.Proofs.Ytloaemijhggheaa

/- The library's contracts of strings.HasPrefix and strings.IndexByte at this program: each fact by the kernel. -/
namespace Go.Proofs.Ytloaemijhggheaa
open Go.RowKit
open Go.Shelf
/-- A string begins with three bytes, or not. -/
def pre3 (a b c : UInt8) (s : ByteArray) : Bool := Lib.hasPrefix s.data.toList [a, b, c]
theorem pre3_c (a b c : UInt8) (s : ByteArray) (v : Bool) (hv : pre3 a b c s = v) (w : World) : Calls Try.prog 73 #[.string s, .string ⟨#[a, b, c]⟩] w fun e w' => e = .returned (.bool v) ∧ w = w' :=
  (hasPrefix_c s ⟨#[a, b, c]⟩ w).mono fun e w' ⟨h1, h2⟩ => ⟨by rw [h1, ← hv]; rfl, h2.symm⟩
theorem pre3_yes (a b c : UInt8) (s : ByteArray) (h : pre3 a b c s = true) : ∃ r, s.data.toList = a :: b :: c :: r := by
  unfold pre3 Lib.hasPrefix at h
  match hl : s.data.toList, h with
  | [], h => simp at h
  | [x], h => simp [List.isPrefixOf] at h
  | [x, y], h => simp [List.isPrefixOf] at h
  | x :: y :: z :: r, h =>
    simp [List.isPrefixOf] at h
    obtain ⟨rfl, rfl, rfl⟩ := h
    exact ⟨r, rfl⟩
theorem pre3_no (a b c : UInt8) (s : ByteArray) (h : pre3 a b c s = false) (r : List UInt8) : s.data.toList ≠ a :: b :: c :: r := by
  intro e
  unfold pre3 Lib.hasPrefix at h
  rw [e] at h
  simp [List.isPrefixOf] at h
/-- The five bytes that Latin leaves out. -/
def lat5 (b : UInt8) : Bool := b == 129 || b == 141 || b == 143 || b == 144 || b == 157
theorem lat5_fin : ∀ n : Fin 256, (lat5 (UInt8.ofFin n) = true → 0 ≤ Lib.indexByte [129, 141, 143, 144, 157] (UInt8.ofFin n)) ∧ (lat5 (UInt8.ofFin n) = false → Lib.indexByte [129, 141, 143, 144, 157] (UInt8.ofFin n) < 0) := by decide +kernel
theorem lat5_all (b : UInt8) : (lat5 b = true → 0 ≤ Lib.indexByte [129, 141, 143, 144, 157] b) ∧ (lat5 b = false → Lib.indexByte [129, 141, 143, 144, 157] b < 0) := lat5_fin b.toFin
theorem lat5_c (b : UInt8) (w : World) : Calls Try.prog 71 #[.string ⟨#[129, 141, 143, 144, 157]⟩, .int .u8 (b.toNat : Int)] w fun e w' => ∃ k : Int, e = .returned (.int .i64 k) ∧ (lat5 b = true → 0 ≤ k) ∧ (lat5 b = false → k < 0) ∧ w = w' :=
  (indexByte_c ⟨#[129, 141, 143, 144, 157]⟩ (b.toNat : Int) w).mono fun e w' ⟨h1, h2⟩ => by
    have e0 : ((b.toNat : Int)).toNat.toUInt8 = b := by simp
    rw [e0] at h1
    exact ⟨_, h1, (lat5_all b).1, (lat5_all b).2, h2.symm⟩
end Go.Proofs.Ytloaemijhggheaa

/- The reference's piece: the ways of Latin. -/
namespace Go.Proofs.Ytloaemijhggheaa
open Go.RowKit
attribute [local go_sem ↓] run_eqS run_neS
attribute [local go_sem] byte_at0 byte_at20 byte_at21 w64 S.v and63 and31 and15 and7 kw kw256
attribute [local go_sem] run_store_fn

set_option maxRecDepth 100000 in
set_option maxHeartbeats 1000000 in
theorem pieceL_a (s : ByteArray) (md : Int) (w : World) (hs : 0 < s.size) (h : lat5 s[0] = true) : Calls Try.prog 43 #[.int .i64 4, .string s, .int .i64 md] w (PP w [-1] 1 0) := by
  have H := hid (fun w1 => lat5_c s[0] w1)
  go_enter Try.func43, Try.ntmps43
  go_wp2_with fail
  refine (H.out _).mono ?_
  rintro r w' ⟨k, rfl, hk, _, rfl⟩
  replace hk := hk h
  clear h
  go_wp2_with fail
  go_ret3
  exact ⟨_, rfl, Out.one' _ _ (w.heap.size + 1 + 1 + 1) _ (by simp) (by omega), (by repeat (first | exact Below.refl _ _ | assumption | (refine Below.alloc ?_ (by first | (simp; done) | (simp; omega)) _) | (refine Below.setCell ?_ (by first | (simp; done) | (simp; omega)) _) | (refine Below.drew ?_)))⟩
set_option maxRecDepth 100000 in
set_option maxHeartbeats 1000000 in
theorem pieceL_b (s : ByteArray) (md : Int) (w : World) (hs : 0 < s.size) (h : lat5 s[0] = false) (h1 : 128 ≤ (s[0].toNat : Int)) (h2 : (s[0].toNat : Int) ≤ 159) : Calls Try.prog 43 #[.int .i64 4, .string s, .int .i64 md] w (PP w [8192 + (s[0].toNat : Int)] 1 0) := by
  have H := hid (fun w1 => lat5_c s[0] w1)
  have hb := s[0].toNat_lt
  go_enter Try.func43, Try.ntmps43
  go_wp2_with fail
  refine (H.out _).mono ?_
  rintro r w' ⟨k, rfl, _, hk, rfl⟩
  replace hk := hk h
  clear h
  go_wp2_with fail
  refine (inR_yes _ _ _ _ (by omega) (by omega)).mono ?_
  rintro r w' ⟨rfl, rfl⟩
  go_wp2_with fail
  go_ret3
  exact ⟨_, rfl, Out.one' _ _ (w.heap.size + 1 + 1 + 1 + 1) _ (by simp) (by omega), (by repeat (first | exact Below.refl _ _ | assumption | (refine Below.alloc ?_ (by first | (simp; done) | (simp; omega)) _) | (refine Below.setCell ?_ (by first | (simp; done) | (simp; omega)) _) | (refine Below.drew ?_)))⟩
set_option maxRecDepth 100000 in
set_option maxHeartbeats 1000000 in
theorem pieceL_c (s : ByteArray) (md : Int) (w : World) (hs : 0 < s.size) (h : lat5 s[0] = false) (h1 : (s[0].toNat : Int) < 128 ∨ 159 < (s[0].toNat : Int)) : Calls Try.prog 43 #[.int .i64 4, .string s, .int .i64 md] w (PP w [(s[0].toNat : Int)] 1 0) := by
  have H := hid (fun w1 => lat5_c s[0] w1)
  have hb := s[0].toNat_lt
  replace h1 := hid h1
  go_enter Try.func43, Try.ntmps43
  go_wp2_with fail
  refine (H.out _).mono ?_
  rintro r w' ⟨k, rfl, _, hk, rfl⟩
  replace hk := hk h
  clear h
  go_wp2_with fail
  refine (inR_no _ _ _ _ (by have := h1.out; omega)).mono ?_
  rintro r w' ⟨rfl, rfl⟩
  go_wp2_with fail
  go_ret3
  exact ⟨_, rfl, Out.one' _ _ (w.heap.size + 1 + 1 + 1 + 1) _ (by simp) (by omega), (by repeat (first | exact Below.refl _ _ | assumption | (refine Below.alloc ?_ (by first | (simp; done) | (simp; omega)) _) | (refine Below.setCell ?_ (by first | (simp; done) | (simp; omega)) _) | (refine Below.drew ?_)))⟩
end Go.Proofs.Ytloaemijhggheaa
