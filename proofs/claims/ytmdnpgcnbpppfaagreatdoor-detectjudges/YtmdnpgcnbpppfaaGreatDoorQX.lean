/- 2 texts of this proof in one file: ShelfP, PieceL. -/
import Derived.Test.YtmdnpgcnbpppfaaGreatDoorQS
import Derived.Test.YtmdnpgcnbpppfaaGreatDoorBase
import Derived.Test.YtmdnpgcnbpppfaaGreatDoorPieceT
/- The library's contracts of strings.HasPrefix and strings.IndexByte at this program: each fact by the kernel. -/
namespace Go.Proofs.YtmdnpgcnbpppfaaGreatDoor
open Go.RowKit
open Go.Shelf
/-- A string begins with three bytes, or not. -/
def pre3 (a b c : UInt8) (s : ByteArray) : Bool := Lib.hasPrefix s.data.toList [a, b, c]
theorem pre3_c (a b c : UInt8) (s : ByteArray) (v : Bool) (hv : pre3 a b c s = v) (w : World) : Calls Tryz.prog 36 #[.string s, .string ⟨#[a, b, c]⟩] w fun e w' => e = .returned (.bool v) ∧ w = w' :=
  (hasPrefix_c s ⟨#[a, b, c]⟩ w).mono fun e w' ⟨h1, h2⟩ => ⟨by rw [h1, ← hv]; rfl, h2.symm⟩
theorem pre3_yes (a b c : UInt8) (s : ByteArray) (h : pre3 a b c s = true) : ∃ r, s.data.toList = a :: b :: c :: r := by
  unfold pre3 Lib.hasPrefix at h
  match hl : s.data.toList, h with
  | [], h => simp at h
  | [x], h => simp [List.isPrefixOf] at h
  | [x, y], h => simp [List.isPrefixOf] at h
  | x :: y :: z :: r, h =>
    simp [List.isPrefixOf] at h
    obtain ⟨rfl, rfl, rfl⟩ := h
    exact ⟨r, rfl⟩
theorem pre3_no (a b c : UInt8) (s : ByteArray) (h : pre3 a b c s = false) (r : List UInt8) : s.data.toList ≠ a :: b :: c :: r := by
  intro e
  unfold pre3 Lib.hasPrefix at h
  rw [e] at h
  simp [List.isPrefixOf] at h
/-- The five bytes that Latin leaves out. -/
def lat5 (b : UInt8) : Bool := b == 129 || b == 141 || b == 143 || b == 144 || b == 157
theorem lat5_fin : ∀ n : Fin 256, (lat5 (UInt8.ofFin n) = true → 0 ≤ Lib.indexByte [129, 141, 143, 144, 157] (UInt8.ofFin n)) ∧ (lat5 (UInt8.ofFin n) = false → Lib.indexByte [129, 141, 143, 144, 157] (UInt8.ofFin n) < 0) := by decide +kernel
theorem lat5_all (b : UInt8) : (lat5 b = true → 0 ≤ Lib.indexByte [129, 141, 143, 144, 157] b) ∧ (lat5 b = false → Lib.indexByte [129, 141, 143, 144, 157] b < 0) := lat5_fin b.toFin
theorem lat5_c (b : UInt8) (w : World) : Calls Tryz.prog 41 #[.string ⟨#[129, 141, 143, 144, 157]⟩, .int .u8 (b.toNat : Int)] w fun e w' => ∃ k : Int, e = .returned (.int .i64 k) ∧ (lat5 b = true → 0 ≤ k) ∧ (lat5 b = false → k < 0) ∧ w = w' :=
  (indexByte_c ⟨#[129, 141, 143, 144, 157]⟩ (b.toNat : Int) w).mono fun e w' ⟨h1, h2⟩ => by
    have e0 : ((b.toNat : Int)).toNat.toUInt8 = b := by simp
    rw [e0] at h1
    exact ⟨_, h1, (lat5_all b).1, (lat5_all b).2, h2.symm⟩
end Go.Proofs.YtmdnpgcnbpppfaaGreatDoor

/- The reference's piece: the ways of Latin. -/
namespace Go.Proofs.YtmdnpgcnbpppfaaGreatDoor
open Go.RowKit
attribute [local go_sem ↓] run_eqS run_neS
attribute [local go_sem] byte_at0 byte_at20 byte_at21 w64 S.v and63 and31 and15 and7 kw kw256
attribute [local go_sem] run_store_fn

set_option maxRecDepth 100000 in
set_option maxHeartbeats 1000000 in
theorem pieceL_a (s : ByteArray) (md : Int) (w : World) (hs : 0 < s.size) (h : lat5 s[0] = true) : Calls Tryz.prog 46 #[.int .i64 4, .string s, .int .i64 md] w (PP w [-1] 1 0) := by
  have H := hid (fun w1 => lat5_c s[0] w1)
  go_enter Tryz.func46, Tryz.ntmps46
  go_wp2_with fail
  refine (H.out _).mono ?_
  rintro r w' ⟨k, rfl, hk, _, rfl⟩
  replace hk := hk h
  clear h
  go_wp2_with fail
  go_ret3
  exact ⟨_, rfl, Out.one' _ _ (w.heap.size + 1 + 1 + 1) _ (by simp) (by omega), (by repeat (first | exact Below.refl _ _ | assumption | (refine Below.alloc ?_ (by first | (simp; done) | (simp; omega)) _) | (refine Below.setCell ?_ (by first | (simp; done) | (simp; omega)) _) | (refine Below.drew ?_)))⟩
set_option maxRecDepth 100000 in
set_option maxHeartbeats 1000000 in
theorem pieceL_b (s : ByteArray) (md : Int) (w : World) (hs : 0 < s.size) (h : lat5 s[0] = false) (h1 : 128 ≤ (s[0].toNat : Int)) (h2 : (s[0].toNat : Int) ≤ 159) : Calls Tryz.prog 46 #[.int .i64 4, .string s, .int .i64 md] w (PP w [8192 + (s[0].toNat : Int)] 1 0) := by
  have H := hid (fun w1 => lat5_c s[0] w1)
  have hb := s[0].toNat_lt
  go_enter Tryz.func46, Tryz.ntmps46
  go_wp2_with fail
  refine (H.out _).mono ?_
  rintro r w' ⟨k, rfl, _, hk, rfl⟩
  replace hk := hk h
  clear h
  go_wp2_with fail
  refine (inR_yes _ _ _ _ (by omega) (by omega)).mono ?_
  rintro r w' ⟨rfl, rfl⟩
  go_wp2_with fail
  go_ret3
  exact ⟨_, rfl, Out.one' _ _ (w.heap.size + 1 + 1 + 1 + 1) _ (by simp) (by omega), (by repeat (first | exact Below.refl _ _ | assumption | (refine Below.alloc ?_ (by first | (simp; done) | (simp; omega)) _) | (refine Below.setCell ?_ (by first | (simp; done) | (simp; omega)) _) | (refine Below.drew ?_)))⟩
set_option maxRecDepth 100000 in
set_option maxHeartbeats 1000000 in
theorem pieceL_c (s : ByteArray) (md : Int) (w : World) (hs : 0 < s.size) (h : lat5 s[0] = false) (h1 : (s[0].toNat : Int) < 128 ∨ 159 < (s[0].toNat : Int)) : Calls Tryz.prog 46 #[.int .i64 4, .string s, .int .i64 md] w (PP w [(s[0].toNat : Int)] 1 0) := by
  have H := hid (fun w1 => lat5_c s[0] w1)
  have hb := s[0].toNat_lt
  replace h1 := hid h1
  go_enter Tryz.func46, Tryz.ntmps46
  go_wp2_with fail
  refine (H.out _).mono ?_
  rintro r w' ⟨k, rfl, _, hk, rfl⟩
  replace hk := hk h
  clear h
  go_wp2_with fail
  refine (inR_no _ _ _ _ (by have := h1.out; omega)).mono ?_
  rintro r w' ⟨rfl, rfl⟩
  go_wp2_with fail
  go_ret3
  exact ⟨_, rfl, Out.one' _ _ (w.heap.size + 1 + 1 + 1 + 1) _ (by simp) (by omega), (by repeat (first | exact Below.refl _ _ | assumption | (refine Below.alloc ?_ (by first | (simp; done) | (simp; omega)) _) | (refine Below.setCell ?_ (by first | (simp; done) | (simp; omega)) _) | (refine Below.drew ?_)))⟩
end Go.Proofs.YtmdnpgcnbpppfaaGreatDoor
