/- The walks over label.Trim and label.Find. -/
import Derived.Test.YtbnjhcdgiieghaaDoorLLower
import Derived.Test.YtbnjhcdgiieghaaDoorLShelf
namespace Go.Proofs.YtbnjhcdgiieghaaDoor
open Go.RowKit Go.Shelf Go.Lib

theorem dropWhile_le (p : UInt8 → Bool) : ∀ l : List UInt8, (l.dropWhile p).length ≤ l.length
  | [] => Nat.le_refl _
  | a :: r => by
    simp only [List.dropWhile]
    split
    · exact Nat.le_succ_of_le (dropWhile_le p r)
    · exact Nat.le_refl _
theorem trimS_le (l cs : List UInt8) : (Lib.trimS l cs).length ≤ l.length := by
  unfold Lib.trimS Lib.trimLeftS Lib.trimRightS
  refine Nat.le_trans (dropWhile_le _ _) ?_
  rw [List.length_reverse]
  exact Nat.le_trans (dropWhile_le _ _) (by simp)

set_option maxHeartbeats 400000 in
theorem trim_any (s : ByteArray) (w : World) (hs : s.size ≤ 1125899906842624) :
    Calls Tryd.prog 8 #[.string s] w fun e w' => e = .returned (.string ⟨(trimL s.data.toList).toArray⟩) ∧ Below w.heap.size w w' := by
  have hcon := Any.strings_Trim_laid lays160 (by kernel_rfl) s ⟨#[32, 9, 10, 12, 13]⟩ w (by omega) (by decide) (ascii_of_all (by decide))
  change Calls Tryd.prog 26 _ _ (fun e w' => e = .returned (.string ⟨(Lib.trimS s.data.toList spaces).toArray⟩) ∧ Below w.heap.size w w') at hcon
  have hle := trimS_le s.data.toList spaces
  have hz : (⟨(Lib.trimS s.data.toList spaces).toArray⟩ : ByteArray).size ≤ 1125899906842624 := by
    rw [Lib.size_mk]; simp at hle; omega
  have hlow := fun w1 => lower_any ⟨(Lib.trimS s.data.toList spaces).toArray⟩ w1 hz
  clear hle hz
  change ∀ w1, Calls _ _ _ _ (fun e w' => e = .returned (.string ⟨(trimL s.data.toList).toArray⟩) ∧ Below w1.heap.size w1 w') at hlow
  generalize (⟨(Lib.trimS s.data.toList spaces).toArray⟩ : ByteArray) = r at hcon hlow
  generalize (⟨(trimL s.data.toList).toArray⟩ : ByteArray) = t at hlow ⊢
  have HC := hid hcon
  have HL := hid hlow
  clear hcon hlow
  go_enter Tryd.func8, Tryd.ntmps8
  go_wp2_with fail
  refine HC.out.mono ?_
  rintro e w1 ⟨rfl, hb1⟩
  go_wp2_with fail
  refine (HL.out _).mono ?_
  rintro e w2 ⟨rfl, hb2⟩
  go_wp2_with fail
  go_ret
  exact ⟨rfl, hb1.trans (hb2.mono hb1.size)⟩

set_option maxHeartbeats 400000 in
theorem find_long (s : ByteArray) (w : World) (hd : decide ((40 : Int) < (s.size : Int)) = true) :
    Calls Tryd.prog 10 #[.string s] w fun e w' => e = .returned (.int .i64 0) ∧ Below w.heap.size w w' := by
  go_enter Tryd.func10, Tryd.ntmps10
  go_wp2_with fail
  go_ret
  exact ⟨rfl, Below.refl _ _⟩

set_option maxHeartbeats 400000 in
theorem find_case0 (s : ByteArray) (t : List UInt8) (w : World) (hd : decide ((40 : Int) < (s.size : Int)) = false)
    (HT : Hid (Calls Tryd.prog 8 #[.string s] w fun e w' => e = .returned (.string ⟨t.toArray⟩) ∧ Below w.heap.size w w'))
    (f0 : (t == [117, 116, 102, 45, 56]) = true) :
    Calls Tryd.prog 10 #[.string s] w fun e w' => e = .returned (.int .i64 1) ∧ Below w.heap.size w w' := by
  go_enter Tryd.func10, Tryd.ntmps10
  go_wp2_with fail
  refine HT.out.mono ?_
  rintro e w1 ⟨rfl, hb1⟩
  go_wp2_with fail
  go_ret
  exact ⟨rfl, hb1⟩
set_option maxHeartbeats 400000 in
theorem find_case1 (s : ByteArray) (t : List UInt8) (w : World) (hd : decide ((40 : Int) < (s.size : Int)) = false)
    (HT : Hid (Calls Tryd.prog 8 #[.string s] w fun e w' => e = .returned (.string ⟨t.toArray⟩) ∧ Below w.heap.size w w'))
    (f0 : (t == [117, 116, 102, 45, 56]) = false) (f1 : (t == [117, 116, 102, 56]) = true) :
    Calls Tryd.prog 10 #[.string s] w fun e w' => e = .returned (.int .i64 1) ∧ Below w.heap.size w w' := by
  go_enter Tryd.func10, Tryd.ntmps10
  go_wp2_with fail
  refine HT.out.mono ?_
  rintro e w1 ⟨rfl, hb1⟩
  go_wp2_with fail
  go_ret
  exact ⟨rfl, hb1⟩
set_option maxHeartbeats 400000 in
theorem find_case2 (s : ByteArray) (t : List UInt8) (w : World) (hd : decide ((40 : Int) < (s.size : Int)) = false)
    (HT : Hid (Calls Tryd.prog 8 #[.string s] w fun e w' => e = .returned (.string ⟨t.toArray⟩) ∧ Below w.heap.size w w'))
    (f0 : (t == [117, 116, 102, 45, 56]) = false) (f1 : (t == [117, 116, 102, 56]) = false) (f2 : (t == [117, 110, 105, 99, 111, 100, 101, 45, 49, 45, 49, 45, 117, 116, 102, 45, 56]) = true) :
    Calls Tryd.prog 10 #[.string s] w fun e w' => e = .returned (.int .i64 1) ∧ Below w.heap.size w w' := by
  go_enter Tryd.func10, Tryd.ntmps10
  go_wp2_with fail
  refine HT.out.mono ?_
  rintro e w1 ⟨rfl, hb1⟩
  go_wp2_with fail
  go_ret
  exact ⟨rfl, hb1⟩
set_option maxHeartbeats 400000 in
theorem find_case3 (s : ByteArray) (t : List UInt8) (w : World) (hd : decide ((40 : Int) < (s.size : Int)) = false)
    (HT : Hid (Calls Tryd.prog 8 #[.string s] w fun e w' => e = .returned (.string ⟨t.toArray⟩) ∧ Below w.heap.size w w'))
    (f0 : (t == [117, 116, 102, 45, 56]) = false) (f1 : (t == [117, 116, 102, 56]) = false) (f2 : (t == [117, 110, 105, 99, 111, 100, 101, 45, 49, 45, 49, 45, 117, 116, 102, 45, 56]) = false) (f3 : (t == [115, 104, 105, 102, 116]) = true) :
    Calls Tryd.prog 10 #[.string s] w fun e w' => e = .returned (.int .i64 2) ∧ Below w.heap.size w w' := by
  go_enter Tryd.func10, Tryd.ntmps10
  go_wp2_with fail
  refine HT.out.mono ?_
  rintro e w1 ⟨rfl, hb1⟩
  go_wp2_with fail
  go_ret
  exact ⟨rfl, hb1⟩
set_option maxHeartbeats 400000 in
theorem find_case4 (s : ByteArray) (t : List UInt8) (w : World) (hd : decide ((40 : Int) < (s.size : Int)) = false)
    (HT : Hid (Calls Tryd.prog 8 #[.string s] w fun e w' => e = .returned (.string ⟨t.toArray⟩) ∧ Below w.heap.size w w'))
    (f0 : (t == [117, 116, 102, 45, 56]) = false) (f1 : (t == [117, 116, 102, 56]) = false) (f2 : (t == [117, 110, 105, 99, 111, 100, 101, 45, 49, 45, 49, 45, 117, 116, 102, 45, 56]) = false) (f3 : (t == [115, 104, 105, 102, 116]) = false) (f4 : (t == [105, 115, 111, 45, 50, 48, 50, 50]) = true) :
    Calls Tryd.prog 10 #[.string s] w fun e w' => e = .returned (.int .i64 2) ∧ Below w.heap.size w w' := by
  go_enter Tryd.func10, Tryd.ntmps10
  go_wp2_with fail
  refine HT.out.mono ?_
  rintro e w1 ⟨rfl, hb1⟩
  go_wp2_with fail
  go_ret
  exact ⟨rfl, hb1⟩
set_option maxHeartbeats 400000 in
theorem find_case5 (s : ByteArray) (t : List UInt8) (w : World) (hd : decide ((40 : Int) < (s.size : Int)) = false)
    (HT : Hid (Calls Tryd.prog 8 #[.string s] w fun e w' => e = .returned (.string ⟨t.toArray⟩) ∧ Below w.heap.size w w'))
    (f0 : (t == [117, 116, 102, 45, 56]) = false) (f1 : (t == [117, 116, 102, 56]) = false) (f2 : (t == [117, 110, 105, 99, 111, 100, 101, 45, 49, 45, 49, 45, 117, 116, 102, 45, 56]) = false) (f3 : (t == [115, 104, 105, 102, 116]) = false) (f4 : (t == [105, 115, 111, 45, 50, 48, 50, 50]) = false) (f5 : (t == [116, 119, 105, 110]) = true) :
    Calls Tryd.prog 10 #[.string s] w fun e w' => e = .returned (.int .i64 3) ∧ Below w.heap.size w w' := by
  go_enter Tryd.func10, Tryd.ntmps10
  go_wp2_with fail
  refine HT.out.mono ?_
  rintro e w1 ⟨rfl, hb1⟩
  go_wp2_with fail
  go_ret
  exact ⟨rfl, hb1⟩
set_option maxHeartbeats 400000 in
theorem find_case6 (s : ByteArray) (t : List UInt8) (w : World) (hd : decide ((40 : Int) < (s.size : Int)) = false)
    (HT : Hid (Calls Tryd.prog 8 #[.string s] w fun e w' => e = .returned (.string ⟨t.toArray⟩) ∧ Below w.heap.size w w'))
    (f0 : (t == [117, 116, 102, 45, 56]) = false) (f1 : (t == [117, 116, 102, 56]) = false) (f2 : (t == [117, 110, 105, 99, 111, 100, 101, 45, 49, 45, 49, 45, 117, 116, 102, 45, 56]) = false) (f3 : (t == [115, 104, 105, 102, 116]) = false) (f4 : (t == [105, 115, 111, 45, 50, 48, 50, 50]) = false) (f5 : (t == [116, 119, 105, 110]) = false) (f6 : (t == [120, 45, 116, 119, 105, 110]) = true) :
    Calls Tryd.prog 10 #[.string s] w fun e w' => e = .returned (.int .i64 3) ∧ Below w.heap.size w w' := by
  go_enter Tryd.func10, Tryd.ntmps10
  go_wp2_with fail
  refine HT.out.mono ?_
  rintro e w1 ⟨rfl, hb1⟩
  go_wp2_with fail
  go_ret
  exact ⟨rfl, hb1⟩
set_option maxHeartbeats 400000 in
theorem find_case7 (s : ByteArray) (t : List UInt8) (w : World) (hd : decide ((40 : Int) < (s.size : Int)) = false)
    (HT : Hid (Calls Tryd.prog 8 #[.string s] w fun e w' => e = .returned (.string ⟨t.toArray⟩) ∧ Below w.heap.size w w'))
    (f0 : (t == [117, 116, 102, 45, 56]) = false) (f1 : (t == [117, 116, 102, 56]) = false) (f2 : (t == [117, 110, 105, 99, 111, 100, 101, 45, 49, 45, 49, 45, 117, 116, 102, 45, 56]) = false) (f3 : (t == [115, 104, 105, 102, 116]) = false) (f4 : (t == [105, 115, 111, 45, 50, 48, 50, 50]) = false) (f5 : (t == [116, 119, 105, 110]) = false) (f6 : (t == [120, 45, 116, 119, 105, 110]) = false) (f7 : (t == [109, 115, 95, 116, 119, 105, 110]) = true) :
    Calls Tryd.prog 10 #[.string s] w fun e w' => e = .returned (.int .i64 3) ∧ Below w.heap.size w w' := by
  go_enter Tryd.func10, Tryd.ntmps10
  go_wp2_with fail
  refine HT.out.mono ?_
  rintro e w1 ⟨rfl, hb1⟩
  go_wp2_with fail
  go_ret
  exact ⟨rfl, hb1⟩
set_option maxHeartbeats 400000 in
theorem find_case8 (s : ByteArray) (t : List UInt8) (w : World) (hd : decide ((40 : Int) < (s.size : Int)) = false)
    (HT : Hid (Calls Tryd.prog 8 #[.string s] w fun e w' => e = .returned (.string ⟨t.toArray⟩) ∧ Below w.heap.size w w'))
    (f0 : (t == [117, 116, 102, 45, 56]) = false) (f1 : (t == [117, 116, 102, 56]) = false) (f2 : (t == [117, 110, 105, 99, 111, 100, 101, 45, 49, 45, 49, 45, 117, 116, 102, 45, 56]) = false) (f3 : (t == [115, 104, 105, 102, 116]) = false) (f4 : (t == [105, 115, 111, 45, 50, 48, 50, 50]) = false) (f5 : (t == [116, 119, 105, 110]) = false) (f6 : (t == [120, 45, 116, 119, 105, 110]) = false) (f7 : (t == [109, 115, 95, 116, 119, 105, 110]) = false) (f8 : (t == [108, 97, 116, 105, 110]) = true) :
    Calls Tryd.prog 10 #[.string s] w fun e w' => e = .returned (.int .i64 4) ∧ Below w.heap.size w w' := by
  go_enter Tryd.func10, Tryd.ntmps10
  go_wp2_with fail
  refine HT.out.mono ?_
  rintro e w1 ⟨rfl, hb1⟩
  go_wp2_with fail
  go_ret
  exact ⟨rfl, hb1⟩
set_option maxHeartbeats 400000 in
theorem find_case9 (s : ByteArray) (t : List UInt8) (w : World) (hd : decide ((40 : Int) < (s.size : Int)) = false)
    (HT : Hid (Calls Tryd.prog 8 #[.string s] w fun e w' => e = .returned (.string ⟨t.toArray⟩) ∧ Below w.heap.size w w'))
    (f0 : (t == [117, 116, 102, 45, 56]) = false) (f1 : (t == [117, 116, 102, 56]) = false) (f2 : (t == [117, 110, 105, 99, 111, 100, 101, 45, 49, 45, 49, 45, 117, 116, 102, 45, 56]) = false) (f3 : (t == [115, 104, 105, 102, 116]) = false) (f4 : (t == [105, 115, 111, 45, 50, 48, 50, 50]) = false) (f5 : (t == [116, 119, 105, 110]) = false) (f6 : (t == [120, 45, 116, 119, 105, 110]) = false) (f7 : (t == [109, 115, 95, 116, 119, 105, 110]) = false) (f8 : (t == [108, 97, 116, 105, 110]) = false) (f9 : (t == [108, 97, 116, 105, 110, 49]) = true) :
    Calls Tryd.prog 10 #[.string s] w fun e w' => e = .returned (.int .i64 4) ∧ Below w.heap.size w w' := by
  go_enter Tryd.func10, Tryd.ntmps10
  go_wp2_with fail
  refine HT.out.mono ?_
  rintro e w1 ⟨rfl, hb1⟩
  go_wp2_with fail
  go_ret
  exact ⟨rfl, hb1⟩
set_option maxHeartbeats 400000 in
theorem find_case10 (s : ByteArray) (t : List UInt8) (w : World) (hd : decide ((40 : Int) < (s.size : Int)) = false)
    (HT : Hid (Calls Tryd.prog 8 #[.string s] w fun e w' => e = .returned (.string ⟨t.toArray⟩) ∧ Below w.heap.size w w'))
    (f0 : (t == [117, 116, 102, 45, 56]) = false) (f1 : (t == [117, 116, 102, 56]) = false) (f2 : (t == [117, 110, 105, 99, 111, 100, 101, 45, 49, 45, 49, 45, 117, 116, 102, 45, 56]) = false) (f3 : (t == [115, 104, 105, 102, 116]) = false) (f4 : (t == [105, 115, 111, 45, 50, 48, 50, 50]) = false) (f5 : (t == [116, 119, 105, 110]) = false) (f6 : (t == [120, 45, 116, 119, 105, 110]) = false) (f7 : (t == [109, 115, 95, 116, 119, 105, 110]) = false) (f8 : (t == [108, 97, 116, 105, 110]) = false) (f9 : (t == [108, 97, 116, 105, 110, 49]) = false) (f10 : (t == [97, 115, 99, 105, 105]) = true) :
    Calls Tryd.prog 10 #[.string s] w fun e w' => e = .returned (.int .i64 4) ∧ Below w.heap.size w w' := by
  go_enter Tryd.func10, Tryd.ntmps10
  go_wp2_with fail
  refine HT.out.mono ?_
  rintro e w1 ⟨rfl, hb1⟩
  go_wp2_with fail
  go_ret
  exact ⟨rfl, hb1⟩
set_option maxHeartbeats 400000 in
theorem find_case11 (s : ByteArray) (t : List UInt8) (w : World) (hd : decide ((40 : Int) < (s.size : Int)) = false)
    (HT : Hid (Calls Tryd.prog 8 #[.string s] w fun e w' => e = .returned (.string ⟨t.toArray⟩) ∧ Below w.heap.size w w'))
    (f0 : (t == [117, 116, 102, 45, 56]) = false) (f1 : (t == [117, 116, 102, 56]) = false) (f2 : (t == [117, 110, 105, 99, 111, 100, 101, 45, 49, 45, 49, 45, 117, 116, 102, 45, 56]) = false) (f3 : (t == [115, 104, 105, 102, 116]) = false) (f4 : (t == [105, 115, 111, 45, 50, 48, 50, 50]) = false) (f5 : (t == [116, 119, 105, 110]) = false) (f6 : (t == [120, 45, 116, 119, 105, 110]) = false) (f7 : (t == [109, 115, 95, 116, 119, 105, 110]) = false) (f8 : (t == [108, 97, 116, 105, 110]) = false) (f9 : (t == [108, 97, 116, 105, 110, 49]) = false) (f10 : (t == [97, 115, 99, 105, 105]) = false) (f11 : (t == [117, 115, 45, 97, 115, 99, 105, 105]) = true) :
    Calls Tryd.prog 10 #[.string s] w fun e w' => e = .returned (.int .i64 4) ∧ Below w.heap.size w w' := by
  go_enter Tryd.func10, Tryd.ntmps10
  go_wp2_with fail
  refine HT.out.mono ?_
  rintro e w1 ⟨rfl, hb1⟩
  go_wp2_with fail
  go_ret
  exact ⟨rfl, hb1⟩
set_option maxHeartbeats 400000 in
theorem find_case12 (s : ByteArray) (t : List UInt8) (w : World) (hd : decide ((40 : Int) < (s.size : Int)) = false)
    (HT : Hid (Calls Tryd.prog 8 #[.string s] w fun e w' => e = .returned (.string ⟨t.toArray⟩) ∧ Below w.heap.size w w'))
    (f0 : (t == [117, 116, 102, 45, 56]) = false) (f1 : (t == [117, 116, 102, 56]) = false) (f2 : (t == [117, 110, 105, 99, 111, 100, 101, 45, 49, 45, 49, 45, 117, 116, 102, 45, 56]) = false) (f3 : (t == [115, 104, 105, 102, 116]) = false) (f4 : (t == [105, 115, 111, 45, 50, 48, 50, 50]) = false) (f5 : (t == [116, 119, 105, 110]) = false) (f6 : (t == [120, 45, 116, 119, 105, 110]) = false) (f7 : (t == [109, 115, 95, 116, 119, 105, 110]) = false) (f8 : (t == [108, 97, 116, 105, 110]) = false) (f9 : (t == [108, 97, 116, 105, 110, 49]) = false) (f10 : (t == [97, 115, 99, 105, 105]) = false) (f11 : (t == [117, 115, 45, 97, 115, 99, 105, 105]) = false) (f12 : (t == [119, 105, 110, 100, 111, 119, 115, 45, 49, 50, 53, 50]) = true) :
    Calls Tryd.prog 10 #[.string s] w fun e w' => e = .returned (.int .i64 4) ∧ Below w.heap.size w w' := by
  go_enter Tryd.func10, Tryd.ntmps10
  go_wp2_with fail
  refine HT.out.mono ?_
  rintro e w1 ⟨rfl, hb1⟩
  go_wp2_with fail
  go_ret
  exact ⟨rfl, hb1⟩
set_option maxHeartbeats 400000 in
theorem find_case13 (s : ByteArray) (t : List UInt8) (w : World) (hd : decide ((40 : Int) < (s.size : Int)) = false)
    (HT : Hid (Calls Tryd.prog 8 #[.string s] w fun e w' => e = .returned (.string ⟨t.toArray⟩) ∧ Below w.heap.size w w'))
    (f0 : (t == [117, 116, 102, 45, 56]) = false) (f1 : (t == [117, 116, 102, 56]) = false) (f2 : (t == [117, 110, 105, 99, 111, 100, 101, 45, 49, 45, 49, 45, 117, 116, 102, 45, 56]) = false) (f3 : (t == [115, 104, 105, 102, 116]) = false) (f4 : (t == [105, 115, 111, 45, 50, 48, 50, 50]) = false) (f5 : (t == [116, 119, 105, 110]) = false) (f6 : (t == [120, 45, 116, 119, 105, 110]) = false) (f7 : (t == [109, 115, 95, 116, 119, 105, 110]) = false) (f8 : (t == [108, 97, 116, 105, 110]) = false) (f9 : (t == [108, 97, 116, 105, 110, 49]) = false) (f10 : (t == [97, 115, 99, 105, 105]) = false) (f11 : (t == [117, 115, 45, 97, 115, 99, 105, 105]) = false) (f12 : (t == [119, 105, 110, 100, 111, 119, 115, 45, 49, 50, 53, 50]) = false) (f13 : (t == [117, 116, 102, 45, 49, 54]) = true) :
    Calls Tryd.prog 10 #[.string s] w fun e w' => e = .returned (.int .i64 5) ∧ Below w.heap.size w w' := by
  go_enter Tryd.func10, Tryd.ntmps10
  go_wp2_with fail
  refine HT.out.mono ?_
  rintro e w1 ⟨rfl, hb1⟩
  go_wp2_with fail
  go_ret
  exact ⟨rfl, hb1⟩
set_option maxHeartbeats 400000 in
theorem find_case14 (s : ByteArray) (t : List UInt8) (w : World) (hd : decide ((40 : Int) < (s.size : Int)) = false)
    (HT : Hid (Calls Tryd.prog 8 #[.string s] w fun e w' => e = .returned (.string ⟨t.toArray⟩) ∧ Below w.heap.size w w'))
    (f0 : (t == [117, 116, 102, 45, 56]) = false) (f1 : (t == [117, 116, 102, 56]) = false) (f2 : (t == [117, 110, 105, 99, 111, 100, 101, 45, 49, 45, 49, 45, 117, 116, 102, 45, 56]) = false) (f3 : (t == [115, 104, 105, 102, 116]) = false) (f4 : (t == [105, 115, 111, 45, 50, 48, 50, 50]) = false) (f5 : (t == [116, 119, 105, 110]) = false) (f6 : (t == [120, 45, 116, 119, 105, 110]) = false) (f7 : (t == [109, 115, 95, 116, 119, 105, 110]) = false) (f8 : (t == [108, 97, 116, 105, 110]) = false) (f9 : (t == [108, 97, 116, 105, 110, 49]) = false) (f10 : (t == [97, 115, 99, 105, 105]) = false) (f11 : (t == [117, 115, 45, 97, 115, 99, 105, 105]) = false) (f12 : (t == [119, 105, 110, 100, 111, 119, 115, 45, 49, 50, 53, 50]) = false) (f13 : (t == [117, 116, 102, 45, 49, 54]) = false) (f14 : (t == [117, 116, 102, 45, 49, 54, 108, 101]) = true) :
    Calls Tryd.prog 10 #[.string s] w fun e w' => e = .returned (.int .i64 5) ∧ Below w.heap.size w w' := by
  go_enter Tryd.func10, Tryd.ntmps10
  go_wp2_with fail
  refine HT.out.mono ?_
  rintro e w1 ⟨rfl, hb1⟩
  go_wp2_with fail
  go_ret
  exact ⟨rfl, hb1⟩
set_option maxHeartbeats 400000 in
theorem find_case15 (s : ByteArray) (t : List UInt8) (w : World) (hd : decide ((40 : Int) < (s.size : Int)) = false)
    (HT : Hid (Calls Tryd.prog 8 #[.string s] w fun e w' => e = .returned (.string ⟨t.toArray⟩) ∧ Below w.heap.size w w'))
    (f0 : (t == [117, 116, 102, 45, 56]) = false) (f1 : (t == [117, 116, 102, 56]) = false) (f2 : (t == [117, 110, 105, 99, 111, 100, 101, 45, 49, 45, 49, 45, 117, 116, 102, 45, 56]) = false) (f3 : (t == [115, 104, 105, 102, 116]) = false) (f4 : (t == [105, 115, 111, 45, 50, 48, 50, 50]) = false) (f5 : (t == [116, 119, 105, 110]) = false) (f6 : (t == [120, 45, 116, 119, 105, 110]) = false) (f7 : (t == [109, 115, 95, 116, 119, 105, 110]) = false) (f8 : (t == [108, 97, 116, 105, 110]) = false) (f9 : (t == [108, 97, 116, 105, 110, 49]) = false) (f10 : (t == [97, 115, 99, 105, 105]) = false) (f11 : (t == [117, 115, 45, 97, 115, 99, 105, 105]) = false) (f12 : (t == [119, 105, 110, 100, 111, 119, 115, 45, 49, 50, 53, 50]) = false) (f13 : (t == [117, 116, 102, 45, 49, 54]) = false) (f14 : (t == [117, 116, 102, 45, 49, 54, 108, 101]) = false) (f15 : (t == [117, 116, 102, 45, 49, 54, 98, 101]) = true) :
    Calls Tryd.prog 10 #[.string s] w fun e w' => e = .returned (.int .i64 6) ∧ Below w.heap.size w w' := by
  go_enter Tryd.func10, Tryd.ntmps10
  go_wp2_with fail
  refine HT.out.mono ?_
  rintro e w1 ⟨rfl, hb1⟩
  go_wp2_with fail
  go_ret
  exact ⟨rfl, hb1⟩
set_option maxHeartbeats 400000 in
theorem find_case16 (s : ByteArray) (t : List UInt8) (w : World) (hd : decide ((40 : Int) < (s.size : Int)) = false)
    (HT : Hid (Calls Tryd.prog 8 #[.string s] w fun e w' => e = .returned (.string ⟨t.toArray⟩) ∧ Below w.heap.size w w'))
    (f0 : (t == [117, 116, 102, 45, 56]) = false) (f1 : (t == [117, 116, 102, 56]) = false) (f2 : (t == [117, 110, 105, 99, 111, 100, 101, 45, 49, 45, 49, 45, 117, 116, 102, 45, 56]) = false) (f3 : (t == [115, 104, 105, 102, 116]) = false) (f4 : (t == [105, 115, 111, 45, 50, 48, 50, 50]) = false) (f5 : (t == [116, 119, 105, 110]) = false) (f6 : (t == [120, 45, 116, 119, 105, 110]) = false) (f7 : (t == [109, 115, 95, 116, 119, 105, 110]) = false) (f8 : (t == [108, 97, 116, 105, 110]) = false) (f9 : (t == [108, 97, 116, 105, 110, 49]) = false) (f10 : (t == [97, 115, 99, 105, 105]) = false) (f11 : (t == [117, 115, 45, 97, 115, 99, 105, 105]) = false) (f12 : (t == [119, 105, 110, 100, 111, 119, 115, 45, 49, 50, 53, 50]) = false) (f13 : (t == [117, 116, 102, 45, 49, 54]) = false) (f14 : (t == [117, 116, 102, 45, 49, 54, 108, 101]) = false) (f15 : (t == [117, 116, 102, 45, 49, 54, 98, 101]) = false) :
    Calls Tryd.prog 10 #[.string s] w fun e w' => e = .returned (.int .i64 0) ∧ Below w.heap.size w w' := by
  go_enter Tryd.func10, Tryd.ntmps10
  go_wp2_with fail
  refine HT.out.mono ?_
  rintro e w1 ⟨rfl, hb1⟩
  go_wp2_with fail
  go_ret
  exact ⟨rfl, hb1⟩

theorem find_any (s : ByteArray) (w : World) (hs : s.size ≤ 1125899906842624) :
    Calls Tryd.prog 10 #[.string s] w fun e w' => e = .returned (.int .i64 (findL s.data.toList)) ∧ Below w.heap.size w w' := by
  by_cases hlen : 40 < s.size
  · have hf : findL s.data.toList = 0 := by unfold findL; rw [if_pos (by simpa using hlen)]
    rw [hf]
    exact find_long s w (by simp; omega)
  · have hf : findL s.data.toList = labelOf (trimL s.data.toList) := by unfold findL; rw [if_neg (by simpa using hlen)]
    rw [hf]
    have hd : decide ((40 : Int) < (s.size : Int)) = false := by simp; omega
    have HT := hid (trim_any s w hs)
    generalize trimL s.data.toList = t at HT ⊢
    cases f0 : (t == [117, 116, 102, 45, 56]) with
    | true =>
      have e : labelOf t = 1 := by unfold labelOf; simp only [f0, if_true]
      rw [e]
      exact find_case0 s t w hd HT f0
    | false =>
    cases f1 : (t == [117, 116, 102, 56]) with
    | true =>
      have e : labelOf t = 1 := by unfold labelOf; simp only [f0, f1, if_true, Bool.false_eq_true, if_false]
      rw [e]
      exact find_case1 s t w hd HT f0 f1
    | false =>
    cases f2 : (t == [117, 110, 105, 99, 111, 100, 101, 45, 49, 45, 49, 45, 117, 116, 102, 45, 56]) with
    | true =>
      have e : labelOf t = 1 := by unfold labelOf; simp only [f0, f1, f2, if_true, Bool.false_eq_true, if_false]
      rw [e]
      exact find_case2 s t w hd HT f0 f1 f2
    | false =>
    cases f3 : (t == [115, 104, 105, 102, 116]) with
    | true =>
      have e : labelOf t = 2 := by unfold labelOf; simp only [f0, f1, f2, f3, if_true, Bool.false_eq_true, if_false]
      rw [e]
      exact find_case3 s t w hd HT f0 f1 f2 f3
    | false =>
    cases f4 : (t == [105, 115, 111, 45, 50, 48, 50, 50]) with
    | true =>
      have e : labelOf t = 2 := by unfold labelOf; simp only [f0, f1, f2, f3, f4, if_true, Bool.false_eq_true, if_false]
      rw [e]
      exact find_case4 s t w hd HT f0 f1 f2 f3 f4
    | false =>
    cases f5 : (t == [116, 119, 105, 110]) with
    | true =>
      have e : labelOf t = 3 := by unfold labelOf; simp only [f0, f1, f2, f3, f4, f5, if_true, Bool.false_eq_true, if_false]
      rw [e]
      exact find_case5 s t w hd HT f0 f1 f2 f3 f4 f5
    | false =>
    cases f6 : (t == [120, 45, 116, 119, 105, 110]) with
    | true =>
      have e : labelOf t = 3 := by unfold labelOf; simp only [f0, f1, f2, f3, f4, f5, f6, if_true, Bool.false_eq_true, if_false]
      rw [e]
      exact find_case6 s t w hd HT f0 f1 f2 f3 f4 f5 f6
    | false =>
    cases f7 : (t == [109, 115, 95, 116, 119, 105, 110]) with
    | true =>
      have e : labelOf t = 3 := by unfold labelOf; simp only [f0, f1, f2, f3, f4, f5, f6, f7, if_true, Bool.false_eq_true, if_false]
      rw [e]
      exact find_case7 s t w hd HT f0 f1 f2 f3 f4 f5 f6 f7
    | false =>
    cases f8 : (t == [108, 97, 116, 105, 110]) with
    | true =>
      have e : labelOf t = 4 := by unfold labelOf; simp only [f0, f1, f2, f3, f4, f5, f6, f7, f8, if_true, Bool.false_eq_true, if_false]
      rw [e]
      exact find_case8 s t w hd HT f0 f1 f2 f3 f4 f5 f6 f7 f8
    | false =>
    cases f9 : (t == [108, 97, 116, 105, 110, 49]) with
    | true =>
      have e : labelOf t = 4 := by unfold labelOf; simp only [f0, f1, f2, f3, f4, f5, f6, f7, f8, f9, if_true, Bool.false_eq_true, if_false]
      rw [e]
      exact find_case9 s t w hd HT f0 f1 f2 f3 f4 f5 f6 f7 f8 f9
    | false =>
    cases f10 : (t == [97, 115, 99, 105, 105]) with
    | true =>
      have e : labelOf t = 4 := by unfold labelOf; simp only [f0, f1, f2, f3, f4, f5, f6, f7, f8, f9, f10, if_true, Bool.false_eq_true, if_false]
      rw [e]
      exact find_case10 s t w hd HT f0 f1 f2 f3 f4 f5 f6 f7 f8 f9 f10
    | false =>
    cases f11 : (t == [117, 115, 45, 97, 115, 99, 105, 105]) with
    | true =>
      have e : labelOf t = 4 := by unfold labelOf; simp only [f0, f1, f2, f3, f4, f5, f6, f7, f8, f9, f10, f11, if_true, Bool.false_eq_true, if_false]
      rw [e]
      exact find_case11 s t w hd HT f0 f1 f2 f3 f4 f5 f6 f7 f8 f9 f10 f11
    | false =>
    cases f12 : (t == [119, 105, 110, 100, 111, 119, 115, 45, 49, 50, 53, 50]) with
    | true =>
      have e : labelOf t = 4 := by unfold labelOf; simp only [f0, f1, f2, f3, f4, f5, f6, f7, f8, f9, f10, f11, f12, if_true, Bool.false_eq_true, if_false]
      rw [e]
      exact find_case12 s t w hd HT f0 f1 f2 f3 f4 f5 f6 f7 f8 f9 f10 f11 f12
    | false =>
    cases f13 : (t == [117, 116, 102, 45, 49, 54]) with
    | true =>
      have e : labelOf t = 5 := by unfold labelOf; simp only [f0, f1, f2, f3, f4, f5, f6, f7, f8, f9, f10, f11, f12, f13, if_true, Bool.false_eq_true, if_false]
      rw [e]
      exact find_case13 s t w hd HT f0 f1 f2 f3 f4 f5 f6 f7 f8 f9 f10 f11 f12 f13
    | false =>
    cases f14 : (t == [117, 116, 102, 45, 49, 54, 108, 101]) with
    | true =>
      have e : labelOf t = 5 := by unfold labelOf; simp only [f0, f1, f2, f3, f4, f5, f6, f7, f8, f9, f10, f11, f12, f13, f14, if_true, Bool.false_eq_true, if_false]
      rw [e]
      exact find_case14 s t w hd HT f0 f1 f2 f3 f4 f5 f6 f7 f8 f9 f10 f11 f12 f13 f14
    | false =>
    cases f15 : (t == [117, 116, 102, 45, 49, 54, 98, 101]) with
    | true =>
      have e : labelOf t = 6 := by unfold labelOf; simp only [f0, f1, f2, f3, f4, f5, f6, f7, f8, f9, f10, f11, f12, f13, f14, f15, if_true, Bool.false_eq_true, if_false]
      rw [e]
      exact find_case15 s t w hd HT f0 f1 f2 f3 f4 f5 f6 f7 f8 f9 f10 f11 f12 f13 f14 f15
    | false =>
    have e : labelOf t = 0 := by unfold labelOf; simp only [f0, f1, f2, f3, f4, f5, f6, f7, f8, f9, f10, f11, f12, f13, f14, f15, Bool.false_eq_true, if_false]
    rw [e]
    exact find_case16 s t w hd HT f0 f1 f2 f3 f4 f5 f6 f7 f8 f9 f10 f11 f12 f13 f14 f15
end Go.Proofs.YtbnjhcdgiieghaaDoor
