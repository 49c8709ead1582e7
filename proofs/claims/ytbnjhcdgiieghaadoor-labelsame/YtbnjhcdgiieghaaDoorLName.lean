/- The walks over label.Name and the two closed checks. -/
import Derived.Test.YtbnjhcdgiieghaaDoorLTrim
namespace Go.Proofs.YtbnjhcdgiieghaaDoor
open Go.RowKit

/-- The name of an encoding. -/
def nameL (e : Int) : List UInt8 :=
  if e = 1 then [117, 116, 102, 45, 56] else if e = 2 then [115, 104, 105, 102, 116] else if e = 3 then [116, 119, 105, 110] else if e = 4 then [108, 97, 116, 105, 110] else if e = 5 then [117, 116, 102, 45, 49, 54, 108, 101] else if e = 6 then [117, 116, 102, 45, 49, 54, 98, 101] else []

set_option maxHeartbeats 400000 in
theorem name_0 (w : World) :
    Calls Tryd.prog 12 #[.int .i64 0] w fun x w' => x = .returned (.string ⟨#[]⟩) ∧ Below w.heap.size w w' := by
  go_enter Tryd.func12, Tryd.ntmps12
  go_wp2
  go_ret
  exact ⟨rfl, (Below.refl _ _).alloc (Nat.le_refl _) _⟩
set_option maxHeartbeats 400000 in
theorem name_1 (w : World) :
    Calls Tryd.prog 12 #[.int .i64 1] w fun x w' => x = .returned (.string ⟨#[117, 116, 102, 45, 56]⟩) ∧ Below w.heap.size w w' := by
  go_enter Tryd.func12, Tryd.ntmps12
  go_wp2
  go_ret
  exact ⟨rfl, (Below.refl _ _).alloc (Nat.le_refl _) _⟩
set_option maxHeartbeats 400000 in
theorem name_2 (w : World) :
    Calls Tryd.prog 12 #[.int .i64 2] w fun x w' => x = .returned (.string ⟨#[115, 104, 105, 102, 116]⟩) ∧ Below w.heap.size w w' := by
  go_enter Tryd.func12, Tryd.ntmps12
  go_wp2
  go_ret
  exact ⟨rfl, (Below.refl _ _).alloc (Nat.le_refl _) _⟩
set_option maxHeartbeats 400000 in
theorem name_3 (w : World) :
    Calls Tryd.prog 12 #[.int .i64 3] w fun x w' => x = .returned (.string ⟨#[116, 119, 105, 110]⟩) ∧ Below w.heap.size w w' := by
  go_enter Tryd.func12, Tryd.ntmps12
  go_wp2
  go_ret
  exact ⟨rfl, (Below.refl _ _).alloc (Nat.le_refl _) _⟩
set_option maxHeartbeats 400000 in
theorem name_4 (w : World) :
    Calls Tryd.prog 12 #[.int .i64 4] w fun x w' => x = .returned (.string ⟨#[108, 97, 116, 105, 110]⟩) ∧ Below w.heap.size w w' := by
  go_enter Tryd.func12, Tryd.ntmps12
  go_wp2
  go_ret
  exact ⟨rfl, (Below.refl _ _).alloc (Nat.le_refl _) _⟩
set_option maxHeartbeats 400000 in
theorem name_5 (w : World) :
    Calls Tryd.prog 12 #[.int .i64 5] w fun x w' => x = .returned (.string ⟨#[117, 116, 102, 45, 49, 54, 108, 101]⟩) ∧ Below w.heap.size w w' := by
  go_enter Tryd.func12, Tryd.ntmps12
  go_wp2
  go_ret
  exact ⟨rfl, (Below.refl _ _).alloc (Nat.le_refl _) _⟩
set_option maxHeartbeats 400000 in
theorem name_6 (w : World) :
    Calls Tryd.prog 12 #[.int .i64 6] w fun x w' => x = .returned (.string ⟨#[117, 116, 102, 45, 49, 54, 98, 101]⟩) ∧ Below w.heap.size w w' := by
  go_enter Tryd.func12, Tryd.ntmps12
  go_wp2
  go_ret
  exact ⟨rfl, (Below.refl _ _).alloc (Nat.le_refl _) _⟩
set_option maxHeartbeats 400000 in
theorem name_low (e : Int) (h : e < 0) (w : World) :
    Calls Tryd.prog 12 #[.int .i64 e] w fun x w' => x = .returned (.string ⟨#[]⟩) ∧ Below w.heap.size w w' := by
  go_enter Tryd.func12, Tryd.ntmps12
  go_wp2
  go_ret
  exact ⟨rfl, (Below.refl _ _).alloc (Nat.le_refl _) _⟩
set_option maxHeartbeats 400000 in
theorem name_high (e : Int) (h : 7 ≤ e) (w : World) :
    Calls Tryd.prog 12 #[.int .i64 e] w fun x w' => x = .returned (.string ⟨#[]⟩) ∧ Below w.heap.size w w' := by
  go_enter Tryd.func12, Tryd.ntmps12
  go_wp2
  go_ret
  exact ⟨rfl, (Below.refl _ _).alloc (Nat.le_refl _) _⟩

theorem name_any (e : Int) (w : World) :
    Calls Tryd.prog 12 #[.int .i64 e] w fun x w' => x = .returned (.string ⟨(nameL e).toArray⟩) ∧ Below w.heap.size w w' := by
  by_cases hl : e < 0
  · have h : nameL e = [] := by unfold nameL; repeat rw [if_neg (by omega)]
    rw [h]; exact name_low e hl w
  by_cases hh : 7 ≤ e
  · have h : nameL e = [] := by unfold nameL; repeat rw [if_neg (by omega)]
    rw [h]; exact name_high e hh w
  obtain h | h | h | h | h | h | h : e = 0 ∨ e = 1 ∨ e = 2 ∨ e = 3 ∨ e = 4 ∨ e = 5 ∨ e = 6 := by omega
  · subst h; exact name_0 w
  · subst h; exact name_1 w
  · subst h; exact name_2 w
  · subst h; exact name_3 w
  · subst h; exact name_4 w
  · subst h; exact name_5 w
  · subst h; exact name_6 w

set_option maxHeartbeats 400000 in
theorem labels11 (w : World) : Calls Tryd.prog 14 #[] w fun x w' => x = .returned (.bool true) ∧ Below w.heap.size w w' := by
  have hf := find_any ⟨#[32, 85, 84, 70, 56, 10]⟩ w (by decide)
  have e1 : findL (⟨#[32, 85, 84, 70, 56, 10]⟩ : ByteArray).data.toList = 1 := by decide +kernel
  rw [e1] at hf
  have HF := hid hf
  clear hf e1
  go_enter Tryd.func14, Tryd.ntmps14
  go_wp2_with fail
  refine HF.out.mono ?_
  rintro e w1 ⟨rfl, hb1⟩
  go_wp2_with fail
  refine (name_6 _).mono ?_
  rintro e w2 ⟨rfl, hb2⟩
  go_wp2_with fail
  go_ret
  exact ⟨rfl, hb1.trans (hb2.mono hb1.size)⟩

set_option maxHeartbeats 400000 in
theorem labels12 (w : World) : Calls Tryd.prog 15 #[] w fun x w' => x = .returned (.bool true) ∧ Below w.heap.size w w' := by
  have hf := find_any ⟨#[32, 85, 84, 70, 56, 10]⟩ w (by decide)
  have e1 : findL (⟨#[32, 85, 84, 70, 56, 10]⟩ : ByteArray).data.toList = 1 := by decide +kernel
  rw [e1] at hf
  have HF := hid hf
  clear hf e1
  go_enter Tryd.func15, Tryd.ntmps15
  go_wp2_with fail
  refine HF.out.mono ?_
  rintro e w1 ⟨rfl, hb1⟩
  go_wp2_with fail
  refine (name_6 _).mono ?_
  rintro e w2 ⟨rfl, hb2⟩
  go_wp2_with fail
  go_ret
  exact ⟨rfl, hb1.trans (hb2.mono hb1.size)⟩

set_option maxHeartbeats 400000 in
theorem lin_yes (e : Int) (h1 : 1 ≤ e) (h2 : e ≤ 6) (w : World) : Calls Tryd.prog 16 #[.int .i64 e] w fun x w' => x = .returned (.int .i64 1) ∧ w = w' := by
  go_enter Tryd.func16, Tryd.ntmps16
  go_wp2
  go_ret
  exact ⟨rfl, rfl⟩
set_option maxHeartbeats 400000 in
theorem lin_low (e : Int) (h1 : e < 1) (w : World) : Calls Tryd.prog 16 #[.int .i64 e] w fun x w' => x = .returned (.int .i64 0) ∧ w = w' := by
  go_enter Tryd.func16, Tryd.ntmps16
  go_wp2
  go_ret
  exact ⟨rfl, rfl⟩
set_option maxHeartbeats 400000 in
theorem lin_high (e : Int) (h1 : 6 < e) (w : World) : Calls Tryd.prog 16 #[.int .i64 e] w fun x w' => x = .returned (.int .i64 0) ∧ w = w' := by
  go_enter Tryd.func16, Tryd.ntmps16
  go_wp2
  go_ret
  exact ⟨rfl, rfl⟩
end Go.Proofs.YtbnjhcdgiieghaaDoor
