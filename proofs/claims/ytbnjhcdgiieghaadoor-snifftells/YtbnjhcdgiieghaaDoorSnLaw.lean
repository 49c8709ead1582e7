/- The walks over the laws SniffWindow and SniffStays. -/
import Derived.Test.YtbnjhcdgiieghaaDoorSnMk
namespace Go.Proofs.YtbnjhcdgiieghaaDoor
open Go.RowKit

def exA : ByteArray := ⟨#[255, 254, 97]⟩
def exB : ByteArray := ⟨#[60, 109, 101, 116, 97, 32, 99, 104, 97, 114, 115, 101, 116, 61, 34, 116, 119, 105, 110, 34, 62]⟩
theorem exA_is : markL [255, 254, 97] = (5, 2) := by decide +kernel
theorem exB_is : labelL [60, 109, 101, 116, 97, 32, 99, 104, 97, 114, 115, 101, 116, 61, 34, 116, 119, 105, 110, 34, 62] = (3, true) := by decide +kernel

set_option maxRecDepth 100000 in
set_option maxHeartbeats 1000000 in
theorem sniffsK_any (w : World) (hl : Laid w) : Calls Tryd.prog 24 #[] w fun e w' => e = .returned (.bool true) ∧ Below w.heap.size w w' := by
  have HM : Hid (Calls Tryd.prog 17 #[.string ⟨#[255, 254, 97]⟩] w fun e w' => e = .returned (.tuple #[.int .i64 5, .int .i64 2]) ∧ w' = w) := by
    have := mark_any ⟨#[255, 254, 97]⟩ w hl
    change Calls _ _ _ w (fun e w' => e = .returned (.tuple #[.int .i64 (markL [255, 254, 97]).1, .int .i64 (markL [255, 254, 97]).2]) ∧ w' = w) at this
    rw [exA_is] at this
    exact this
  have HB : Hid (∀ w1, Calls Tryd.prog 19 #[.string ⟨#[60, 109, 101, 116, 97, 32, 99, 104, 97, 114, 115, 101, 116, 61, 34, 116, 119, 105, 110, 34, 62]⟩] w1 fun e w' => e = .returned (.tuple #[.int .i64 3, .bool true]) ∧ Below w1.heap.size w1 w') := fun w1 => by
    have := label_any ⟨#[60, 109, 101, 116, 97, 32, 99, 104, 97, 114, 115, 101, 116, 61, 34, 116, 119, 105, 110, 34, 62]⟩ w1 (by decide)
    change Calls _ _ _ w1 (fun e w' => e = .returned (.tuple #[.int .i64 (labelL [60, 109, 101, 116, 97, 32, 99, 104, 97, 114, 115, 101, 116, 61, 34, 116, 119, 105, 110, 34, 62]).1, .bool (labelL [60, 109, 101, 116, 97, 32, 99, 104, 97, 114, 115, 101, 116, 61, 34, 116, 119, 105, 110, 34, 62]).2]) ∧ Below w1.heap.size w1 w') at this
    rw [exB_is] at this
    exact this
  go_enter Tryd.func24, Tryd.ntmps24
  go_wp2_with fail
  refine HM.out.mono ?_
  rintro e _ ⟨rfl, rfl⟩
  go_wp2_with fail
  refine (HB.out _).mono ?_
  rintro e w2 ⟨rfl, hb⟩
  go_wp2_with fail
  go_ret
  exact ⟨rfl, hb⟩
set_option maxRecDepth 100000 in
set_option maxHeartbeats 1000000 in
theorem window_any (s t : ByteArray) (w : World) (hs : s.size ≤ 140737488355328) (ht : t.size ≤ 140737488355328) (hl : Laid w) : Calls Tryd.prog 7 #[.string s, .string t] w fun e w' => e = .returned (.bool true) ∧ Below w.heap.size w w' := by
  by_cases hc : s.size < 256
  · have HS := hid (sniffsK_any w hl)
    have hd : decide ((s.size : Int) < 256) = true := decide_eq_true (by omega)
    go_enter Tryd.func7, Tryd.ntmps7
    go_wp2_with fail
    refine HS.out.mono ?_
    rintro e w1 ⟨rfl, hb⟩
    go_wp2_with fail
    go_ret
    exact ⟨rfl, hb⟩
  · have HL := hid hl
    have hd : decide ((s.size : Int) < 256) = false := decide_eq_false (by omega)
    have b1 : (256 : Int) ≤ (s.size : Int) := by omega
    have HA := hid (fun w1 => label_any (s.extract 0 256) w1 (by simp; omega))
    have HB := hid (fun w1 => label_any (s.extract 0 256 ++ t) w1 (by simp; omega))
    have he : (s.extract 0 256).data.toList.length = 256 := by rw [size_data]; simp; omega
    have hw := labelL_window (s.extract 0 256).data.toList t.data.toList he
    have hap : (s.extract 0 256 ++ t).data.toList = (s.extract 0 256).data.toList ++ t.data.toList := by simp
    rw [hap, hw.1, hw.2] at HB
    rw [hw.2] at HA
    clear hw he hap
    generalize (labelL (s.extract 0 256).data.toList).1 = x at HA HB
    go_enter Tryd.func7, Tryd.ntmps7
    go_wp2_with fail
    refine (HA.out _).mono ?_
    rintro e w1 ⟨rfl, hb1⟩
    go_wp2_with fail
    refine (HB.out _).mono ?_
    rintro e w2 ⟨rfl, hb2⟩
    have hb := hb1.trans (hb2.mono hb1.size)
    have HS := hid (sniffsK_any w2 (HL.out.below hb))
    go_wp2_with fail
    refine HS.out.mono ?_
    rintro e w3 ⟨rfl, hb3⟩
    go_wp2_with fail
    go_ret
    exact ⟨rfl, hb.trans (hb3.mono hb.size)⟩
end Go.Proofs.YtbnjhcdgiieghaaDoor
