/- The walks over package sniff: marks. -/
import Derived.Test.YtbnjhcdgiieghaaDoorSnW3
import Derived.Lib.LaidTab
namespace Go.Proofs.YtbnjhcdgiieghaaDoor
open Go.RowKit

/-- The two tables of package sniff hold what its text lays. -/
structure Laid (w : World) : Prop where
  m0 : w.cell? ⟨0, 0, none⟩ = some (.string ⟨#[239, 187, 191]⟩)
  m1 : w.cell? ⟨0, 1, none⟩ = some (.string ⟨#[255, 254]⟩)
  m2 : w.cell? ⟨0, 2, none⟩ = some (.string ⟨#[254, 255]⟩)
  e0 : w.cell? ⟨1, 0, none⟩ = some (.int .i64 1)
  e1 : w.cell? ⟨1, 1, none⟩ = some (.int .i64 5)
  e2 : w.cell? ⟨1, 2, none⟩ = some (.int .i64 6)
  big : 2 ≤ w.heap.size
theorem Laid.below {w w' : World} (h : Laid w) (hb : Below w.heap.size w w') : Laid w' := by
  have hbig := h.big
  have k : ∀ p : Addr, p.block < 2 → w'.cell? p = w.cell? p := fun p hp => hb.cell (by omega)
  exact ⟨(k _ (by decide)).trans h.m0, (k _ (by decide)).trans h.m1, (k _ (by decide)).trans h.m2, (k _ (by decide)).trans h.e0, (k _ (by decide)).trans h.e1, (k _ (by decide)).trans h.e2, Nat.le_trans hbig hb.size⟩

theorem mark_pre (s : ByteArray) (p : List UInt8) : Lib.hasPrefix s.data.toList p = decide (s.data.toList.take p.length = p) := by
  unfold Lib.hasPrefix
  rw [Bool.eq_iff_iff, List.isPrefixOf_iff_prefix, decide_eq_true_eq, List.prefix_iff_eq_take]
  exact eq_comm

theorem ix0 (w : World) : (Instr.index 41 (.agg #[.string ⟨#[239, 187, 191]⟩, .string ⟨#[255, 254]⟩, .string ⟨#[254, 255]⟩]) (.int .i64 0)).run Tryd.prog w = .ok (.string ⟨#[239, 187, 191]⟩) w := by kernel_rfl
theorem ix1 (w : World) : (Instr.index 41 (.agg #[.string ⟨#[239, 187, 191]⟩, .string ⟨#[255, 254]⟩, .string ⟨#[254, 255]⟩]) (.int .i64 1)).run Tryd.prog w = .ok (.string ⟨#[255, 254]⟩) w := by kernel_rfl
theorem ix2 (w : World) : (Instr.index 41 (.agg #[.string ⟨#[239, 187, 191]⟩, .string ⟨#[255, 254]⟩, .string ⟨#[254, 255]⟩]) (.int .i64 2)).run Tryd.prog w = .ok (.string ⟨#[254, 255]⟩) w := by kernel_rfl
attribute [local go_sem] ix0 ix1 ix2
def markB (b0 b1 b2 : Bool) : Int × Int := if b0 then (1, 3) else if b1 then (5, 2) else if b2 then (6, 2) else (0, 0)
theorem markB_eq (s : ByteArray) : markL s.data.toList = markB (Lib.hasPrefix s.data.toList [239, 187, 191]) (Lib.hasPrefix s.data.toList [255, 254]) (Lib.hasPrefix s.data.toList [254, 255]) := by
  rw [mark_pre, mark_pre, mark_pre]
  unfold markL markB
  simp only [decide_eq_true_eq, List.length_cons, List.length_nil]
set_option maxRecDepth 100000 in
set_option maxHeartbeats 1000000 in
theorem mark_any (s : ByteArray) (w : World) (hl : Laid w) : Calls Tryd.prog 17 #[.string s] w fun e w' => e = .returned (.tuple #[.int .i64 (markL s.data.toList).1, .int .i64 (markL s.data.toList).2]) ∧ w' = w := by
  obtain ⟨m0, m1, m2, e0, e1, e2, _⟩ := hl
  have H0 := hid (fun w1 => hasPrefix_c s ⟨#[239, 187, 191]⟩ w1)
  have H1 := hid (fun w1 => hasPrefix_c s ⟨#[255, 254]⟩ w1)
  have H2 := hid (fun w1 => hasPrefix_c s ⟨#[254, 255]⟩ w1)
  change Hid (∀ w1, Calls _ _ _ w1 fun e w' => e = .returned (.bool (Lib.hasPrefix s.data.toList [239, 187, 191])) ∧ w' = w1) at H0
  change Hid (∀ w1, Calls _ _ _ w1 fun e w' => e = .returned (.bool (Lib.hasPrefix s.data.toList [255, 254])) ∧ w' = w1) at H1
  change Hid (∀ w1, Calls _ _ _ w1 fun e w' => e = .returned (.bool (Lib.hasPrefix s.data.toList [254, 255])) ∧ w' = w1) at H2
  rw [markB_eq]
  generalize Lib.hasPrefix s.data.toList [239, 187, 191] = b0 at H0 ⊢
  generalize Lib.hasPrefix s.data.toList [255, 254] = b1 at H1 ⊢
  generalize Lib.hasPrefix s.data.toList [254, 255] = b2 at H2 ⊢
  go_enter Tryd.func17, Tryd.ntmps17
  go_wp2_with fail
  go_loop [7] (fun i => i = .int .i64 0 ∨ (i = .int .i64 1 ∧ b0 = false) ∨ (i = .int .i64 2 ∧ b0 = false ∧ b1 = false) ∨ (i = .int .i64 3 ∧ b0 = false ∧ b1 = false ∧ b2 = false)) (fun i => 3 - (intOf i).toNat)
  case atStart => exact .inl rfl
  case round =>
    rcases hrel with rfl | ⟨rfl, rfl⟩ | ⟨rfl, rfl, rfl⟩ | ⟨rfl, rfl, rfl, rfl⟩
    · cases b0 with
      | true =>
        go_wp2_with fail
        refine (H0.out _).mono ?_
        rintro e _ ⟨rfl, rfl⟩
        go_wp2_with fail
        go_ret2
        exact ⟨rfl, rfl⟩
      | false =>
        go_wp2_with fail
        refine (H0.out _).mono ?_
        rintro e _ ⟨rfl, rfl⟩
        go_wp2_with fail
        go_round
        case rel => simp
        case measure => decide
    · cases b1 with
      | true =>
        go_wp2_with fail
        refine (H1.out _).mono ?_
        rintro e _ ⟨rfl, rfl⟩
        go_wp2_with fail
        go_ret2
        exact ⟨rfl, rfl⟩
      | false =>
        go_wp2_with fail
        refine (H1.out _).mono ?_
        rintro e _ ⟨rfl, rfl⟩
        go_wp2_with fail
        go_round
        case rel => simp
        case measure => decide
    · cases b2 with
      | true =>
        go_wp2_with fail
        refine (H2.out _).mono ?_
        rintro e _ ⟨rfl, rfl⟩
        go_wp2_with fail
        go_ret2
        exact ⟨rfl, rfl⟩
      | false =>
        go_wp2_with fail
        refine (H2.out _).mono ?_
        rintro e _ ⟨rfl, rfl⟩
        go_wp2_with fail
        go_round
        case rel => simp
        case measure => decide
    · go_wp2_with fail
      go_ret2
      exact ⟨rfl, rfl⟩

/-- A proper beginning of a mark. -/
def mayB (l p : List UInt8) : Bool := decide (l.length < p.length) && Lib.hasPrefix p l
theorem may_eq (l : List UInt8) : mayL l = (mayB l [239, 187, 191] || (mayB l [255, 254] || mayB l [254, 255])) := by
  match l with
  | [] => rfl
  | [a] =>
    simp only [mayL, mayB, Lib.hasPrefix, List.isPrefixOf]
    rw [Bool.eq_iff_iff]
    simp [or_assoc]
  | [a, b] =>
    simp only [mayL, mayB, Lib.hasPrefix, List.isPrefixOf]
    rw [Bool.eq_iff_iff]
    simp
  | a :: b :: c :: r =>
    have e : ∀ p : List UInt8, p.length ≤ 3 → mayB (a :: b :: c :: r) p = false := fun p hp => by
      unfold mayB; rw [decide_eq_false (by simp only [List.length_cons]; omega)]; rfl
    have e1 := e [239, 187, 191] (by decide)
    have e2 := e [255, 254] (by decide)
    have e3 := e [254, 255] (by decide)
    rw [e1, e2, e3]
    exact mayL_three a b c r
set_option maxRecDepth 100000 in
set_option maxHeartbeats 1000000 in
theorem mayMark_any (s : ByteArray) (w : World) (hl : Laid w) : Calls Tryd.prog 21 #[.string s] w fun e w' => e = .returned (.bool (mayL s.data.toList)) ∧ w' = w := by
  obtain ⟨m0, m1, m2, e0, e1, e2, _⟩ := hl
  clear e0 e1 e2
  have HZ := hid (size_data s)
  have H0 : Hid (∀ w1, Calls Tryd.prog 29 #[.string ⟨#[239, 187, 191]⟩, .string s] w1 fun e w' => e = .returned (.bool (Lib.hasPrefix [239, 187, 191] s.data.toList)) ∧ w' = w1) := fun w1 => hasPrefix_c ⟨#[239, 187, 191]⟩ s w1
  have G0 : Hid (mayB s.data.toList [239, 187, 191] = (decide (s.size < 3) && Lib.hasPrefix [239, 187, 191] s.data.toList)) := by
    show _ = _
    unfold mayB; rw [HZ.out]; rfl
  have H1 : Hid (∀ w1, Calls Tryd.prog 29 #[.string ⟨#[255, 254]⟩, .string s] w1 fun e w' => e = .returned (.bool (Lib.hasPrefix [255, 254] s.data.toList)) ∧ w' = w1) := fun w1 => hasPrefix_c ⟨#[255, 254]⟩ s w1
  have G1 : Hid (mayB s.data.toList [255, 254] = (decide (s.size < 2) && Lib.hasPrefix [255, 254] s.data.toList)) := by
    show _ = _
    unfold mayB; rw [HZ.out]; rfl
  have H2 : Hid (∀ w1, Calls Tryd.prog 29 #[.string ⟨#[254, 255]⟩, .string s] w1 fun e w' => e = .returned (.bool (Lib.hasPrefix [254, 255] s.data.toList)) ∧ w' = w1) := fun w1 => hasPrefix_c ⟨#[254, 255]⟩ s w1
  have G2 : Hid (mayB s.data.toList [254, 255] = (decide (s.size < 2) && Lib.hasPrefix [254, 255] s.data.toList)) := by
    show _ = _
    unfold mayB; rw [HZ.out]; rfl
  rw [may_eq]
  generalize mayB s.data.toList [239, 187, 191] = c0 at G0 ⊢
  generalize Lib.hasPrefix [239, 187, 191] s.data.toList = b0 at G0 H0
  generalize mayB s.data.toList [255, 254] = c1 at G1 ⊢
  generalize Lib.hasPrefix [255, 254] s.data.toList = b1 at G1 H1
  generalize mayB s.data.toList [254, 255] = c2 at G2 ⊢
  generalize Lib.hasPrefix [254, 255] s.data.toList = b2 at G2 H2
  clear HZ
  go_enter Tryd.func21, Tryd.ntmps21
  go_wp2_with fail
  go_loop [6] (fun i => i = .int .i64 0 ∨ (i = .int .i64 1 ∧ c0 = false) ∨ (i = .int .i64 2 ∧ c0 = false ∧ c1 = false) ∨ (i = .int .i64 3 ∧ c0 = false ∧ c1 = false ∧ c2 = false)) (fun i => 3 - (intOf i).toNat)
  case atStart => exact .inl rfl
  case round =>
    rcases hrel with rfl | ⟨rfl, rfl⟩ | ⟨rfl, rfl, rfl⟩ | ⟨rfl, rfl, rfl, rfl⟩
    · by_cases hd : s.size < 3
      · have hd2 : decide ((s.size : Int) < 3) = true := decide_eq_true (by omega)
        cases b0 with
        | true =>
          obtain rfl : c0 = true := by rw [G0.out, decide_eq_true hd]; rfl
          clear hd
          go_wp2_with fail
          refine (H0.out _).mono ?_
          rintro e _ ⟨rfl, rfl⟩
          go_wp2_with fail
          go_ret
          exact ⟨by simp, rfl⟩
        | false =>
          obtain rfl : c0 = false := by rw [G0.out, decide_eq_true hd]; rfl
          clear hd
          go_wp2_with fail
          refine (H0.out _).mono ?_
          rintro e _ ⟨rfl, rfl⟩
          go_wp2_with fail
          go_round
          case rel => simp
          case measure => decide
      · have hd2 : decide ((s.size : Int) < 3) = false := decide_eq_false (by omega)
        obtain rfl : c0 = false := by rw [G0.out, decide_eq_false hd]; rfl
        clear hd
        go_wp2_with fail
        go_round
        case rel => simp
        case measure => decide
    · by_cases hd : s.size < 2
      · have hd2 : decide ((s.size : Int) < 2) = true := decide_eq_true (by omega)
        cases b1 with
        | true =>
          obtain rfl : c1 = true := by rw [G1.out, decide_eq_true hd]; rfl
          clear hd
          go_wp2_with fail
          refine (H1.out _).mono ?_
          rintro e _ ⟨rfl, rfl⟩
          go_wp2_with fail
          go_ret
          exact ⟨by simp, rfl⟩
        | false =>
          obtain rfl : c1 = false := by rw [G1.out, decide_eq_true hd]; rfl
          clear hd
          go_wp2_with fail
          refine (H1.out _).mono ?_
          rintro e _ ⟨rfl, rfl⟩
          go_wp2_with fail
          go_round
          case rel => simp
          case measure => decide
      · have hd2 : decide ((s.size : Int) < 2) = false := decide_eq_false (by omega)
        obtain rfl : c1 = false := by rw [G1.out, decide_eq_false hd]; rfl
        clear hd
        go_wp2_with fail
        go_round
        case rel => simp
        case measure => decide
    · by_cases hd : s.size < 2
      · have hd2 : decide ((s.size : Int) < 2) = true := decide_eq_true (by omega)
        cases b2 with
        | true =>
          obtain rfl : c2 = true := by rw [G2.out, decide_eq_true hd]; rfl
          clear hd
          go_wp2_with fail
          refine (H2.out _).mono ?_
          rintro e _ ⟨rfl, rfl⟩
          go_wp2_with fail
          go_ret
          exact ⟨by simp, rfl⟩
        | false =>
          obtain rfl : c2 = false := by rw [G2.out, decide_eq_true hd]; rfl
          clear hd
          go_wp2_with fail
          refine (H2.out _).mono ?_
          rintro e _ ⟨rfl, rfl⟩
          go_wp2_with fail
          go_round
          case rel => simp
          case measure => decide
      · have hd2 : decide ((s.size : Int) < 2) = false := decide_eq_false (by omega)
        obtain rfl : c2 = false := by rw [G2.out, decide_eq_false hd]; rfl
        clear hd
        go_wp2_with fail
        go_round
        case rel => simp
        case measure => decide
    · go_wp2_with fail
      go_ret
      exact ⟨rfl, rfl⟩
end Go.Proofs.YtbnjhcdgiieghaaDoor
