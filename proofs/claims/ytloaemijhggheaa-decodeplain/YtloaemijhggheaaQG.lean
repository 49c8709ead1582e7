/- 4 texts of this proof in one file: Gen, Proc, Feed, Cons. -/
import Derived.Test.YtloaemijhggheaaWTwin
import Derived.Test.YtloaemijhggheaaWUtf
import Derived.Test.YtloaemijhggheaaWShift2
import Derived.Test.YtloaemijhggheaaWWide
import Derived.Test.YtloaemijhggheaaApp
import Derived.Deep.LoopGhost
import Derived.Deep.RegionHeld3
import Derived.Deep.DeepCutAuto
/- offer and finish, and the bundle of what is known of each encoding. -/
namespace Go.Proofs.Ytloaemijhggheaa
open Go.RowKit
attribute [local go_sem ↓] run_eqS run_neS
attribute [local go_sem] byte_at0 byte_at20 byte_at21 w64 S.v and63 and31 and15 and7 kw kw256

set_option maxRecDepth 100000 in
set_option maxHeartbeats 400000 in
theorem offer_1 (s0 s : S) (b : UInt8) (l : List Int) (a : Bool) (w : World) (H : Hid (∀ w1, Calls Try.prog 92 #[(.agg #[.int .i64 s0.need, .int .i64 s0.code, .int .i64 s0.lo, .int .i64 s0.hi, .string s0.kept, .int .i64 s0.half, .int .i64 s0.mode]), .int .i64 (b.toNat : Int)] w1 (PSOB w1 s l a))) : Calls Try.prog 74 #[.int .i64 1, (.agg #[.int .i64 s0.need, .int .i64 s0.code, .int .i64 s0.lo, .int .i64 s0.hi, .string s0.kept, .int .i64 s0.half, .int .i64 s0.mode]), .int .i64 (b.toNat : Int)] w (PSOB w s l a) := by
  go_enter Try.func74, Try.ntmps74
  go_wp2_with fail
  refine (H.out _).mono ?_
  rintro e w1 ⟨v, rfl, ho, hb1⟩
  obtain ⟨hc, hf⟩ := bcell hb1
  replace ho := hid ho
  go_wp2_with fail
  refine bodyPost_ret (ret_SOB rfl rfl ((HasS.box2 hb1).put7 s)) rfl ⟨v, rfl, ?_, ?_⟩
  · exact (ho.out.put7 (by simp) _ _ _ _ _ _ _).base (by simp; omega)
  · exact put7 (two_boxes hb1) (by omega) _ _ _ _ _ _ _
set_option maxRecDepth 100000 in
set_option maxHeartbeats 400000 in
theorem offer_2 (s0 s : S) (b : UInt8) (l : List Int) (a : Bool) (w : World) (H : Hid (∀ w1, Calls Try.prog 93 #[(.agg #[.int .i64 s0.need, .int .i64 s0.code, .int .i64 s0.lo, .int .i64 s0.hi, .string s0.kept, .int .i64 s0.half, .int .i64 s0.mode]), .int .i64 (b.toNat : Int)] w1 (PSOB w1 s l a))) : Calls Try.prog 74 #[.int .i64 2, (.agg #[.int .i64 s0.need, .int .i64 s0.code, .int .i64 s0.lo, .int .i64 s0.hi, .string s0.kept, .int .i64 s0.half, .int .i64 s0.mode]), .int .i64 (b.toNat : Int)] w (PSOB w s l a) := by
  go_enter Try.func74, Try.ntmps74
  go_wp2_with fail
  refine (H.out _).mono ?_
  rintro e w1 ⟨v, rfl, ho, hb1⟩
  obtain ⟨hc, hf⟩ := bcell hb1
  replace ho := hid ho
  go_wp2_with fail
  refine bodyPost_ret (ret_SOB rfl rfl ((HasS.box2 hb1).put7 s)) rfl ⟨v, rfl, ?_, ?_⟩
  · exact (ho.out.put7 (by simp) _ _ _ _ _ _ _).base (by simp; omega)
  · exact put7 (two_boxes hb1) (by omega) _ _ _ _ _ _ _
set_option maxRecDepth 100000 in
set_option maxHeartbeats 400000 in
theorem offer_3 (s0 s : S) (b : UInt8) (l : List Int) (a : Bool) (w : World) (H : Hid (∀ w1, Calls Try.prog 94 #[(.agg #[.int .i64 s0.need, .int .i64 s0.code, .int .i64 s0.lo, .int .i64 s0.hi, .string s0.kept, .int .i64 s0.half, .int .i64 s0.mode]), .int .i64 (b.toNat : Int)] w1 (PSOB w1 s l a))) : Calls Try.prog 74 #[.int .i64 3, (.agg #[.int .i64 s0.need, .int .i64 s0.code, .int .i64 s0.lo, .int .i64 s0.hi, .string s0.kept, .int .i64 s0.half, .int .i64 s0.mode]), .int .i64 (b.toNat : Int)] w (PSOB w s l a) := by
  go_enter Try.func74, Try.ntmps74
  go_wp2_with fail
  refine (H.out _).mono ?_
  rintro e w1 ⟨v, rfl, ho, hb1⟩
  obtain ⟨hc, hf⟩ := bcell hb1
  replace ho := hid ho
  go_wp2_with fail
  refine bodyPost_ret (ret_SOB rfl rfl ((HasS.box2 hb1).put7 s)) rfl ⟨v, rfl, ?_, ?_⟩
  · exact (ho.out.put7 (by simp) _ _ _ _ _ _ _).base (by simp; omega)
  · exact put7 (two_boxes hb1) (by omega) _ _ _ _ _ _ _
set_option maxRecDepth 100000 in
set_option maxHeartbeats 400000 in
theorem offer_5 (s0 s : S) (b : UInt8) (l : List Int) (a : Bool) (w : World) (H : Hid (∀ w1, Calls Try.prog 95 #[(.agg #[.int .i64 s0.need, .int .i64 s0.code, .int .i64 s0.lo, .int .i64 s0.hi, .string s0.kept, .int .i64 s0.half, .int .i64 s0.mode]), .int .i64 (b.toNat : Int)] w1 (PSOB w1 s l a))) : Calls Try.prog 74 #[.int .i64 5, (.agg #[.int .i64 s0.need, .int .i64 s0.code, .int .i64 s0.lo, .int .i64 s0.hi, .string s0.kept, .int .i64 s0.half, .int .i64 s0.mode]), .int .i64 (b.toNat : Int)] w (PSOB w s l a) := by
  go_enter Try.func74, Try.ntmps74
  go_wp2_with fail
  refine (H.out _).mono ?_
  rintro e w1 ⟨v, rfl, ho, hb1⟩
  obtain ⟨hc, hf⟩ := bcell hb1
  replace ho := hid ho
  go_wp2_with fail
  refine bodyPost_ret (ret_SOB rfl rfl ((HasS.box2 hb1).put7 s)) rfl ⟨v, rfl, ?_, ?_⟩
  · exact (ho.out.put7 (by simp) _ _ _ _ _ _ _).base (by simp; omega)
  · exact put7 (two_boxes hb1) (by omega) _ _ _ _ _ _ _
set_option maxRecDepth 100000 in
set_option maxHeartbeats 400000 in
theorem offer_6 (s0 s : S) (b : UInt8) (l : List Int) (a : Bool) (w : World) (H : Hid (∀ w1, Calls Try.prog 96 #[(.agg #[.int .i64 s0.need, .int .i64 s0.code, .int .i64 s0.lo, .int .i64 s0.hi, .string s0.kept, .int .i64 s0.half, .int .i64 s0.mode]), .int .i64 (b.toNat : Int)] w1 (PSOB w1 s l a))) : Calls Try.prog 74 #[.int .i64 6, (.agg #[.int .i64 s0.need, .int .i64 s0.code, .int .i64 s0.lo, .int .i64 s0.hi, .string s0.kept, .int .i64 s0.half, .int .i64 s0.mode]), .int .i64 (b.toNat : Int)] w (PSOB w s l a) := by
  go_enter Try.func74, Try.ntmps74
  go_wp2_with fail
  refine (H.out _).mono ?_
  rintro e w1 ⟨v, rfl, ho, hb1⟩
  obtain ⟨hc, hf⟩ := bcell hb1
  replace ho := hid ho
  go_wp2_with fail
  refine bodyPost_ret (ret_SOB rfl rfl ((HasS.box2 hb1).put7 s)) rfl ⟨v, rfl, ?_, ?_⟩
  · exact (ho.out.put7 (by simp) _ _ _ _ _ _ _).base (by simp; omega)
  · exact put7 (two_boxes hb1) (by omega) _ _ _ _ _ _ _
set_option maxRecDepth 100000 in
set_option maxHeartbeats 400000 in
theorem offer_4 (b : UInt8) (l : List Int) (w : World) (H : Hid (∀ w1, Calls Try.prog 97 #[.int .i64 (b.toNat : Int)] w1 (PO w1 l))) : Calls Try.prog 74 #[.int .i64 4, (.agg #[.int .i64 0, .int .i64 0, .int .i64 0, .int .i64 0, .string ⟨#[]⟩, .int .i64 0, .int .i64 0]), .int .i64 (b.toNat : Int)] w (PSOB w .zero l false) := by
  go_enter Try.func74, Try.ntmps74
  go_wp2_with fail
  go_region_held3 (fun w' => w'.cell? ⟨w.heap.size, 0, none⟩ = some (.int .i64 0) ∧ w'.cell? ⟨w.heap.size, 1, none⟩ = some (.int .i64 0) ∧ w'.cell? ⟨w.heap.size, 2, none⟩ = some (.int .i64 0) ∧ w'.cell? ⟨w.heap.size, 3, none⟩ = some (.int .i64 0) ∧ w'.cell? ⟨w.heap.size, 4, none⟩ = some (.string ⟨#[]⟩) ∧ w'.cell? ⟨w.heap.size, 5, none⟩ = some (.int .i64 0) ∧ w'.cell? ⟨w.heap.size, 6, none⟩ = some (.int .i64 0))
    (first | go_keep | exact k1 | exact k2.out _ _ _ _ _ _ _)
    (first | (go_at_call 97; refine (H.out _).mono ?_; rintro e w1 ⟨v, rfl, ho, hb1⟩; replace hb1 := undrew hb1; replace ho := hid ho; have hS := HasS.below ((HasS.new w .zero).alloc _) hb1 (by simp; omega); have k1 : w1.cell? ⟨w.heap.size, 0, none⟩ = some (.int .i64 0) ∧ w1.cell? ⟨w.heap.size, 1, none⟩ = some (.int .i64 0) ∧ w1.cell? ⟨w.heap.size, 2, none⟩ = some (.int .i64 0) ∧ w1.cell? ⟨w.heap.size, 3, none⟩ = some (.int .i64 0) ∧ w1.cell? ⟨w.heap.size, 4, none⟩ = some (.string ⟨#[]⟩) ∧ w1.cell? ⟨w.heap.size, 5, none⟩ = some (.int .i64 0) ∧ w1.cell? ⟨w.heap.size, 6, none⟩ = some (.int .i64 0) := hS.cells; have k2 : ∀ u0 u1 u2 u3 u4 u5 u6 : Value, (((((((w1.setCell ⟨w.heap.size + 1, 0, none⟩ u0).setCell ⟨w.heap.size + 1, 1, none⟩ u1).setCell ⟨w.heap.size + 1, 2, none⟩ u2).setCell ⟨w.heap.size + 1, 3, none⟩ u3).setCell ⟨w.heap.size + 1, 4, none⟩ u4).setCell ⟨w.heap.size + 1, 5, none⟩ u5).setCell ⟨w.heap.size + 1, 6, none⟩ u6).cell? ⟨w.heap.size, 0, none⟩ = some (.int .i64 0) ∧ (((((((w1.setCell ⟨w.heap.size + 1, 0, none⟩ u0).setCell ⟨w.heap.size + 1, 1, none⟩ u1).setCell ⟨w.heap.size + 1, 2, none⟩ u2).setCell ⟨w.heap.size + 1, 3, none⟩ u3).setCell ⟨w.heap.size + 1, 4, none⟩ u4).setCell ⟨w.heap.size + 1, 5, none⟩ u5).setCell ⟨w.heap.size + 1, 6, none⟩ u6).cell? ⟨w.heap.size, 1, none⟩ = some (.int .i64 0) ∧ (((((((w1.setCell ⟨w.heap.size + 1, 0, none⟩ u0).setCell ⟨w.heap.size + 1, 1, none⟩ u1).setCell ⟨w.heap.size + 1, 2, none⟩ u2).setCell ⟨w.heap.size + 1, 3, none⟩ u3).setCell ⟨w.heap.size + 1, 4, none⟩ u4).setCell ⟨w.heap.size + 1, 5, none⟩ u5).setCell ⟨w.heap.size + 1, 6, none⟩ u6).cell? ⟨w.heap.size, 2, none⟩ = some (.int .i64 0) ∧ (((((((w1.setCell ⟨w.heap.size + 1, 0, none⟩ u0).setCell ⟨w.heap.size + 1, 1, none⟩ u1).setCell ⟨w.heap.size + 1, 2, none⟩ u2).setCell ⟨w.heap.size + 1, 3, none⟩ u3).setCell ⟨w.heap.size + 1, 4, none⟩ u4).setCell ⟨w.heap.size + 1, 5, none⟩ u5).setCell ⟨w.heap.size + 1, 6, none⟩ u6).cell? ⟨w.heap.size, 3, none⟩ = some (.int .i64 0) ∧ (((((((w1.setCell ⟨w.heap.size + 1, 0, none⟩ u0).setCell ⟨w.heap.size + 1, 1, none⟩ u1).setCell ⟨w.heap.size + 1, 2, none⟩ u2).setCell ⟨w.heap.size + 1, 3, none⟩ u3).setCell ⟨w.heap.size + 1, 4, none⟩ u4).setCell ⟨w.heap.size + 1, 5, none⟩ u5).setCell ⟨w.heap.size + 1, 6, none⟩ u6).cell? ⟨w.heap.size, 4, none⟩ = some (.string ⟨#[]⟩) ∧ (((((((w1.setCell ⟨w.heap.size + 1, 0, none⟩ u0).setCell ⟨w.heap.size + 1, 1, none⟩ u1).setCell ⟨w.heap.size + 1, 2, none⟩ u2).setCell ⟨w.heap.size + 1, 3, none⟩ u3).setCell ⟨w.heap.size + 1, 4, none⟩ u4).setCell ⟨w.heap.size + 1, 5, none⟩ u5).setCell ⟨w.heap.size + 1, 6, none⟩ u6).cell? ⟨w.heap.size, 5, none⟩ = some (.int .i64 0) ∧ (((((((w1.setCell ⟨w.heap.size + 1, 0, none⟩ u0).setCell ⟨w.heap.size + 1, 1, none⟩ u1).setCell ⟨w.heap.size + 1, 2, none⟩ u2).setCell ⟨w.heap.size + 1, 3, none⟩ u3).setCell ⟨w.heap.size + 1, 4, none⟩ u4).setCell ⟨w.heap.size + 1, 5, none⟩ u5).setCell ⟨w.heap.size + 1, 6, none⟩ u6).cell? ⟨w.heap.size, 6, none⟩ = some (.int .i64 0) := (fun u0 u1 u2 u3 u4 u5 u6 => (hS.far7 (blk := w.heap.size + 1) (by omega) u0 u1 u2 u3 u4 u5 u6).cells); replace k2 := hid k2; have hR2 := HasS.box2 hb1; have hR3 := hR2; obtain ⟨r0, r1, r2, r3, r4, r5, r6, rz⟩ := hR3))
  go_wp2_with fail
  refine bodyPost_ret (ret_SOB rfl rfl (hR2.put7 .zero)) rfl ⟨v, rfl, ?_, ?_⟩
  · exact ((unOut ho.out).put7 (by simp) _ _ _ _ _ _ _).base (by simp; omega)
  · exact put7 (two_boxes hb1) (by omega) _ _ _ _ _ _ _

set_option maxRecDepth 100000 in
set_option maxHeartbeats 400000 in
theorem finish_zero (e : Int) (w : World) : Calls Try.prog 42 #[.int .i64 e, (.agg #[.int .i64 0, .int .i64 0, .int .i64 0, .int .i64 0, .string ⟨#[]⟩, .int .i64 0, .int .i64 0])] w (PO w []) := by
  have h := sEq_self ⟨0, 0, 0, 0, ⟨#[]⟩, 0, 0⟩
  go_enter Try.func42, Try.ntmps42
  go_wp2_with fail
  go_ret
  exact ⟨_, rfl, Out.nil _ _, (by repeat (first | exact Below.refl _ _ | assumption | (refine Below.alloc ?_ (by first | (simp; done) | (simp; omega)) _) | (refine Below.setCell ?_ (by first | (simp; done) | (simp; omega)) _) | (refine Below.drew ?_)))⟩
set_option maxRecDepth 100000 in
set_option maxHeartbeats 400000 in
theorem finish_bad (e : Int) (s : S) (w : World) (h : sEq s ⟨0, 0, 0, 0, ⟨#[]⟩, 0, 0⟩ = false) (h2 : (e == 2) = false) (h6 : (e == 6) = false) : Calls Try.prog 42 #[.int .i64 e, (.agg #[.int .i64 s.need, .int .i64 s.code, .int .i64 s.lo, .int .i64 s.hi, .string s.kept, .int .i64 s.half, .int .i64 s.mode])] w (PO w [-1]) := by
  go_enter Try.func42, Try.ntmps42
  go_wp2_with fail
  refine (bad_any _).mono ?_
  rintro e w2 ⟨rfl, rfl⟩
  go_wp2_with fail
  go_ret
  exact ⟨_, rfl, Out.one' _ _ (w.heap.size + 1) _ (by simp) (by omega), (by repeat (first | exact Below.refl _ _ | assumption | (refine Below.alloc ?_ (by first | (simp; done) | (simp; omega)) _) | (refine Below.setCell ?_ (by first | (simp; done) | (simp; omega)) _) | (refine Below.drew ?_)))⟩
set_option maxRecDepth 100000 in
set_option maxHeartbeats 400000 in
theorem finish_2 (s : S) (l : List Int) (w : World) (h : sEq s ⟨0, 0, 0, 0, ⟨#[]⟩, 0, 0⟩ = false) (H : Hid (∀ w1, Calls Try.prog 66 #[(.agg #[.int .i64 s.need, .int .i64 s.code, .int .i64 s.lo, .int .i64 s.hi, .string s.kept, .int .i64 s.half, .int .i64 s.mode])] w1 (PO w1 l))) : Calls Try.prog 42 #[.int .i64 2, (.agg #[.int .i64 s.need, .int .i64 s.code, .int .i64 s.lo, .int .i64 s.hi, .string s.kept, .int .i64 s.half, .int .i64 s.mode])] w (PO w l) := by
  go_enter Try.func42, Try.ntmps42
  go_wp2_with fail
  refine (H.out _).mono ?_
  rintro e w1 ⟨v, rfl, ho, hb1⟩
  replace ho := hid ho
  go_wp2_with fail
  go_ret
  exact ⟨v, rfl, ho.out.base (by simp), one_box hb1⟩
set_option maxRecDepth 100000 in
set_option maxHeartbeats 400000 in
theorem finish_6 (s : S) (l : List Int) (w : World) (h : sEq s ⟨0, 0, 0, 0, ⟨#[]⟩, 0, 0⟩ = false) (H : Hid (∀ w1, Calls Try.prog 67 #[(.agg #[.int .i64 s.need, .int .i64 s.code, .int .i64 s.lo, .int .i64 s.hi, .string s.kept, .int .i64 s.half, .int .i64 s.mode])] w1 (PO w1 l))) : Calls Try.prog 42 #[.int .i64 6, (.agg #[.int .i64 s.need, .int .i64 s.code, .int .i64 s.lo, .int .i64 s.hi, .string s.kept, .int .i64 s.half, .int .i64 s.mode])] w (PO w l) := by
  go_enter Try.func42, Try.ntmps42
  go_wp2_with fail
  refine (H.out _).mono ?_
  rintro e w1 ⟨v, rfl, ho, hb1⟩
  replace ho := hid ho
  go_wp2_with fail
  go_ret
  exact ⟨v, rfl, ho.out.base (by simp), one_box hb1⟩

/-- What is known of an encoding's functions. -/
structure Con (e : Int) (M : Mach) : Prop where
  law : M.Law
  lo : 1 ≤ e
  hi : e ≤ 6
  off : ∀ q (b : UInt8) w, M.ok q → Calls Try.prog 74 #[.int .i64 e, (.agg #[.int .i64 ((M.toS q).need), .int .i64 ((M.toS q).code), .int .i64 ((M.toS q).lo), .int .i64 ((M.toS q).hi), .string ((M.toS q).kept), .int .i64 ((M.toS q).half), .int .i64 ((M.toS q).mode)]), .int .i64 (b.toNat : Int)] w (PSOB w (M.toS (M.offer q b).1) (M.offer q b).2.1 (M.offer q b).2.2)
  fin : ∀ q w, M.ok q → Calls Try.prog 42 #[.int .i64 e, (.agg #[.int .i64 ((M.toS q).need), .int .i64 ((M.toS q).code), .int .i64 ((M.toS q).lo), .int .i64 ((M.toS q).hi), .string ((M.toS q).kept), .int .i64 ((M.toS q).half), .int .i64 ((M.toS q).mode)])] w (PO w (M.fin q))
  few : ∀ q b, M.ok q → (M.offer q b).2.1.length ≤ 2
  end_ : ∀ q, (M.fin q).length ≤ 2
  low : ∀ q, M.rank q ≤ 2
end Go.Proofs.Ytloaemijhggheaa

/- process: a byte is offered until it is used up. -/
namespace Go.Proofs.Ytloaemijhggheaa
open Go.RowKit
attribute [local go_sem ↓] run_eqS run_neS
attribute [local go_sem] byte_at0 byte_at20 byte_at21 w64 S.v and63 and31 and15 and7 kw kw256

/-- What holds at the head of process's loop. -/
def ProcR (M : Mach) (q0 : M.Q) (b : UInt8) (w : World) (k : Nat) (o8 a9 : Value) (wr : World) : Prop :=
  ∃ (q : M.Q) (l : List Int) (a : Bool), a9 = .bool a ∧ HasS wr w.heap.size (M.toS q) ∧ HasS wr (w.heap.size + 1) .zero ∧ Out wr (w.heap.size + 2) o8 l ∧ Below w.heap.size w wr ∧ M.ok q ∧ l.length + 2 * k ≤ 8 ∧
    (a = true → M.rank q < k ∧ M.proc q0 b = ((M.procF k q b).1, l ++ (M.procF k q b).2)) ∧ (a = false → M.proc q0 b = (q, l))
theorem proc_first {e : Int} {M : Mach} (C : Con e M) {q : M.Q} (hq : M.ok q) (b : UInt8) :
    (M.offer q b).2.1.length + 2 * M.rank q ≤ 8 ∧ ((M.offer q b).2.2 = true → M.rank (M.offer q b).1 < M.rank q ∧ M.proc q b = ((M.procF (M.rank q) (M.offer q b).1 b).1, (M.offer q b).2.1 ++ (M.procF (M.rank q) (M.offer q b).1 b).2)) ∧
    ((M.offer q b).2.2 = false → M.proc q b = ((M.offer q b).1, (M.offer q b).2.1)) := by
  refine ⟨?_, fun h => ⟨C.law.drop q b hq h, ?_⟩, fun h => ?_⟩
  · have := C.few q b hq; have := C.low q; omega
  · simp [Mach.proc, Mach.procF, h]
  · simp [Mach.proc, Mach.procF, h]
theorem proc_next {e : Int} {M : Mach} (C : Con e M) {q0 q : M.Q} {l : List Int} {k : Nat} (hq : M.ok q) (b : UInt8) (hl : l.length + 2 * k ≤ 8) (hr : M.rank q < k) (hp : M.proc q0 b = ((M.procF k q b).1, l ++ (M.procF k q b).2)) :
    ∃ n, n + 1 = k ∧ (l ++ (M.offer q b).2.1).length + 2 * n ≤ 8 ∧ ((M.offer q b).2.2 = true → M.rank (M.offer q b).1 < n ∧ M.proc q0 b = ((M.procF n (M.offer q b).1 b).1, (l ++ (M.offer q b).2.1) ++ (M.procF n (M.offer q b).1 b).2)) ∧
    ((M.offer q b).2.2 = false → M.proc q0 b = ((M.offer q b).1, l ++ (M.offer q b).2.1)) := by
  obtain ⟨n, rfl⟩ : ∃ n, k = n + 1 := ⟨k - 1, by omega⟩
  refine ⟨n, rfl, ?_, fun h => ⟨?_, ?_⟩, fun h => ?_⟩
  · have := C.few q b hq; simp; omega
  · have := C.law.drop q b hq h; omega
  · rw [hp]; simp [Mach.procF, h]
  · rw [hp]; simp [Mach.procF, h]

set_option maxRecDepth 100000 in
set_option maxHeartbeats 1000000 in
theorem process_any {e : Int} {M : Mach} (C : Con e M) (q : M.Q) (hq : M.ok q) (b : UInt8) (w : World) : Calls Try.prog 45 #[.int .i64 e, (.agg #[.int .i64 ((M.toS q).need), .int .i64 ((M.toS q).code), .int .i64 ((M.toS q).lo), .int .i64 ((M.toS q).hi), .string ((M.toS q).kept), .int .i64 ((M.toS q).half), .int .i64 ((M.toS q).mode)]), .int .i64 (b.toNat : Int)] w (PSO w (M.toS (M.proc q b).1) (M.proc q b).2) := by
  have H := hid (fun w1 => C.off q b w1 hq)
  have h1 := hid (proc_first C hq b)
  have hok := C.law.step q b hq
  go_enter Try.func45, Try.ntmps45
  go_wp2_with fail
  refine (H.out _).mono ?_
  rintro e' w1 ⟨v, rfl, ho, hb1⟩
  obtain ⟨hc, hf⟩ := bcell hb1
  replace ho := hid ho
  have h0 : ProcR M q b w (M.rank q) v (.bool (M.offer q b).2.2) (((((((w1.setCell ⟨w.heap.size, 0, none⟩ (.int .i64 (M.toS (M.offer q b).1).need)).setCell ⟨w.heap.size, 1, none⟩ (.int .i64 (M.toS (M.offer q b).1).code)).setCell ⟨w.heap.size, 2, none⟩ (.int .i64 (M.toS (M.offer q b).1).lo)).setCell ⟨w.heap.size, 3, none⟩ (.int .i64 (M.toS (M.offer q b).1).hi)).setCell ⟨w.heap.size, 4, none⟩ (.string (M.toS (M.offer q b).1).kept)).setCell ⟨w.heap.size, 5, none⟩ (.int .i64 (M.toS (M.offer q b).1).half)).setCell ⟨w.heap.size, 6, none⟩ (.int .i64 (M.toS (M.offer q b).1).mode)) :=
    ⟨_, _, _, rfl, (HasS.box21 hb1).put7 _, (HasS.box2 hb1).far7 (by omega) _ _ _ _ _ _ _, (ho.out.put7 (by simp; omega) _ _ _ _ _ _ _).base (by simp), put7 (two_boxes hb1) (Nat.le_refl _) _ _ _ _ _ _ _, hok, h1.out⟩
  replace h0 := hid h0
  clear h1 hok
  go_wp2_with fail
  clear hc hf
  go_loopg [8, 9, 10] (M.rank q) (fun k o8 a9 _ wr => ProcR M q b w k o8 a9 wr)
  case atStart => exact h0.out
  case round =>
    clear h0 H ho hb1
    obtain ⟨q', l, a, rfl, hS, hR, ho, hb, hok, hl, ht, hf⟩ := hrel
    cases a
    · have hp := hid (hf rfl)
      clear ht hf
      have hS3 := hS
      obtain ⟨c0, c1, c2, c3, c4, c5, c6, cz⟩ := hS3
      have hR3 := hR
      obtain ⟨r0, r1, r2, r3, r4, r5, r6, rz⟩ := hR3
      go_wp2_with fail
      rw [hp.out]
      refine bodyPost_ret (ret_SO rfl rfl (hR.put7 (M.toS q'))) rfl ⟨u8, rfl, ?_, ?_⟩
      · exact (ho.put7 (by omega) _ _ _ _ _ _ _).base (by omega)
      · exact put7 hb (by omega) _ _ _ _ _ _ _
    · obtain ⟨hr, hp⟩ := ht rfl
      obtain ⟨n, hn, hx⟩ := proc_next C hok b hl hr hp
      replace hx := hid hx
      clear ht hf hp
      have hok2 := C.law.step q' b hok
      have hfew := C.few q' b hok
      have H := hid (fun w1 => C.off q' b w1 hok)
      have hlen : l.length ≤ 8 := by omega
      have hS3 := hS
      obtain ⟨c0, c1, c2, c3, c4, c5, c6, cz⟩ := hS3
      go_wp2_with fail
      refine (H.out _).mono ?_
      rintro e' w2 ⟨v2, rfl, ho2, hb2⟩
      clear c0 c1 c2 c3 c4 c5 c6 cz
      have hS2 := hS.below hb2 hS.lt
      have hR2 := hR.below hb2 hR.lt
      have ho3 := ho.below hb2
      have hS3 := hS2
      obtain ⟨c0, c1, c2, c3, c4, c5, c6, cz⟩ := hS3
      have hw := hb.size
      have hB : Below w.heap.size w (((((((w2.setCell ⟨w.heap.size, 0, none⟩ (.int .i64 (M.toS (M.offer q' b).1).need)).setCell ⟨w.heap.size, 1, none⟩ (.int .i64 (M.toS (M.offer q' b).1).code)).setCell ⟨w.heap.size, 2, none⟩ (.int .i64 (M.toS (M.offer q' b).1).lo)).setCell ⟨w.heap.size, 3, none⟩ (.int .i64 (M.toS (M.offer q' b).1).hi)).setCell ⟨w.heap.size, 4, none⟩ (.string (M.toS (M.offer q' b).1).kept)).setCell ⟨w.heap.size, 5, none⟩ (.int .i64 (M.toS (M.offer q' b).1).half)).setCell ⟨w.heap.size, 6, none⟩ (.int .i64 (M.toS (M.offer q' b).1).mode)) := put7 (Below.trans hb (hb2.mono hw)) (Nat.le_refl _) _ _ _ _ _ _ _
      have hA : Out (((((((w2.setCell ⟨w.heap.size, 0, none⟩ (.int .i64 (M.toS (M.offer q' b).1).need)).setCell ⟨w.heap.size, 1, none⟩ (.int .i64 (M.toS (M.offer q' b).1).code)).setCell ⟨w.heap.size, 2, none⟩ (.int .i64 (M.toS (M.offer q' b).1).lo)).setCell ⟨w.heap.size, 3, none⟩ (.int .i64 (M.toS (M.offer q' b).1).hi)).setCell ⟨w.heap.size, 4, none⟩ (.string (M.toS (M.offer q' b).1).kept)).setCell ⟨w.heap.size, 5, none⟩ (.int .i64 (M.toS (M.offer q' b).1).half)).setCell ⟨w.heap.size, 6, none⟩ (.int .i64 (M.toS (M.offer q' b).1).mode)) (w.heap.size + 2) u8 l := ho3.put7 (by omega) _ _ _ _ _ _ _
      have hP : Out (((((((w2.setCell ⟨w.heap.size, 0, none⟩ (.int .i64 (M.toS (M.offer q' b).1).need)).setCell ⟨w.heap.size, 1, none⟩ (.int .i64 (M.toS (M.offer q' b).1).code)).setCell ⟨w.heap.size, 2, none⟩ (.int .i64 (M.toS (M.offer q' b).1).lo)).setCell ⟨w.heap.size, 3, none⟩ (.int .i64 (M.toS (M.offer q' b).1).hi)).setCell ⟨w.heap.size, 4, none⟩ (.string (M.toS (M.offer q' b).1).kept)).setCell ⟨w.heap.size, 5, none⟩ (.int .i64 (M.toS (M.offer q' b).1).half)).setCell ⟨w.heap.size, 6, none⟩ (.int .i64 (M.toS (M.offer q' b).1).mode)) wr.heap.size v2 (M.offer q' b).2.1 := ho2.put7 hS.lt _ _ _ _ _ _ _
      have hS4 := hS2.put7 (M.toS (M.offer q' b).1)
      have hR4 := hR2.far7 (blk := w.heap.size) (by omega) (.int .i64 (M.toS (M.offer q' b).1).need) (.int .i64 (M.toS (M.offer q' b).1).code) (.int .i64 (M.toS (M.offer q' b).1).lo) (.int .i64 (M.toS (M.offer q' b).1).hi) (.string (M.toS (M.offer q' b).1).kept) (.int .i64 (M.toS (M.offer q' b).1).half) (.int .i64 (M.toS (M.offer q' b).1).mode)
      have hz : w.heap.size + 2 ≤ w2.heap.size := by have := hR2.lt; omega
      go_wp2_with (at_builtin; refine list_appO rfl (.tmp 28) (.tmp 29) rfl (v := u8) (v2 := v2) rfl rfl hA hP (by rw [size7]; exact hz) (by omega) ?_; intro v3 w3 ho4 hb4)
      go_roundg n
      case rel => exact ⟨_, _, _, rfl, hS4.below hb4 (by omega), hR4.below hb4 (by omega), ho4, Below.trans hB (hb4.mono (by omega)), hok2, hx.out⟩
      all_goals omega
end Go.Proofs.Ytloaemijhggheaa

/- Feed: all bytes, one by one. -/
namespace Go.Proofs.Ytloaemijhggheaa
open Go.RowKit
attribute [local go_sem ↓] run_eqS run_neS
attribute [local go_sem] byte_at0 byte_at20 byte_at21 w64 S.v and63 and31 and15 and7 kw kw256

theorem Mach.feed_append (M : Mach) (x y : List UInt8) : ∀ q, M.feed q (x ++ y) = ((M.feed (M.feed q x).1 y).1, (M.feed q x).2 ++ (M.feed (M.feed q x).1 y).2) := by
  induction x with
  | nil => intro q; simp [Mach.feed]
  | cons b r ih => intro q; simp [Mach.feed, ih]
theorem Mach.feed_snoc (M : Mach) (q : M.Q) (x : List UInt8) (b : UInt8) : M.feed q (x ++ [b]) = ((M.proc (M.feed q x).1 b).1, (M.feed q x).2 ++ (M.proc (M.feed q x).1 b).2) := by
  rw [M.feed_append]; simp [Mach.feed]
theorem Con.procF_ok {e : Int} {M : Mach} (C : Con e M) (b : UInt8) : ∀ n q, M.ok q → M.ok (M.procF n q b).1 ∧ (M.procF n q b).2.length ≤ 2 * n
  | 0, q, hq => ⟨hq, by simp [Mach.procF]⟩
  | n + 1, q, hq => by
    have h1 := C.law.step q b hq
    have h2 := C.few q b hq
    have h3 := C.procF_ok b n _ h1
    unfold Mach.procF
    split
    · exact ⟨h3.1, by simp; omega⟩
    · exact ⟨h1, by simp; omega⟩
theorem Con.proc_ok {e : Int} {M : Mach} (C : Con e M) {q : M.Q} (b : UInt8) (hq : M.ok q) : M.ok (M.proc q b).1 ∧ (M.proc q b).2.length ≤ 6 := by
  have h := C.procF_ok b (M.rank q + 1) q hq
  have := C.low q
  exact ⟨h.1, by unfold Mach.proc; omega⟩
theorem Con.feed_ok {e : Int} {M : Mach} (C : Con e M) (x : List UInt8) : ∀ q, M.ok q → M.ok (M.feed q x).1 ∧ (M.feed q x).2.length ≤ 6 * x.length := by
  induction x with
  | nil => intro q hq; exact ⟨hq, by simp [Mach.feed]⟩
  | cons b r ih =>
    intro q hq
    have h1 := C.proc_ok b hq
    have h2 := ih _ h1.1
    exact ⟨h2.1, by simp [Mach.feed]; omega⟩
theorem take_snoc (s : ByteArray) (k : Nat) (h : k < s.size) : s.data.toList.take (k + 1) = s.data.toList.take k ++ [s[k]] := by
  rw [List.take_succ_eq_append_getElem (by simpa using h)]; rfl

set_option maxHeartbeats 400000 in
theorem isEnc_yes (e : Int) (w : World) (h1 : 1 ≤ e) (h2 : e ≤ 6) : Calls Try.prog 44 #[.int .i64 e] w fun r w' => r = .returned (.bool true) ∧ w = w' := by
  go_enter Try.func44, Try.ntmps44
  go_wp2
  go_ret
  exact ⟨rfl, rfl⟩
set_option maxHeartbeats 400000 in
theorem isEnc_no (e : Int) (w : World) (h : ¬ (1 ≤ e ∧ e ≤ 6)) : Calls Try.prog 44 #[.int .i64 e] w fun r w' => r = .returned (.bool false) ∧ w = w' := by
  by_cases h1 : 1 ≤ e
  · have h2 : ¬ e ≤ 6 := fun h2 => h ⟨h1, h2⟩
    clear h
    go_enter Try.func44, Try.ntmps44
    go_wp2
    go_ret
    exact ⟨rfl, rfl⟩
  · clear h
    go_enter Try.func44, Try.ntmps44
    go_wp2
    go_ret
    exact ⟨rfl, rfl⟩

/-- A call hands back a state, a list and an error's number. -/
def PSOE (w : World) (s : S) (l : List Int) (n : Int) (e : Ending) (w' : World) : Prop := ∃ v, e = .returned (.tuple #[s.v, v, .int .i64 n]) ∧ Out w' w.heap.size v l ∧ Below w.heap.size w w'
/-- The state of an encoding is taken for good. -/
def Goods (e : Int) (M : Mach) : Prop := ∀ q w, M.ok q → Calls Try.prog 21 #[.int .i64 e, (.agg #[.int .i64 ((M.toS q).need), .int .i64 ((M.toS q).code), .int .i64 ((M.toS q).lo), .int .i64 ((M.toS q).hi), .string ((M.toS q).kept), .int .i64 ((M.toS q).half), .int .i64 ((M.toS q).mode)])] w fun r w' => r = .returned (.bool true) ∧ Below w.heap.size w w'
/-- What holds at the head of Feed's loop. -/
def FeedR (M : Mach) (q : M.Q) (s : ByteArray) (w : World) (o9 i28 : Value) (wr : World) : Prop :=
  ∃ k : Nat, k ≤ s.size ∧ i28 = .int .i64 k ∧ HasS wr w.heap.size (M.toS (M.feed q (s.data.toList.take k)).1) ∧ HasS wr (w.heap.size + 1) .zero ∧ Out wr (w.heap.size + 2) o9 (M.feed q (s.data.toList.take k)).2 ∧ Below w.heap.size w wr
/-- What lies there when a byte has been processed. -/
def FedR (w : World) (s0 s1 : S) (o9 : Value) (l0 l1 : List Int) (s11 s12 : Value) (wx : World) : Prop :=
  ∃ g B : Nat, s11 = .pointer (some ⟨g, 0, none⟩) ∧ HasS wx g s1 ∧ HasS wx w.heap.size s0 ∧ HasS wx (w.heap.size + 1) .zero ∧ Out wx (w.heap.size + 2) o9 l0 ∧ Out wx B s12 l1 ∧ Below w.heap.size w wx ∧ w.heap.size + 1 < g ∧ some g ≠ o9.ownBlock

set_option maxRecDepth 100000 in
set_option maxHeartbeats 2000000 in
theorem feed_any {e : Int} {M : Mach} (C : Con e M) (G : Goods e M) (q : M.Q) (hq : M.ok q) (s : ByteArray) (hs : s.size ≤ 4000) (w : World) : Calls Try.prog 19 #[.int .i64 e, (.agg #[.int .i64 ((M.toS q).need), .int .i64 ((M.toS q).code), .int .i64 ((M.toS q).lo), .int .i64 ((M.toS q).hi), .string ((M.toS q).kept), .int .i64 ((M.toS q).half), .int .i64 ((M.toS q).mode)]), .string s] w (PSOE w (M.toS (M.feed q s.data.toList).1) (M.feed q s.data.toList).2 0) := by
  have h1 := C.lo
  have h2 := C.hi
  have HG := hid (fun w1 => G q w1 hq)
  go_enter Try.func19, Try.ntmps19
  go_wp2_with fail
  refine (isEnc_yes _ _ h1 h2).mono ?_
  rintro e' w' ⟨rfl, rfl⟩
  go_wp2_with fail
  refine (HG.out _).mono ?_
  rintro e' w1 ⟨rfl, hb1⟩
  go_wp2_with fail
  have h0 : FeedR M q s w (.slice none 0 0) (.int .i64 0) w1 := ⟨0, Nat.zero_le _, rfl, HasS.box21 hb1, HasS.box2 hb1, Out.nil _ _, two_boxes hb1⟩
  replace h0 := hid h0
  clear hb1 HG
  go_loopw [9, 28] (fun o9 i28 wr => FeedR M q s w o9 i28 wr) (fun _ i _ => s.size - (intOf i).toNat)
  case atStart => exact h0.out
  case round =>
    clear h0
    obtain ⟨k, hk, rfl, hS, hR, ho, hb⟩ := hrel
    have hkk := C.feed_ok (s.data.toList.take k) q hq
    have hlen : (M.feed q (s.data.toList.take k)).2.length ≤ 24000 := by
      have := hkk.2; have : (s.data.toList.take k).length ≤ k := List.length_take_le _ _; omega
    by_cases hlt : k < s.size
    · have hfin := M.feed_snoc q (s.data.toList.take k) s[k]
      rw [← take_snoc s k hlt] at hfin
      replace hfin := hid hfin
      have hpl := (C.proc_ok s[k] hkk.1).2
      have HP := hid (fun w1 => process_any C _ hkk.1 s[k] w1)
      clear hkk
      generalize (M.feed q (s.data.toList.take k)).2 = l0 at *
      generalize (M.feed q (s.data.toList.take k)).1 = q0 at *
      have hS3 := hS
      obtain ⟨c0, c1, c2, c3, c4, c5, c6, cz⟩ := hS3
      go_upto_region 11 with fail
      go_cut [11, 12] (FedR w (M.toS q0) (M.toS (M.proc q0 s[k]).1) u9 l0 (M.proc q0 s[k]).2)
      case first =>
        go_region_held3 (fun w' => w'.cell? ⟨w.heap.size, 0, none⟩ = some (.int .i64 (M.toS q0).need) ∧ w'.cell? ⟨w.heap.size, 1, none⟩ = some (.int .i64 (M.toS q0).code) ∧ w'.cell? ⟨w.heap.size, 2, none⟩ = some (.int .i64 (M.toS q0).lo) ∧ w'.cell? ⟨w.heap.size, 3, none⟩ = some (.int .i64 (M.toS q0).hi) ∧ w'.cell? ⟨w.heap.size, 4, none⟩ = some (.string (M.toS q0).kept) ∧ w'.cell? ⟨w.heap.size, 5, none⟩ = some (.int .i64 (M.toS q0).half) ∧ w'.cell? ⟨w.heap.size, 6, none⟩ = some (.int .i64 (M.toS q0).mode))
          (first | go_keep | (with_reducible exact k1) | (with_reducible exact k2.out _) | (with_reducible exact k3.out _ _ _ _ _ _ _))
          (first
            | (go_at_call 45; refine (HP.out _).mono ?_; rintro e' w2 ⟨v2, rfl, ho2, hb2⟩; have hb4 : Below wr.heap.size wr w2 := undrew hb2; have hb3 := hb4; have hS2 := hS.below hb3 hS.lt; have k1 := hS2.cells; have k2 := hid (fun o => (hS2.alloc o).cells); have k3 := hid (fun u0 u1 u2 u3 u4 u5 u6 => (hS2.far7 (blk := wr.heap.size) (Nat.ne_of_gt hS.lt) u0 u1 u2 u3 u4 u5 u6).cells); replace ho2 := hid ho2)
            | (go_at_call 45; refine (HP.out _).mono ?_; rintro e' w2 ⟨v2, rfl, ho2, hb2⟩; have hb3 : Below wr.heap.size wr w2 := one_box (undrew hb2); have hS2 := hS.below hb3 hS.lt; have k1 := hS2.cells; have k2 := hid (fun o => (hS2.alloc o).cells); have k3 := hid (fun u0 u1 u2 u3 u4 u5 u6 => (hS2.far7 (blk := wr.heap.size) (Nat.ne_of_gt hS.lt) u0 u1 u2 u3 u4 u5 u6).cells); replace ho2 := hid ho2; have hN : HasS w2 wr.heap.size .zero := HasS.box1 (undrew hb2); have hN2 := hN; obtain ⟨r0, r1, r2, r3, r4, r5, r6, rz⟩ := hN2))
        · go_wp2_with fail
          go_meet
          have hR2 := hR.below hb3 hR.lt
          have hz := hb3.size
          have hl := hR.lt
          exact ⟨_, _, rfl, HasS.new _ (M.toS (M.proc q0 s[k]).1), hS2.alloc _, hR2.alloc _, (ho.below hb3).alloc _, ho2.out.alloc _, Below.alloc (hb.trans (hb3.mono hb.size)) (by omega) _, by omega, ho.apart hz⟩
        all_goals
          go_wp2_with fail
          go_meet
          have hR2 := hR.below hb3 hR.lt
          have hz := hb3.size
          have hl := hR.lt
          have hl0 := hS.lt
          exact ⟨_, _, rfl, hN.put7 (M.toS (M.proc q0 s[k]).1), hS2.far7 (Nat.ne_of_gt hl0) _ _ _ _ _ _ _, hR2.far7 (Nat.ne_of_gt hl) _ _ _ _ _ _ _, (ho.below hb3).far7 (ho.apart (Nat.le_refl _)) _ _ _ _ _ _ _, (unOut ho2.out).put7 (by simp) _ _ _ _ _ _ _, put7 (hb.trans (hb3.mono hb.size)) (by omega) _ _ _ _ _ _ _, by omega, ho.apart (Nat.le_refl _)⟩
      case rest =>
        clear c0 c1 c2 c3 c4 c5 c6 cz hS hR ho hb HP
        obtain ⟨g, B, rfl, hN, hS, hR, ho, ho2, hb, hg, hne⟩ := hcut
        have hN1 := hN.drew
        have hS1 := hS.drew
        have hR1 := hR.drew
        have hA := ho.drew
        have hP := ho2.drew
        have hz := hR.lt
        have n0 : some w.heap.size ≠ u9.ownBlock := fun e => by have := ho.far _ e.symm; omega
        have n1 : some (w.heap.size + 1) ≠ u9.ownBlock := fun e => by have := ho.far _ e.symm; omega
        go_wp2_with fail
        go_region_held3 (fun w' => w'.cell? ⟨g, 0, none⟩ = some (.int .i64 (M.toS (M.proc q0 s[k]).1).need) ∧ w'.cell? ⟨g, 1, none⟩ = some (.int .i64 (M.toS (M.proc q0 s[k]).1).code) ∧ w'.cell? ⟨g, 2, none⟩ = some (.int .i64 (M.toS (M.proc q0 s[k]).1).lo) ∧ w'.cell? ⟨g, 3, none⟩ = some (.int .i64 (M.toS (M.proc q0 s[k]).1).hi) ∧ w'.cell? ⟨g, 4, none⟩ = some (.string (M.toS (M.proc q0 s[k]).1).kept) ∧ w'.cell? ⟨g, 5, none⟩ = some (.int .i64 (M.toS (M.proc q0 s[k]).1).half) ∧ w'.cell? ⟨g, 6, none⟩ = some (.int .i64 (M.toS (M.proc q0 s[k]).1).mode))
          (first | (with_reducible exact hN.cells) | (with_reducible exact hN1.cells) | (with_reducible exact k2) | (with_reducible exact k3.out _ _ _ _ _ _ _))
          ((refine step_appG (v := u9) (v2 := u12) (by rfl) (.tmp 42) (.tmp 43) (by rfl) (by rfl) (by rfl) hA hP (by simp; omega) (by omega) ?_; intro v3 w3 ho3 hg3; have hN2 := hN1.grown hg3 hne; have k2 := hN2.cells; have k3 := hid (fun u0 u1 u2 u3 u4 u5 u6 => (hN2.far7 (blk := w.heap.size) (by omega) u0 u1 u2 u3 u4 u5 u6).cells); have hS2 := hS1.grown hg3 n0; have hS3 := hS2; obtain ⟨r0, r1, r2, r3, r4, r5, r6, rz⟩ := hS3))
        go_wp2_with fail
        go_roundw
        case rel =>
          refine ⟨k + 1, by omega, by go_num, ?_, ?_, ?_, ?_⟩
          · rw [hfin.out]; exact hS2.put7 _
          · exact (hR1.grown hg3 n1).far7 (by omega) _ _ _ _ _ _ _
          · rw [hfin.out]; exact ho3.put7 (by omega) _ _ _ _ _ _ _
          · exact put7 (Below.grown (Below.drew hb) hg3 hb.size (fun k hk => by have := ho.far _ hk; omega)) (Nat.le_refl _) _ _ _ _ _ _ _
        case measure => simp [intOf]; omega
    · have e : s.data.toList.take k = s.data.toList := List.take_of_length_le (by simp; omega)
      rw [e] at hS ho
      clear e hkk hlen
      have hS3 := hS
      obtain ⟨c0, c1, c2, c3, c4, c5, c6, cz⟩ := hS3
      have hR3 := hR
      obtain ⟨r0, r1, r2, r3, r4, r5, r6, rz⟩ := hR3
      go_wp2_with fail
      refine bodyPost_ret (ret_SOB rfl rfl (hR.put7 (M.toS (M.feed q s.data.toList).1))) rfl ⟨u9, rfl, ?_, ?_⟩
      · exact (ho.put7 (by omega) _ _ _ _ _ _ _).base (by omega)
      · exact put7 hb (by omega) _ _ _ _ _ _ _
end Go.Proofs.Ytloaemijhggheaa

/- Each encoding's machine keeps its law; what is known of each encoding. -/
namespace Go.Proofs.Ytloaemijhggheaa
open Go.RowKit

theorem ite_p {α : Type} {c : Prop} [Decidable c] {P : α → Prop} {a b : α} (h1 : c → P a) (h2 : ¬ c → P b) : P (if c then a else b) := by
  by_cases h : c
  · rw [if_pos h]; exact h1 h
  · rw [if_neg h]; exact h2 h
theorem firstU_ok (b : UInt8) : (firstU b).1.ok ∧ (firstU b).2.length ≤ 1 := by
  have h1 := nb_lt b; have h2 := nb_nonneg b
  unfold firstU
  refine ite_p (P := fun x : U × List Int => x.1.ok ∧ x.2.length ≤ 1) (fun _ => ⟨trivial, Nat.le_refl 1⟩) fun _ => ?_
  refine ite_p (P := fun x : U × List Int => x.1.ok ∧ x.2.length ≤ 1) (fun _ => ⟨Or.inl ⟨rfl, by omega, by omega, by omega⟩, Nat.zero_le 1⟩) fun _ => ?_
  refine ite_p (P := fun x : U × List Int => x.1.ok ∧ x.2.length ≤ 1) (fun _ => ⟨Or.inr (Or.inl ⟨rfl, by omega, by omega⟩), Nat.zero_le 1⟩) fun _ => ?_
  refine ite_p (P := fun x : U × List Int => x.1.ok ∧ x.2.length ≤ 1) (fun _ => ⟨Or.inr (Or.inr ⟨rfl, by omega, by omega⟩), Nat.zero_le 1⟩) fun _ => ?_
  exact ⟨trivial, Nat.le_refl 1⟩
theorem firstT_ok (b : UInt8) : twOk (firstT b).1 ∧ (firstT b).2.length ≤ 1 := by
  unfold firstT
  refine ite_p (P := fun x : Option UInt8 × List Int => twOk x.1 ∧ x.2.length ≤ 1) (fun _ => ⟨trivial, Nat.le_refl 1⟩) fun _ => ?_
  refine ite_p (P := fun x : Option UInt8 × List Int => twOk x.1 ∧ x.2.length ≤ 1) (fun _ => ⟨trivial, Nat.le_refl 1⟩) fun _ => ?_
  refine ite_p (P := fun x : Option UInt8 × List Int => twOk x.1 ∧ x.2.length ≤ 1) (fun h => ⟨h, Nat.zero_le 1⟩) fun _ => ?_
  exact ⟨trivial, Nat.le_refl 1⟩
theorem secondT_few (b c : UInt8) : (secondT b c).1.length ≤ 1 := by
  unfold secondT
  refine ite_p (P := fun x : List Int × Bool => x.1.length ≤ 1) (fun _ => Nat.le_refl 1) fun _ => ?_
  exact ite_p (P := fun x : List Int × Bool => x.1.length ≤ 1) (fun _ => Nat.le_refl 1) fun _ => Nat.le_refl 1
theorem latinL_few (b : UInt8) : (latinL b).length ≤ 1 := by
  unfold latinL
  refine ite_p (P := fun x : List Int => x.length ≤ 1) (fun _ => Nat.le_refl 1) fun _ => ?_
  exact ite_p (P := fun x : List Int => x.length ≤ 1) (fun _ => Nat.le_refl 1) fun _ => Nat.le_refl 1
theorem lawU : mU.Law where
  zero := rfl
  init := trivial
  step := fun q b hq => by
    have h1 := nb_lt b; have h2 := nb_nonneg b
    cases q with
    | zero =>
      have h := firstU_ok b
      simp only [mU, U.offer]
      generalize firstU b = x at h ⊢
      exact h.1
    | seq n c =>
      change U.ok (.seq n c) at hq
      show (U.offer (.seq n c) b).1.ok
      simp only [U.ok] at hq
      simp only [U.offer]
      by_cases h : nb b < loU n c ∨ hiU n c < nb b
      · rw [if_pos h]; trivial
      rw [if_neg h]
      by_cases hn : n = 1
      · rw [if_pos hn]; trivial
      rw [if_neg hn]
      simp only [U.ok]
      unfold loU hiU at h
      omega
  drop := fun q b hq h => by
    cases q with
    | zero => cases h
    | seq n c =>
      change (U.offer (.seq n c) b).2.2 = true at h
      show (U.offer (.seq n c) b).1.rank < 1
      simp only [U.offer] at h ⊢
      by_cases h1 : nb b < loU n c ∨ hiU n c < nb b
      · rw [if_pos h1]; decide
      · rw [if_neg h1] at h
        split at h <;> cases h
theorem lawT : mT.Law where
  zero := rfl
  init := trivial
  step := fun q b _ => by
    cases q with
    | none =>
      have h := firstT_ok b
      simp only [mT, twOffer]
      generalize firstT b = x at h ⊢
      exact h.1
    | some k => trivial
  drop := fun q b _ h => by
    cases q with
    | none => cases h
    | some k => show 0 < 1; decide
theorem lawLat : mLat.Law where
  zero := rfl
  init := trivial
  step := fun _ _ _ => trivial
  drop := fun _ _ _ h => by cases h
theorem firstSh_all (d : Bool) (b : UInt8) : shOk (firstSh d b).1 ∧ shRank (firstSh d b).1 ≤ 1 ∧ (firstSh d b).2.length ≤ 1 := by
  unfold firstSh firstD
  refine ite_p (P := fun x : (Bool × K) × List Int => shOk x.1 ∧ shRank x.1 ≤ 1 ∧ x.2.length ≤ 1) (fun _ => ⟨trivial, Nat.le_refl 1, Nat.zero_le 1⟩) fun _ => ?_
  refine ite_p (P := fun x : (Bool × K) × List Int => shOk x.1 ∧ shRank x.1 ≤ 1 ∧ x.2.length ≤ 1) (fun _ => ?_) fun _ => ?_
  · refine ite_p (P := fun x : (Bool × K) × List Int => shOk x.1 ∧ shRank x.1 ≤ 1 ∧ x.2.length ≤ 1) (fun _ => ⟨trivial, Nat.zero_le 1, Nat.le_refl 1⟩) fun _ => ?_
    exact ite_p (P := fun x : (Bool × K) × List Int => shOk x.1 ∧ shRank x.1 ≤ 1 ∧ x.2.length ≤ 1) (fun h => ⟨⟨rfl, h.1, h.2⟩, Nat.le_refl 1, Nat.zero_le 1⟩) fun _ => ⟨trivial, Nat.zero_le 1, Nat.le_refl 1⟩
  · exact ite_p (P := fun x : (Bool × K) × List Int => shOk x.1 ∧ shRank x.1 ≤ 1 ∧ x.2.length ≤ 1) (fun _ => ⟨trivial, Nat.zero_le 1, Nat.le_refl 1⟩) fun _ => ⟨trivial, Nat.zero_le 1, Nat.le_refl 1⟩
theorem firstSh_ok (d : Bool) (b : UInt8) : shOk (firstSh d b).1 := (firstSh_all d b).1
theorem firstSh_rank (d : Bool) (b : UInt8) : shRank (firstSh d b).1 ≤ 1 := (firstSh_all d b).2.1
theorem firstSh_few (d : Bool) (b : UInt8) : (firstSh d b).2.length ≤ 1 := (firstSh_all d b).2.2
theorem lawSh : mSh.Law where
  zero := rfl
  init := trivial
  step := fun q b hq => by
    obtain ⟨d, k⟩ := q
    show shOk (shOffer (d, k) b).1
    cases k with
    | none => exact firstSh_ok d b
    | esc => simp only [shOffer]; split <;> (try split) <;> trivial
    | par => simp only [shOffer]; split <;> first | trivial | exact firstSh_ok d 40
    | dol => simp only [shOffer]; split <;> first | trivial | exact firstSh_ok d 36
    | half c => trivial
  drop := fun q b hq h => by
    obtain ⟨d, k⟩ := q
    change (shOffer (d, k) b).2.2 = true at h
    show shRank (shOffer (d, k) b).1 < shRank (d, k)
    cases k with
    | none => cases h
    | esc =>
      simp only [shOffer] at h ⊢
      split at h
      · cases h
      split at h
      · cases h
      · rw [if_neg ‹_›, if_neg ‹_›]; exact Nat.zero_lt_one
    | par =>
      simp only [shOffer] at h ⊢
      split at h
      · cases h
      · rw [if_neg ‹_›]; exact Nat.lt_succ_of_le (firstSh_rank d 40)
    | dol =>
      simp only [shOffer] at h ⊢
      split at h
      · cases h
      · rw [if_neg ‹_›]; exact Nat.lt_succ_of_le (firstSh_rank d 36)
    | half c => show 0 < 1; decide
theorem unitO_ok (h u : Int) : halfOk (unitO h u).1 := by
  unfold unitO
  split
  · exact .inl rfl
  split
  · rename_i hl; exact .inr hl
  split
  · exact .inl rfl
  · exact .inl rfl
theorem lawLo : mLo.Law where
  zero := rfl
  init := .inl rfl
  step := fun q b hq => by
    obtain ⟨h, k⟩ := q
    show loOk (loOffer (h, k) b).1
    cases k with
    | none => exact hq
    | some k =>
      simp only [loOffer]
      split
      · exact .inl rfl
      · exact unitO_ok _ _
  drop := fun q b hq hh => by
    obtain ⟨h, k⟩ := q
    change (loOffer (h, k) b).2.2 = true at hh
    show loRank (loOffer (h, k) b).1 < loRank (h, k)
    cases k with
    | none => cases hh
    | some k =>
      simp only [loOffer] at hh ⊢
      split at hh
      · rename_i hx
        rw [if_pos hx]
        simp [loRank, hx.1]
      · cases hh
theorem lawHi : mHi.Law where
  zero := rfl
  init := .inl rfl
  step := fun q b hq => by
    show (H.offer q b).1.ok
    cases q with
    | unit h =>
      simp only [H.offer]
      split
      · exact ⟨hq, ‹_›⟩
      · trivial
    | mid h k => exact unitO_ok _ _
    | told k =>
      simp only [H.offer]
      split
      · exact .inl rfl
      · exact unitO_ok _ _
  drop := fun q b hq h => by
    change (H.offer q b).2.2 = true at h
    cases q with
    | unit h' => simp only [H.offer] at h; split at h <;> cases h
    | mid h' k => cases h
    | told k => simp only [H.offer] at h; split at h <;> cases h

theorem conU : Con 1 mU where
  law := lawU
  lo := by decide
  hi := by decide
  off := fun q b w hq => offer_1 _ _ b _ _ w (hid fun w1 => offerU_any q b w1 hq)
  fin := fun q w hq => by
    cases q with
    | zero => exact finish_zero 1 w
    | seq n c =>
      refine finish_bad 1 _ w (sEq_ne fun e => ?_) rfl rfl
      have := congrArg S.need e
      change U.ok (.seq n c) at hq
      simp only [U.ok] at hq
      change n = 0 at this
      omega
  few := fun q b _ => by
    cases q with
    | zero => simp only [mU, U.offer]; exact Nat.le_succ_of_le (firstU_ok b).2
    | seq n c => show (U.offer (.seq n c) b).2.1.length ≤ 2; simp only [U.offer]; split <;> (try split) <;> simp
  end_ := fun q => by
    cases q with
    | zero => exact Nat.zero_le _
    | seq n c => exact Nat.le_succ 1
  low := fun q => by
    cases q with
    | zero => exact Nat.zero_le _
    | seq n c => exact Nat.le_succ 1
theorem conT : Con 3 mT where
  law := lawT
  lo := by decide
  hi := by decide
  off := fun q b w hq => offer_3 _ _ b _ _ w (hid fun w1 => offerT_any q b w1)
  fin := fun q w hq => by
    cases q with
    | none => exact finish_zero 3 w
    | some k =>
      refine finish_bad 3 _ w (sEq_ne fun e => ?_) rfl rfl
      have := congrArg (fun s => s.kept.size) e
      simp [mT, twS, keptO, ByteArray.size] at this
  few := fun q b _ => by
    cases q with
    | none => simp only [mT, twOffer]; exact Nat.le_succ_of_le (firstT_ok b).2
    | some k => simp only [mT, twOffer]; exact Nat.le_succ_of_le (secondT_few k b)
  end_ := fun q => by
    cases q with
    | none => exact Nat.zero_le _
    | some k => exact Nat.le_succ 1
  low := fun q => by
    cases q with
    | none => exact Nat.zero_le _
    | some k => exact Nat.le_succ 1
theorem conLat : Con 4 mLat where
  law := lawLat
  lo := by decide
  hi := by decide
  off := fun q b w hq => by simp only [mLat]; exact offer_4 b _ w (hid fun w1 => latin_any b w1)
  fin := fun q w hq => finish_zero 4 w
  few := fun q b _ => by simp only [mLat]; exact Nat.le_succ_of_le (latinL_few b)
  end_ := fun q => Nat.zero_le _
  low := fun q => Nat.zero_le _
theorem conSh : Con 2 mSh where
  law := lawSh
  lo := by decide
  hi := by decide
  off := fun q b w hq => offer_2 _ _ b _ _ w (hid fun w1 => offerSh_any q b w1 hq)
  fin := fun q w hq => by
    by_cases h : sEq (shS q) ⟨0, 0, 0, 0, ⟨#[]⟩, 0, 0⟩ = true
    · have e := sEq_eq h
      have hz : shFin q = [] := by
        obtain ⟨d, k⟩ := q
        have := congrArg (fun s => s.kept.size) e
        cases k <;> simp [shS, K.kept, ByteArray.size] at this
        rfl
      show Calls _ _ #[_, (.agg #[.int .i64 ((shS q).need), .int .i64 ((shS q).code), .int .i64 ((shS q).lo), .int .i64 ((shS q).hi), .string ((shS q).kept), .int .i64 ((shS q).half), .int .i64 ((shS q).mode)])] _ (PO w (shFin q))
      rw [hz, e]
      exact finish_zero 2 w
    · exact finish_2 _ _ w (Bool.eq_false_iff.2 h) (hid fun w1 => finSh_any q w1 hq)
  few := fun q b _ => by
    obtain ⟨d, k⟩ := q
    show (shOffer (d, k) b).2.1.length ≤ 2
    have h1 := firstSh_few d b; have h2 := firstSh_few d 40; have h3 := firstSh_few d 36
    cases k with
    | none => simp only [shOffer]; omega
    | esc => simp only [shOffer]; split <;> (try split) <;> simp [dropSh]
    | par => simp only [shOffer]; split <;> simp [dropSh]; omega
    | dol => simp only [shOffer]; split <;> simp [dropSh]; omega
    | half c => simp only [shOffer]; unfold secondSh; split <;> simp
  end_ := fun q => by
    obtain ⟨d, k⟩ := q
    show (shFin (d, k)).length ≤ 2
    cases k <;> cases d <;> simp [shFin]
  low := fun q => by
    obtain ⟨d, k⟩ := q
    show shRank (d, k) ≤ 2
    cases k <;> simp [shRank]
theorem unitO_few (h u : Int) : (unitO h u).2.length ≤ 1 := by
  unfold unitO
  refine ite_p (P := fun x : Int × List Int => x.2.length ≤ 1) (fun _ => Nat.le_refl 1) fun _ => ?_
  refine ite_p (P := fun x : Int × List Int => x.2.length ≤ 1) (fun _ => Nat.zero_le 1) fun _ => ?_
  exact ite_p (P := fun x : Int × List Int => x.2.length ≤ 1) (fun _ => Nat.le_refl 1) fun _ => Nat.le_refl 1
theorem conLo : Con 5 mLo where
  law := lawLo
  lo := by decide
  hi := by decide
  off := fun q b w hq => offer_5 _ _ b _ _ w (hid fun w1 => offerLo_any q b w1 hq)
  fin := fun q w hq => by
    obtain ⟨h, k⟩ := q
    by_cases hz : h = 0 ∧ k = none
    · obtain ⟨rfl, rfl⟩ := hz
      exact finish_zero 5 w
    · have hf : loFin (h, k) = [-1] := by
        cases k with
        | none => simp [loFin]; intro e; exact hz ⟨e, rfl⟩
        | some k => rfl
      show Calls _ _ #[_, (.agg #[.int .i64 ((loS (h, k)).need), .int .i64 ((loS (h, k)).code), .int .i64 ((loS (h, k)).lo), .int .i64 ((loS (h, k)).hi), .string ((loS (h, k)).kept), .int .i64 ((loS (h, k)).half), .int .i64 ((loS (h, k)).mode)])] _ (PO w (loFin (h, k)))
      rw [hf]
      refine finish_bad 5 _ w (sEq_ne fun e => hz ⟨congrArg S.half e, ?_⟩) rfl rfl
      have := congrArg (fun s => s.kept.size) e
      cases k with
      | none => rfl
      | some k => simp [loS, keptO, ByteArray.size] at this
  few := fun q b _ => by
    obtain ⟨h, k⟩ := q
    show (loOffer (h, k) b).2.1.length ≤ 2
    cases k with
    | none => simp [loOffer]
    | some k => have := unitO_few h (nb b * 256 + nb k); simp only [loOffer]; split <;> simp; omega
  end_ := fun q => by
    obtain ⟨h, k⟩ := q
    show (loFin (h, k)).length ≤ 2
    cases k with
    | none => simp only [loFin]; split <;> simp
    | some k => simp [loFin]
  low := fun q => by
    obtain ⟨h, k⟩ := q
    show loRank (h, k) ≤ 2
    simp only [loRank]; split <;> omega
theorem conHi : Con 6 mHi where
  law := lawHi
  lo := by decide
  hi := by decide
  off := fun q b w hq => offer_6 _ _ b _ _ w (hid fun w1 => offerHi_any q b w1 hq)
  fin := fun q w hq => by
    cases q with
    | unit h =>
      by_cases hz : h = 0
      · subst hz; exact finish_zero 6 w
      · have hf : H.fin (.unit h) = [-1] := by simp [H.fin, hz]
        show Calls _ _ #[_, (.agg #[.int .i64 ((H.toS (.unit h)).need), .int .i64 ((H.toS (.unit h)).code), .int .i64 ((H.toS (.unit h)).lo), .int .i64 ((H.toS (.unit h)).hi), .string ((H.toS (.unit h)).kept), .int .i64 ((H.toS (.unit h)).half), .int .i64 ((H.toS (.unit h)).mode)])] _ (PO w (H.fin (.unit h)))
        rw [hf]
        exact finish_6 _ _ w (sEq_ne fun e => hz (congrArg S.half e)) (hid fun w1 => finishHi_bad _ _ w1)
    | mid h k =>
      refine finish_6 _ _ w (sEq_ne fun e => ?_) (hid fun w1 => finishHi_bad _ _ w1)
      have := congrArg (fun s => s.kept.size) e
      simp [mHi, H.toS, ByteArray.size] at this
    | told k =>
      refine finish_6 _ _ w (sEq_ne fun e => ?_) (hid fun w1 => finishHi_told _ w1)
      have := congrArg (fun s => s.kept.size) e
      simp [mHi, H.toS, ByteArray.size] at this
  few := fun q b _ => by
    show (H.offer q b).2.1.length ≤ 2
    cases q with
    | unit h => simp only [H.offer]; split <;> simp
    | mid h k => have := unitO_few h (nb k * 256 + nb b); simp only [H.offer]; omega
    | told k => have := unitO_few 0 (nb k * 256 + nb b); simp only [H.offer]; split <;> simp; omega
  end_ := fun q => by
    show (H.fin q).length ≤ 2
    cases q with
    | unit h => simp only [H.fin]; split <;> simp
    | mid h k => simp [H.fin]
    | told k => simp [H.fin]
  low := fun q => Nat.zero_le _
end Go.Proofs.Ytloaemijhggheaa
