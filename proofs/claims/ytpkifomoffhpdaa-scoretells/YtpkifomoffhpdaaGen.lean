/- offer and finish, and the bundle of what is known of each encoding. -/
import Derived.Test.YtpkifomoffhpdaaWTwin
import Derived.Test.YtpkifomoffhpdaaWUtf
import Derived.Test.YtpkifomoffhpdaaWShift2
import Derived.Test.YtpkifomoffhpdaaWWide
namespace Go.Proofs.Ytpkifomoffhpdaa
open Go.RowKit
attribute [local go_sem ↓] run_eqS run_neS
attribute [local go_sem] byte_at0 byte_at20 byte_at21 w64 S.v and63 and31 and15 and7 kw kw256

set_option maxRecDepth 100000 in
set_option maxHeartbeats 400000 in
theorem offer_1 (s0 s : S) (b : UInt8) (l : List Int) (a : Bool) (w : World) (H : Hid (∀ w1, Calls Try.prog 82 #[(.agg #[.int .i64 s0.need, .int .i64 s0.code, .int .i64 s0.lo, .int .i64 s0.hi, .string s0.kept, .int .i64 s0.half, .int .i64 s0.mode]), .int .i64 (b.toNat : Int)] w1 (PSOB w1 s l a))) : Calls Try.prog 72 #[.int .i64 1, (.agg #[.int .i64 s0.need, .int .i64 s0.code, .int .i64 s0.lo, .int .i64 s0.hi, .string s0.kept, .int .i64 s0.half, .int .i64 s0.mode]), .int .i64 (b.toNat : Int)] w (PSOB w s l a) := by
  go_enter Try.func72, Try.ntmps72
  go_wp2_with fail
  refine (H.out _).mono ?_
  rintro e w1 ⟨v, rfl, ho, hb1⟩
  obtain ⟨hc, hf⟩ := bcell hb1
  replace ho := hid ho
  go_wp2_with fail
  refine bodyPost_ret (ret_SOB rfl rfl ((HasS.box2 hb1).put7 s)) rfl ⟨v, rfl, ?_, ?_⟩
  · exact (ho.out.put7 (by simp) _ _ _ _ _ _ _).base (by simp; omega)
  · exact put7 (two_boxes hb1) (by omega) _ _ _ _ _ _ _
set_option maxRecDepth 100000 in
set_option maxHeartbeats 400000 in
theorem offer_2 (s0 s : S) (b : UInt8) (l : List Int) (a : Bool) (w : World) (H : Hid (∀ w1, Calls Try.prog 83 #[(.agg #[.int .i64 s0.need, .int .i64 s0.code, .int .i64 s0.lo, .int .i64 s0.hi, .string s0.kept, .int .i64 s0.half, .int .i64 s0.mode]), .int .i64 (b.toNat : Int)] w1 (PSOB w1 s l a))) : Calls Try.prog 72 #[.int .i64 2, (.agg #[.int .i64 s0.need, .int .i64 s0.code, .int .i64 s0.lo, .int .i64 s0.hi, .string s0.kept, .int .i64 s0.half, .int .i64 s0.mode]), .int .i64 (b.toNat : Int)] w (PSOB w s l a) := by
  go_enter Try.func72, Try.ntmps72
  go_wp2_with fail
  refine (H.out _).mono ?_
  rintro e w1 ⟨v, rfl, ho, hb1⟩
  obtain ⟨hc, hf⟩ := bcell hb1
  replace ho := hid ho
  go_wp2_with fail
  refine bodyPost_ret (ret_SOB rfl rfl ((HasS.box2 hb1).put7 s)) rfl ⟨v, rfl, ?_, ?_⟩
  · exact (ho.out.put7 (by simp) _ _ _ _ _ _ _).base (by simp; omega)
  · exact put7 (two_boxes hb1) (by omega) _ _ _ _ _ _ _
set_option maxRecDepth 100000 in
set_option maxHeartbeats 400000 in
theorem offer_3 (s0 s : S) (b : UInt8) (l : List Int) (a : Bool) (w : World) (H : Hid (∀ w1, Calls Try.prog 84 #[(.agg #[.int .i64 s0.need, .int .i64 s0.code, .int .i64 s0.lo, .int .i64 s0.hi, .string s0.kept, .int .i64 s0.half, .int .i64 s0.mode]), .int .i64 (b.toNat : Int)] w1 (PSOB w1 s l a))) : Calls Try.prog 72 #[.int .i64 3, (.agg #[.int .i64 s0.need, .int .i64 s0.code, .int .i64 s0.lo, .int .i64 s0.hi, .string s0.kept, .int .i64 s0.half, .int .i64 s0.mode]), .int .i64 (b.toNat : Int)] w (PSOB w s l a) := by
  go_enter Try.func72, Try.ntmps72
  go_wp2_with fail
  refine (H.out _).mono ?_
  rintro e w1 ⟨v, rfl, ho, hb1⟩
  obtain ⟨hc, hf⟩ := bcell hb1
  replace ho := hid ho
  go_wp2_with fail
  refine bodyPost_ret (ret_SOB rfl rfl ((HasS.box2 hb1).put7 s)) rfl ⟨v, rfl, ?_, ?_⟩
  · exact (ho.out.put7 (by simp) _ _ _ _ _ _ _).base (by simp; omega)
  · exact put7 (two_boxes hb1) (by omega) _ _ _ _ _ _ _
set_option maxRecDepth 100000 in
set_option maxHeartbeats 400000 in
theorem offer_5 (s0 s : S) (b : UInt8) (l : List Int) (a : Bool) (w : World) (H : Hid (∀ w1, Calls Try.prog 85 #[(.agg #[.int .i64 s0.need, .int .i64 s0.code, .int .i64 s0.lo, .int .i64 s0.hi, .string s0.kept, .int .i64 s0.half, .int .i64 s0.mode]), .int .i64 (b.toNat : Int)] w1 (PSOB w1 s l a))) : Calls Try.prog 72 #[.int .i64 5, (.agg #[.int .i64 s0.need, .int .i64 s0.code, .int .i64 s0.lo, .int .i64 s0.hi, .string s0.kept, .int .i64 s0.half, .int .i64 s0.mode]), .int .i64 (b.toNat : Int)] w (PSOB w s l a) := by
  go_enter Try.func72, Try.ntmps72
  go_wp2_with fail
  refine (H.out _).mono ?_
  rintro e w1 ⟨v, rfl, ho, hb1⟩
  obtain ⟨hc, hf⟩ := bcell hb1
  replace ho := hid ho
  go_wp2_with fail
  refine bodyPost_ret (ret_SOB rfl rfl ((HasS.box2 hb1).put7 s)) rfl ⟨v, rfl, ?_, ?_⟩
  · exact (ho.out.put7 (by simp) _ _ _ _ _ _ _).base (by simp; omega)
  · exact put7 (two_boxes hb1) (by omega) _ _ _ _ _ _ _
set_option maxRecDepth 100000 in
set_option maxHeartbeats 400000 in
theorem offer_6 (s0 s : S) (b : UInt8) (l : List Int) (a : Bool) (w : World) (H : Hid (∀ w1, Calls Try.prog 86 #[(.agg #[.int .i64 s0.need, .int .i64 s0.code, .int .i64 s0.lo, .int .i64 s0.hi, .string s0.kept, .int .i64 s0.half, .int .i64 s0.mode]), .int .i64 (b.toNat : Int)] w1 (PSOB w1 s l a))) : Calls Try.prog 72 #[.int .i64 6, (.agg #[.int .i64 s0.need, .int .i64 s0.code, .int .i64 s0.lo, .int .i64 s0.hi, .string s0.kept, .int .i64 s0.half, .int .i64 s0.mode]), .int .i64 (b.toNat : Int)] w (PSOB w s l a) := by
  go_enter Try.func72, Try.ntmps72
  go_wp2_with fail
  refine (H.out _).mono ?_
  rintro e w1 ⟨v, rfl, ho, hb1⟩
  obtain ⟨hc, hf⟩ := bcell hb1
  replace ho := hid ho
  go_wp2_with fail
  refine bodyPost_ret (ret_SOB rfl rfl ((HasS.box2 hb1).put7 s)) rfl ⟨v, rfl, ?_, ?_⟩
  · exact (ho.out.put7 (by simp) _ _ _ _ _ _ _).base (by simp; omega)
  · exact put7 (two_boxes hb1) (by omega) _ _ _ _ _ _ _
set_option maxRecDepth 100000 in
set_option maxHeartbeats 400000 in
theorem offer_4 (b : UInt8) (l : List Int) (w : World) (H : Hid (∀ w1, Calls Try.prog 87 #[.int .i64 (b.toNat : Int)] w1 (PO w1 l))) : Calls Try.prog 72 #[.int .i64 4, (.agg #[.int .i64 0, .int .i64 0, .int .i64 0, .int .i64 0, .string ⟨#[]⟩, .int .i64 0, .int .i64 0]), .int .i64 (b.toNat : Int)] w (PSOB w .zero l false) := by
  go_enter Try.func72, Try.ntmps72
  go_wp2_with fail
  go_region_held3 (fun w' => w'.cell? ⟨w.heap.size, 0, none⟩ = some (.int .i64 0) ∧ w'.cell? ⟨w.heap.size, 1, none⟩ = some (.int .i64 0) ∧ w'.cell? ⟨w.heap.size, 2, none⟩ = some (.int .i64 0) ∧ w'.cell? ⟨w.heap.size, 3, none⟩ = some (.int .i64 0) ∧ w'.cell? ⟨w.heap.size, 4, none⟩ = some (.string ⟨#[]⟩) ∧ w'.cell? ⟨w.heap.size, 5, none⟩ = some (.int .i64 0) ∧ w'.cell? ⟨w.heap.size, 6, none⟩ = some (.int .i64 0))
    (first | go_keep | exact k1 | exact k2.out _ _ _ _ _ _ _)
    (first | (go_at_call 87; refine (H.out _).mono ?_; rintro e w1 ⟨v, rfl, ho, hb1⟩; replace hb1 := undrew hb1; replace ho := hid ho; have hS := HasS.below ((HasS.new w .zero).alloc _) hb1 (by simp; omega); have k1 : w1.cell? ⟨w.heap.size, 0, none⟩ = some (.int .i64 0) ∧ w1.cell? ⟨w.heap.size, 1, none⟩ = some (.int .i64 0) ∧ w1.cell? ⟨w.heap.size, 2, none⟩ = some (.int .i64 0) ∧ w1.cell? ⟨w.heap.size, 3, none⟩ = some (.int .i64 0) ∧ w1.cell? ⟨w.heap.size, 4, none⟩ = some (.string ⟨#[]⟩) ∧ w1.cell? ⟨w.heap.size, 5, none⟩ = some (.int .i64 0) ∧ w1.cell? ⟨w.heap.size, 6, none⟩ = some (.int .i64 0) := hS.cells; have k2 : ∀ u0 u1 u2 u3 u4 u5 u6 : Value, (((((((w1.setCell ⟨w.heap.size + 1, 0, none⟩ u0).setCell ⟨w.heap.size + 1, 1, none⟩ u1).setCell ⟨w.heap.size + 1, 2, none⟩ u2).setCell ⟨w.heap.size + 1, 3, none⟩ u3).setCell ⟨w.heap.size + 1, 4, none⟩ u4).setCell ⟨w.heap.size + 1, 5, none⟩ u5).setCell ⟨w.heap.size + 1, 6, none⟩ u6).cell? ⟨w.heap.size, 0, none⟩ = some (.int .i64 0) ∧ (((((((w1.setCell ⟨w.heap.size + 1, 0, none⟩ u0).setCell ⟨w.heap.size + 1, 1, none⟩ u1).setCell ⟨w.heap.size + 1, 2, none⟩ u2).setCell ⟨w.heap.size + 1, 3, none⟩ u3).setCell ⟨w.heap.size + 1, 4, none⟩ u4).setCell ⟨w.heap.size + 1, 5, none⟩ u5).setCell ⟨w.heap.size + 1, 6, none⟩ u6).cell? ⟨w.heap.size, 1, none⟩ = some (.int .i64 0) ∧ (((((((w1.setCell ⟨w.heap.size + 1, 0, none⟩ u0).setCell ⟨w.heap.size + 1, 1, none⟩ u1).setCell ⟨w.heap.size + 1, 2, none⟩ u2).setCell ⟨w.heap.size + 1, 3, none⟩ u3).setCell ⟨w.heap.size + 1, 4, none⟩ u4).setCell ⟨w.heap.size + 1, 5, none⟩ u5).setCell ⟨w.heap.size + 1, 6, none⟩ u6).cell? ⟨w.heap.size, 2, none⟩ = some (.int .i64 0) ∧ (((((((w1.setCell ⟨w.heap.size + 1, 0, none⟩ u0).setCell ⟨w.heap.size + 1, 1, none⟩ u1).setCell ⟨w.heap.size + 1, 2, none⟩ u2).setCell ⟨w.heap.size + 1, 3, none⟩ u3).setCell ⟨w.heap.size + 1, 4, none⟩ u4).setCell ⟨w.heap.size + 1, 5, none⟩ u5).setCell ⟨w.heap.size + 1, 6, none⟩ u6).cell? ⟨w.heap.size, 3, none⟩ = some (.int .i64 0) ∧ (((((((w1.setCell ⟨w.heap.size + 1, 0, none⟩ u0).setCell ⟨w.heap.size + 1, 1, none⟩ u1).setCell ⟨w.heap.size + 1, 2, none⟩ u2).setCell ⟨w.heap.size + 1, 3, none⟩ u3).setCell ⟨w.heap.size + 1, 4, none⟩ u4).setCell ⟨w.heap.size + 1, 5, none⟩ u5).setCell ⟨w.heap.size + 1, 6, none⟩ u6).cell? ⟨w.heap.size, 4, none⟩ = some (.string ⟨#[]⟩) ∧ (((((((w1.setCell ⟨w.heap.size + 1, 0, none⟩ u0).setCell ⟨w.heap.size + 1, 1, none⟩ u1).setCell ⟨w.heap.size + 1, 2, none⟩ u2).setCell ⟨w.heap.size + 1, 3, none⟩ u3).setCell ⟨w.heap.size + 1, 4, none⟩ u4).setCell ⟨w.heap.size + 1, 5, none⟩ u5).setCell ⟨w.heap.size + 1, 6, none⟩ u6).cell? ⟨w.heap.size, 5, none⟩ = some (.int .i64 0) ∧ (((((((w1.setCell ⟨w.heap.size + 1, 0, none⟩ u0).setCell ⟨w.heap.size + 1, 1, none⟩ u1).setCell ⟨w.heap.size + 1, 2, none⟩ u2).setCell ⟨w.heap.size + 1, 3, none⟩ u3).setCell ⟨w.heap.size + 1, 4, none⟩ u4).setCell ⟨w.heap.size + 1, 5, none⟩ u5).setCell ⟨w.heap.size + 1, 6, none⟩ u6).cell? ⟨w.heap.size, 6, none⟩ = some (.int .i64 0) := (fun u0 u1 u2 u3 u4 u5 u6 => (hS.far7 (blk := w.heap.size + 1) (by omega) u0 u1 u2 u3 u4 u5 u6).cells); replace k2 := hid k2; have hR2 := HasS.box2 hb1; have hR3 := hR2; obtain ⟨r0, r1, r2, r3, r4, r5, r6, rz⟩ := hR3))
  go_wp2_with fail
  refine bodyPost_ret (ret_SOB rfl rfl (hR2.put7 .zero)) rfl ⟨v, rfl, ?_, ?_⟩
  · exact ((unOut ho.out).put7 (by simp) _ _ _ _ _ _ _).base (by simp; omega)
  · exact put7 (two_boxes hb1) (by omega) _ _ _ _ _ _ _

set_option maxRecDepth 100000 in
set_option maxHeartbeats 400000 in
theorem finish_zero (e : Int) (w : World) : Calls Try.prog 31 #[.int .i64 e, (.agg #[.int .i64 0, .int .i64 0, .int .i64 0, .int .i64 0, .string ⟨#[]⟩, .int .i64 0, .int .i64 0])] w (PO w []) := by
  have h := sEq_self ⟨0, 0, 0, 0, ⟨#[]⟩, 0, 0⟩
  go_enter Try.func31, Try.ntmps31
  go_wp2_with fail
  go_ret
  exact ⟨_, rfl, Out.nil _ _, (by repeat (first | exact Below.refl _ _ | assumption | (refine Below.alloc ?_ (by first | (simp; done) | (simp; omega)) _) | (refine Below.setCell ?_ (by first | (simp; done) | (simp; omega)) _) | (refine Below.drew ?_)))⟩
set_option maxRecDepth 100000 in
set_option maxHeartbeats 400000 in
theorem finish_bad (e : Int) (s : S) (w : World) (h : sEq s ⟨0, 0, 0, 0, ⟨#[]⟩, 0, 0⟩ = false) (h2 : (e == 2) = false) (h6 : (e == 6) = false) : Calls Try.prog 31 #[.int .i64 e, (.agg #[.int .i64 s.need, .int .i64 s.code, .int .i64 s.lo, .int .i64 s.hi, .string s.kept, .int .i64 s.half, .int .i64 s.mode])] w (PO w [-1]) := by
  go_enter Try.func31, Try.ntmps31
  go_wp2_with fail
  refine (bad_any _).mono ?_
  rintro e w2 ⟨rfl, rfl⟩
  go_wp2_with fail
  go_ret
  exact ⟨_, rfl, Out.one' _ _ (w.heap.size + 1) _ (by simp) (by omega), (by repeat (first | exact Below.refl _ _ | assumption | (refine Below.alloc ?_ (by first | (simp; done) | (simp; omega)) _) | (refine Below.setCell ?_ (by first | (simp; done) | (simp; omega)) _) | (refine Below.drew ?_)))⟩
set_option maxRecDepth 100000 in
set_option maxHeartbeats 400000 in
theorem finish_2 (s : S) (l : List Int) (w : World) (h : sEq s ⟨0, 0, 0, 0, ⟨#[]⟩, 0, 0⟩ = false) (H : Hid (∀ w1, Calls Try.prog 51 #[(.agg #[.int .i64 s.need, .int .i64 s.code, .int .i64 s.lo, .int .i64 s.hi, .string s.kept, .int .i64 s.half, .int .i64 s.mode])] w1 (PO w1 l))) : Calls Try.prog 31 #[.int .i64 2, (.agg #[.int .i64 s.need, .int .i64 s.code, .int .i64 s.lo, .int .i64 s.hi, .string s.kept, .int .i64 s.half, .int .i64 s.mode])] w (PO w l) := by
  go_enter Try.func31, Try.ntmps31
  go_wp2_with fail
  refine (H.out _).mono ?_
  rintro e w1 ⟨v, rfl, ho, hb1⟩
  replace ho := hid ho
  go_wp2_with fail
  go_ret
  exact ⟨v, rfl, ho.out.base (by simp), one_box hb1⟩
set_option maxRecDepth 100000 in
set_option maxHeartbeats 400000 in
theorem finish_6 (s : S) (l : List Int) (w : World) (h : sEq s ⟨0, 0, 0, 0, ⟨#[]⟩, 0, 0⟩ = false) (H : Hid (∀ w1, Calls Try.prog 52 #[(.agg #[.int .i64 s.need, .int .i64 s.code, .int .i64 s.lo, .int .i64 s.hi, .string s.kept, .int .i64 s.half, .int .i64 s.mode])] w1 (PO w1 l))) : Calls Try.prog 31 #[.int .i64 6, (.agg #[.int .i64 s.need, .int .i64 s.code, .int .i64 s.lo, .int .i64 s.hi, .string s.kept, .int .i64 s.half, .int .i64 s.mode])] w (PO w l) := by
  go_enter Try.func31, Try.ntmps31
  go_wp2_with fail
  refine (H.out _).mono ?_
  rintro e w1 ⟨v, rfl, ho, hb1⟩
  replace ho := hid ho
  go_wp2_with fail
  go_ret
  exact ⟨v, rfl, ho.out.base (by simp), one_box hb1⟩

/-- What is known of an encoding's functions. -/
structure Con (e : Int) (M : Mach) : Prop where
  law : M.Law
  lo : 1 ≤ e
  hi : e ≤ 6
  off : ∀ q (b : UInt8) w, M.ok q → Calls Try.prog 72 #[.int .i64 e, (.agg #[.int .i64 ((M.toS q).need), .int .i64 ((M.toS q).code), .int .i64 ((M.toS q).lo), .int .i64 ((M.toS q).hi), .string ((M.toS q).kept), .int .i64 ((M.toS q).half), .int .i64 ((M.toS q).mode)]), .int .i64 (b.toNat : Int)] w (PSOB w (M.toS (M.offer q b).1) (M.offer q b).2.1 (M.offer q b).2.2)
  fin : ∀ q w, M.ok q → Calls Try.prog 31 #[.int .i64 e, (.agg #[.int .i64 ((M.toS q).need), .int .i64 ((M.toS q).code), .int .i64 ((M.toS q).lo), .int .i64 ((M.toS q).hi), .string ((M.toS q).kept), .int .i64 ((M.toS q).half), .int .i64 ((M.toS q).mode)])] w (PO w (M.fin q))
  few : ∀ q b, M.ok q → (M.offer q b).2.1.length ≤ 2
  end_ : ∀ q, (M.fin q).length ≤ 2
  low : ∀ q, M.rank q ≤ 2
end Go.Proofs.Ytpkifomoffhpdaa
