/- The walk over the law DecodeNone. -/
import Derived.Test.YtloaemijhggheaaLaw
namespace Go.Proofs.Ytloaemijhggheaa
open Go.RowKit
attribute [local go_sem ↓] run_eqS run_neS
attribute [local go_sem] byte_at0 byte_at20 byte_at21 w64 S.v and63 and31 and15 and7 kw kw256

set_option maxRecDepth 100000 in
set_option maxHeartbeats 400000 in
theorem step_kind (e : Int) (s : S) (b : Int) (w : World) (he : ¬ (1 ≤ e ∧ e ≤ 6)) : Calls Try.prog 18 #[.int .i64 e, (.agg #[.int .i64 s.need, .int .i64 s.code, .int .i64 s.lo, .int .i64 s.hi, .string s.kept, .int .i64 s.half, .int .i64 s.mode]), .int .i64 b] w (PSOE w s [] 2) := by
  have H := hid (fun w1 => isEnc_no e w1 he)
  clear he
  go_enter Try.func18, Try.ntmps18
  go_wp2_with fail
  refine (H.out _).mono ?_
  rintro r w1 ⟨rfl, rfl⟩
  go_wp2_with fail
  refine bodyPost_ret ?_ rfl ⟨_, rfl, Out.nil _ _, ?_⟩
  · simp [results, Try.results18, go_sem, S.v]
  · exact (by repeat (first | exact Below.refl _ _ | assumption | (refine Below.alloc ?_ (by first | (simp; done) | (simp; omega)) _) | (refine Below.setCell ?_ (by first | (simp; done) | (simp; omega)) _) | (refine Below.drew ?_)))
set_option maxRecDepth 100000 in
set_option maxHeartbeats 400000 in
theorem step_form (e : Int) (s : S) (b : Int) (w : World) (h1 : 1 ≤ e) (h2 : e ≤ 6) (HG : Hid (∀ w1, Calls Try.prog 21 #[.int .i64 e, (.agg #[.int .i64 s.need, .int .i64 s.code, .int .i64 s.lo, .int .i64 s.hi, .string s.kept, .int .i64 s.half, .int .i64 s.mode])] w1 fun r w' => r = .returned (.bool false) ∧ Below w1.heap.size w1 w')) : Calls Try.prog 18 #[.int .i64 e, (.agg #[.int .i64 s.need, .int .i64 s.code, .int .i64 s.lo, .int .i64 s.hi, .string s.kept, .int .i64 s.half, .int .i64 s.mode]), .int .i64 b] w (PSOE w s [] 1) := by
  go_enter Try.func18, Try.ntmps18
  go_wp2_with fail
  refine (isEnc_yes _ _ h1 h2).mono ?_
  rintro r w' ⟨rfl, rfl⟩
  go_wp2_with fail
  refine (HG.out _).mono ?_
  rintro r w1 ⟨rfl, hb1⟩
  have hS := HasS.box21 hb1
  have hR := HasS.box2 hb1
  have hS3 := hS
  obtain ⟨c0, c1, c2, c3, c4, c5, c6, cz⟩ := hS3
  have hR3 := hR
  obtain ⟨r0, r1, r2, r3, r4, r5, r6, rz⟩ := hR3
  go_wp2_with fail
  refine bodyPost_ret (ret_SOB rfl rfl (hR.put7 s)) rfl ⟨_, rfl, Out.nil _ _, ?_⟩
  exact put7 (two_boxes hb1) (by omega) _ _ _ _ _ _ _
set_option maxRecDepth 100000 in
set_option maxHeartbeats 400000 in
theorem step_range (e : Int) (s : S) (b : Int) (w : World) (h1 : 1 ≤ e) (h2 : e ≤ 6) (hb : b < 0 ∨ 255 < b) (HG : Hid (∀ w1, Calls Try.prog 21 #[.int .i64 e, (.agg #[.int .i64 s.need, .int .i64 s.code, .int .i64 s.lo, .int .i64 s.hi, .string s.kept, .int .i64 s.half, .int .i64 s.mode])] w1 fun r w' => r = .returned (.bool true) ∧ Below w1.heap.size w1 w')) : Calls Try.prog 18 #[.int .i64 e, (.agg #[.int .i64 s.need, .int .i64 s.code, .int .i64 s.lo, .int .i64 s.hi, .string s.kept, .int .i64 s.half, .int .i64 s.mode]), .int .i64 b] w (PSOE w s [] 1) := by
  obtain hx | ⟨hx, hy⟩ : b < 0 ∨ (¬ b < 0 ∧ 255 < b) := by omega
  all_goals
    clear hb
    go_enter Try.func18, Try.ntmps18
    go_wp2_with fail
    refine (isEnc_yes _ _ h1 h2).mono ?_
    rintro r w' ⟨rfl, rfl⟩
    go_wp2_with fail
    refine (HG.out _).mono ?_
    rintro r w1 ⟨rfl, hb1⟩
    have hS := HasS.box21 hb1
    have hR := HasS.box2 hb1
    have hS3 := hS
    obtain ⟨c0, c1, c2, c3, c4, c5, c6, cz⟩ := hS3
    have hR3 := hR
    obtain ⟨r0, r1, r2, r3, r4, r5, r6, rz⟩ := hR3
    go_wp2_with fail
    refine bodyPost_ret (ret_SOB rfl rfl (hR.put7 s)) rfl ⟨_, rfl, Out.nil _ _, ?_⟩
    exact put7 (two_boxes hb1) (by omega) _ _ _ _ _ _ _
set_option maxRecDepth 100000 in
set_option maxHeartbeats 400000 in
theorem feed_kind (e : Int) (s : S) (w : World) (he : ¬ (1 ≤ e ∧ e ≤ 6)) : Calls Try.prog 19 #[.int .i64 e, (.agg #[.int .i64 s.need, .int .i64 s.code, .int .i64 s.lo, .int .i64 s.hi, .string s.kept, .int .i64 s.half, .int .i64 s.mode]), .string ⟨#[]⟩] w (PSOE w s [] 2) := by
  have H := hid (fun w1 => isEnc_no e w1 he)
  clear he
  go_enter Try.func19, Try.ntmps19
  go_wp2_with fail
  refine (H.out _).mono ?_
  rintro r w1 ⟨rfl, rfl⟩
  go_wp2_with fail
  refine bodyPost_ret ?_ rfl ⟨_, rfl, Out.nil _ _, ?_⟩
  · simp [results, Try.results19, go_sem, S.v]
  · exact (by repeat (first | exact Below.refl _ _ | assumption | (refine Below.alloc ?_ (by first | (simp; done) | (simp; omega)) _) | (refine Below.setCell ?_ (by first | (simp; done) | (simp; omega)) _) | (refine Below.drew ?_)))
set_option maxRecDepth 100000 in
set_option maxHeartbeats 400000 in
theorem feed_form (e : Int) (s : S) (w : World) (h1 : 1 ≤ e) (h2 : e ≤ 6) (HG : Hid (∀ w1, Calls Try.prog 21 #[.int .i64 e, (.agg #[.int .i64 s.need, .int .i64 s.code, .int .i64 s.lo, .int .i64 s.hi, .string s.kept, .int .i64 s.half, .int .i64 s.mode])] w1 fun r w' => r = .returned (.bool false) ∧ Below w1.heap.size w1 w')) : Calls Try.prog 19 #[.int .i64 e, (.agg #[.int .i64 s.need, .int .i64 s.code, .int .i64 s.lo, .int .i64 s.hi, .string s.kept, .int .i64 s.half, .int .i64 s.mode]), .string ⟨#[]⟩] w (PSOE w s [] 1) := by
  go_enter Try.func19, Try.ntmps19
  go_wp2_with fail
  refine (isEnc_yes _ _ h1 h2).mono ?_
  rintro r w' ⟨rfl, rfl⟩
  go_wp2_with fail
  refine (HG.out _).mono ?_
  rintro r w1 ⟨rfl, hb1⟩
  have hS := HasS.box21 hb1
  have hR := HasS.box2 hb1
  have hS3 := hS
  obtain ⟨c0, c1, c2, c3, c4, c5, c6, cz⟩ := hS3
  have hR3 := hR
  obtain ⟨r0, r1, r2, r3, r4, r5, r6, rz⟩ := hR3
  go_wp2_with fail
  refine bodyPost_ret (ret_SOB rfl rfl (hR.put7 s)) rfl ⟨_, rfl, Out.nil _ _, ?_⟩
  exact put7 (two_boxes hb1) (by omega) _ _ _ _ _ _ _
set_option maxRecDepth 100000 in
set_option maxHeartbeats 400000 in
theorem end_kind (e : Int) (s : S) (w : World) (he : ¬ (1 ≤ e ∧ e ≤ 6)) : Calls Try.prog 20 #[.int .i64 e, (.agg #[.int .i64 s.need, .int .i64 s.code, .int .i64 s.lo, .int .i64 s.hi, .string s.kept, .int .i64 s.half, .int .i64 s.mode])] w (POE w [] 2) := by
  have H := hid (fun w1 => isEnc_no e w1 he)
  clear he
  go_enter Try.func20, Try.ntmps20
  go_wp2_with fail
  refine (H.out _).mono ?_
  rintro r w1 ⟨rfl, rfl⟩
  go_wp2_with fail
  go_ret2
  exact ⟨_, rfl, Out.nil _ _, (by repeat (first | exact Below.refl _ _ | assumption | (refine Below.alloc ?_ (by first | (simp; done) | (simp; omega)) _) | (refine Below.setCell ?_ (by first | (simp; done) | (simp; omega)) _) | (refine Below.drew ?_)))⟩
set_option maxRecDepth 100000 in
set_option maxHeartbeats 400000 in
theorem end_form (e : Int) (s : S) (w : World) (h1 : 1 ≤ e) (h2 : e ≤ 6) (HG : Hid (∀ w1, Calls Try.prog 21 #[.int .i64 e, (.agg #[.int .i64 s.need, .int .i64 s.code, .int .i64 s.lo, .int .i64 s.hi, .string s.kept, .int .i64 s.half, .int .i64 s.mode])] w1 fun r w' => r = .returned (.bool false) ∧ Below w1.heap.size w1 w')) : Calls Try.prog 20 #[.int .i64 e, (.agg #[.int .i64 s.need, .int .i64 s.code, .int .i64 s.lo, .int .i64 s.hi, .string s.kept, .int .i64 s.half, .int .i64 s.mode])] w (POE w [] 1) := by
  go_enter Try.func20, Try.ntmps20
  go_wp2_with fail
  refine (isEnc_yes _ _ h1 h2).mono ?_
  rintro r w' ⟨rfl, rfl⟩
  go_wp2_with fail
  refine (HG.out _).mono ?_
  rintro r w1 ⟨rfl, hb1⟩
  go_wp2_with fail
  go_ret2
  exact ⟨_, rfl, Out.nil _ _, one_box hb1⟩
set_option maxRecDepth 100000 in
set_option maxHeartbeats 400000 in
theorem step_ok {e : Int} {M : Mach} (C : Con e M) (G : Goods e M) (q : M.Q) (hq : M.ok q) (b : UInt8) (w : World) : Calls Try.prog 18 #[.int .i64 e, (.agg #[.int .i64 ((M.toS q).need), .int .i64 ((M.toS q).code), .int .i64 ((M.toS q).lo), .int .i64 ((M.toS q).hi), .string ((M.toS q).kept), .int .i64 ((M.toS q).half), .int .i64 ((M.toS q).mode)]), .int .i64 (b.toNat : Int)] w (PSOE w (M.toS (M.proc q b).1) (M.proc q b).2 0) := by
  have h1 := C.lo
  have h2 := C.hi
  have HG := hid (fun w1 => G q w1 hq)
  have HP := hid (fun w1 => process_any C q hq b w1)
  have b1 : (b.toNat : Int) ≤ 255 := by have := b.toNat_lt; omega
  have b2 : (0 : Int) ≤ (b.toNat : Int) := by omega
  generalize M.toS (M.proc q b).1 = st at *
  generalize (M.proc q b).2 = l at *
  go_enter Try.func18, Try.ntmps18
  go_wp2_with fail
  refine (isEnc_yes _ _ h1 h2).mono ?_
  rintro r w' ⟨rfl, rfl⟩
  go_wp2_with fail
  refine (HG.out _).mono ?_
  rintro r w1 ⟨rfl, hb1⟩
  have hS := HasS.box21 hb1
  have hR := HasS.box2 hb1
  have hb1 := two_boxes hb1
  have hS3 := hS
  obtain ⟨c0, c1, c2, c3, c4, c5, c6, cz⟩ := hS3
  go_wp2_with fail
  refine (HP.out _).mono ?_
  rintro r w2 ⟨v, rfl, ho, hb2⟩
  clear c0 c1 c2 c3 c4 c5 c6 cz
  have hR2 := hR.below hb2 hR.lt
  have hR3 := hR2
  obtain ⟨r0, r1, r2, r3, r4, r5, r6, rz⟩ := hR3
  have hB := hb1.trans (hb2.mono hb1.size)
  have lR := hR2.lt
  replace ho := hid ho
  go_wp2_with fail
  refine bodyPost_ret (ret_SOB rfl rfl ((hR2.put7 st).alloc _)) rfl ⟨v, rfl, ?_, ?_⟩
  · exact ((ho.out.put7 hR.lt _ _ _ _ _ _ _).alloc _).base hb1.size
  · exact Below.alloc (put7 hB (by omega) _ _ _ _ _ _ _) (by rw [size7]; exact hB.size) _
set_option maxRecDepth 100000 in
set_option maxHeartbeats 1000000 in
theorem none_kind (e : Int) (s : S) (b : Int) (w : World) (he : ¬ (1 ≤ e ∧ e ≤ 6)) : Calls Try.prog 4 #[.int .i64 e, (.agg #[.int .i64 s.need, .int .i64 s.code, .int .i64 s.lo, .int .i64 s.hi, .string s.kept, .int .i64 s.half, .int .i64 s.mode]), .int .i64 b] w fun r w' => r = .returned (.bool true) ∧ Below w.heap.size w w' := by
  have H1 := hid (fun w1 => step_kind e s b w1 he)
  have H2 := hid (fun w1 => feed_kind e s w1 he)
  have H3 := hid (fun w1 => end_kind e s w1 he)
  have hs := sEq_self s
  go_enter Try.func4, Try.ntmps4
  go_wp2_with fail
  refine (H1.out _).mono ?_
  rintro r w1 ⟨v1, rfl, ho1, hb1⟩
  have hS := ((HasS.new w s).below hb1 (by simp)).alloc (.cells #[.int .i64 s.need, .int .i64 s.code, .int .i64 s.lo, .int .i64 s.hi, .string s.kept, .int .i64 s.half, .int .i64 s.mode] 30)
  have hN := HasS.new w1 s
  have hB := (one_box hb1).alloc (one_box hb1).size (.cells #[.int .i64 s.need, .int .i64 s.code, .int .i64 s.lo, .int .i64 s.hi, .string s.kept, .int .i64 s.half, .int .i64 s.mode] 30)
  obtain ⟨a1, k1, rfl⟩ := ho1.shape
  clear ho1 hb1 H1
  go_upto_region 2 with fail
  generalize w1.alloc (.cells #[.int .i64 s.need, .int .i64 s.code, .int .i64 s.lo, .int .i64 s.hi, .string s.kept, .int .i64 s.half, .int .i64 s.mode] 30) = X1 at *
  generalize w1.heap.size = gn at *
  clear w1
  have hS3 := hS
  obtain ⟨c0, c1, c2, c3, c4, c5, c6, cz⟩ := hS3
  go_wp2_with fail
  refine (H2.out _).mono ?_
  rintro r w2 ⟨v2, rfl, ho2, hb2⟩
  clear c0 c1 c2 c3 c4 c5 c6 cz H2
  have hS2 := (hS.below hb2 hS.lt).alloc (.cells #[.int .i64 s.need, .int .i64 s.code, .int .i64 s.lo, .int .i64 s.hi, .string s.kept, .int .i64 s.half, .int .i64 s.mode] 30)
  have hN2 := (hN.below hb2 hN.lt).alloc (.cells #[.int .i64 s.need, .int .i64 s.code, .int .i64 s.lo, .int .i64 s.hi, .string s.kept, .int .i64 s.half, .int .i64 s.mode] 30)
  have hB2 := Below.trans hB (hb2.mono hB.size)
  have hB3 := hB2.alloc hB2.size (.cells #[.int .i64 s.need, .int .i64 s.code, .int .i64 s.lo, .int .i64 s.hi, .string s.kept, .int .i64 s.half, .int .i64 s.mode] 30)
  obtain ⟨a2, k2, rfl⟩ := ho2.shape
  clear ho2 hb2 hS hN hB hB2
  go_upto_region 3 with fail
  generalize w2.alloc (.cells #[.int .i64 s.need, .int .i64 s.code, .int .i64 s.lo, .int .i64 s.hi, .string s.kept, .int .i64 s.half, .int .i64 s.mode] 30) = X2 at *
  generalize w2.heap.size = g2 at *
  clear w2
  have hS3 := hS2
  obtain ⟨c0, c1, c2, c3, c4, c5, c6, cz⟩ := hS3
  go_wp2_with fail
  refine (H3.out _).mono ?_
  rintro r w3 ⟨v3, rfl, ho3, hb3⟩
  clear c0 c1 c2 c3 c4 c5 c6 cz H3
  have hS := hS2.below hb3 hS2.lt
  have hN := hN2.below hb3 hN2.lt
  have hB := hB3.trans (hb3.mono hB3.size)
  obtain ⟨a3, k3, rfl⟩ := ho3.shape
  clear ho3 hb3 hS2 hN2 hB3
  have hS3 := hS
  obtain ⟨c0, c1, c2, c3, c4, c5, c6, cz⟩ := hS3
  have hN3 := hN
  obtain ⟨d0, d1, d2, d3, d4, d5, d6, dz⟩ := hN3
  simp only [List.length_nil]
  obtain hx | ⟨hx, hy⟩ : e < 1 ∨ (¬ e < 1 ∧ 6 < e) := by omega
  all_goals
    clear he
    go_wp2_with fail
    refine (decodes_law _).mono ?_
    rintro r w9 ⟨rfl, hb9⟩
    go_wp2_with fail
    go_ret
    exact ⟨rfl, hB.trans (hb9.mono hB.size)⟩
set_option maxRecDepth 100000 in
set_option maxHeartbeats 1000000 in
theorem none_form (e : Int) (s : S) (b : Int) (w : World) (h1 : 1 ≤ e) (h2 : e ≤ 6) (HG : Hid (∀ w1, Calls Try.prog 21 #[.int .i64 e, (.agg #[.int .i64 s.need, .int .i64 s.code, .int .i64 s.lo, .int .i64 s.hi, .string s.kept, .int .i64 s.half, .int .i64 s.mode])] w1 fun r w' => r = .returned (.bool false) ∧ Below w1.heap.size w1 w')) : Calls Try.prog 4 #[.int .i64 e, (.agg #[.int .i64 s.need, .int .i64 s.code, .int .i64 s.lo, .int .i64 s.hi, .string s.kept, .int .i64 s.half, .int .i64 s.mode]), .int .i64 b] w fun r w' => r = .returned (.bool true) ∧ Below w.heap.size w w' := by
  have H1 := hid (fun w1 => step_form e s b w1 h1 h2 HG)
  have H2 := hid (fun w1 => feed_form e s w1 h1 h2 HG)
  have H3 := hid (fun w1 => end_form e s w1 h1 h2 HG)
  have hs := sEq_self s
  go_enter Try.func4, Try.ntmps4
  go_wp2_with fail
  refine (H1.out _).mono ?_
  rintro r w1 ⟨v1, rfl, ho1, hb1⟩
  have hS := ((HasS.new w s).below hb1 (by simp)).alloc (.cells #[.int .i64 s.need, .int .i64 s.code, .int .i64 s.lo, .int .i64 s.hi, .string s.kept, .int .i64 s.half, .int .i64 s.mode] 30)
  have hN := HasS.new w1 s
  have hB := (one_box hb1).alloc (one_box hb1).size (.cells #[.int .i64 s.need, .int .i64 s.code, .int .i64 s.lo, .int .i64 s.hi, .string s.kept, .int .i64 s.half, .int .i64 s.mode] 30)
  obtain ⟨a1, k1, rfl⟩ := ho1.shape
  clear ho1 hb1 H1
  go_upto_region 2 with fail
  generalize w1.alloc (.cells #[.int .i64 s.need, .int .i64 s.code, .int .i64 s.lo, .int .i64 s.hi, .string s.kept, .int .i64 s.half, .int .i64 s.mode] 30) = X1 at *
  generalize w1.heap.size = gn at *
  clear w1
  have hS3 := hS
  obtain ⟨c0, c1, c2, c3, c4, c5, c6, cz⟩ := hS3
  go_wp2_with fail
  refine (H2.out _).mono ?_
  rintro r w2 ⟨v2, rfl, ho2, hb2⟩
  clear c0 c1 c2 c3 c4 c5 c6 cz H2
  have hS2 := (hS.below hb2 hS.lt).alloc (.cells #[.int .i64 s.need, .int .i64 s.code, .int .i64 s.lo, .int .i64 s.hi, .string s.kept, .int .i64 s.half, .int .i64 s.mode] 30)
  have hN2 := (hN.below hb2 hN.lt).alloc (.cells #[.int .i64 s.need, .int .i64 s.code, .int .i64 s.lo, .int .i64 s.hi, .string s.kept, .int .i64 s.half, .int .i64 s.mode] 30)
  have hB2 := Below.trans hB (hb2.mono hB.size)
  have hB3 := hB2.alloc hB2.size (.cells #[.int .i64 s.need, .int .i64 s.code, .int .i64 s.lo, .int .i64 s.hi, .string s.kept, .int .i64 s.half, .int .i64 s.mode] 30)
  obtain ⟨a2, k2, rfl⟩ := ho2.shape
  clear ho2 hb2 hS hN hB hB2
  go_upto_region 3 with fail
  generalize w2.alloc (.cells #[.int .i64 s.need, .int .i64 s.code, .int .i64 s.lo, .int .i64 s.hi, .string s.kept, .int .i64 s.half, .int .i64 s.mode] 30) = X2 at *
  generalize w2.heap.size = g2 at *
  clear w2
  have hS3 := hS2
  obtain ⟨c0, c1, c2, c3, c4, c5, c6, cz⟩ := hS3
  go_wp2_with fail
  refine (H3.out _).mono ?_
  rintro r w3 ⟨v3, rfl, ho3, hb3⟩
  clear c0 c1 c2 c3 c4 c5 c6 cz H3
  have hS := hS2.below hb3 hS2.lt
  have hN := hN2.below hb3 hN2.lt
  have hB := hB3.trans (hb3.mono hB3.size)
  obtain ⟨a3, k3, rfl⟩ := ho3.shape
  clear ho3 hb3 hS2 hN2 hB3
  have hS3 := hS
  obtain ⟨c0, c1, c2, c3, c4, c5, c6, cz⟩ := hS3
  have hN3 := hN
  obtain ⟨d0, d1, d2, d3, d4, d5, d6, dz⟩ := hN3
  simp only [List.length_nil]
  go_wp2_with fail
  refine (HG.out _).mono ?_
  rintro r w4 ⟨rfl, hb4⟩
  clear c0 c1 c2 c3 c4 c5 c6 cz d0 d1 d2 d3 d4 d5 d6 dz
  replace hS := hS.below hb4 hS.lt
  replace hN := hN.below hb4 hN.lt
  replace hB := hB.trans (hb4.mono hB.size)
  have hS3 := hS
  obtain ⟨c0, c1, c2, c3, c4, c5, c6, cz⟩ := hS3
  have hN3 := hN
  obtain ⟨d0, d1, d2, d3, d4, d5, d6, dz⟩ := hN3
  go_wp2_with fail
  refine (decodes_law _).mono ?_
  rintro r w9 ⟨rfl, hb9⟩
  go_wp2_with fail
  go_ret
  exact ⟨rfl, hB.trans (hb9.mono hB.size)⟩
set_option maxRecDepth 100000 in
set_option maxHeartbeats 1000000 in
theorem none_range (e : Int) (s : S) (b : Int) (w : World) (t2 : S) (l2 l3 : List Int) (h1 : 1 ≤ e) (h2 : e ≤ 6) (hb : b < 0 ∨ 255 < b) (HG : Hid (∀ w1, Calls Try.prog 21 #[.int .i64 e, (.agg #[.int .i64 s.need, .int .i64 s.code, .int .i64 s.lo, .int .i64 s.hi, .string s.kept, .int .i64 s.half, .int .i64 s.mode])] w1 fun r w' => r = .returned (.bool true) ∧ Below w1.heap.size w1 w')) (H2 : Hid (∀ w1, Calls Try.prog 19 #[.int .i64 e, (.agg #[.int .i64 s.need, .int .i64 s.code, .int .i64 s.lo, .int .i64 s.hi, .string s.kept, .int .i64 s.half, .int .i64 s.mode]), .string ⟨#[]⟩] w1 (PSOE w1 t2 l2 0))) (H3 : Hid (∀ w1, Calls Try.prog 20 #[.int .i64 e, (.agg #[.int .i64 s.need, .int .i64 s.code, .int .i64 s.lo, .int .i64 s.hi, .string s.kept, .int .i64 s.half, .int .i64 s.mode])] w1 (POE w1 l3 0))) : Calls Try.prog 4 #[.int .i64 e, (.agg #[.int .i64 s.need, .int .i64 s.code, .int .i64 s.lo, .int .i64 s.hi, .string s.kept, .int .i64 s.half, .int .i64 s.mode]), .int .i64 b] w fun r w' => r = .returned (.bool true) ∧ Below w.heap.size w w' := by
  have H1 := hid (fun w1 => step_range e s b w1 h1 h2 hb HG)
  have hs := sEq_self s
  go_enter Try.func4, Try.ntmps4
  go_wp2_with fail
  refine (H1.out _).mono ?_
  rintro r w1 ⟨v1, rfl, ho1, hb1⟩
  have hS := ((HasS.new w s).below hb1 (by simp)).alloc (.cells #[.int .i64 s.need, .int .i64 s.code, .int .i64 s.lo, .int .i64 s.hi, .string s.kept, .int .i64 s.half, .int .i64 s.mode] 30)
  have hN := HasS.new w1 s
  have hB := (one_box hb1).alloc (one_box hb1).size (.cells #[.int .i64 s.need, .int .i64 s.code, .int .i64 s.lo, .int .i64 s.hi, .string s.kept, .int .i64 s.half, .int .i64 s.mode] 30)
  obtain ⟨a1, k1, rfl⟩ := ho1.shape
  clear ho1 hb1 H1
  go_upto_region 2 with fail
  generalize w1.alloc (.cells #[.int .i64 s.need, .int .i64 s.code, .int .i64 s.lo, .int .i64 s.hi, .string s.kept, .int .i64 s.half, .int .i64 s.mode] 30) = X1 at *
  generalize w1.heap.size = gn at *
  clear w1
  have hS3 := hS
  obtain ⟨c0, c1, c2, c3, c4, c5, c6, cz⟩ := hS3
  go_wp2_with fail
  refine (H2.out _).mono ?_
  rintro r w2 ⟨v2, rfl, ho2, hb2⟩
  clear c0 c1 c2 c3 c4 c5 c6 cz H2
  have hS2 := (hS.below hb2 hS.lt).alloc (.cells #[.int .i64 t2.need, .int .i64 t2.code, .int .i64 t2.lo, .int .i64 t2.hi, .string t2.kept, .int .i64 t2.half, .int .i64 t2.mode] 30)
  have hN2 := (hN.below hb2 hN.lt).alloc (.cells #[.int .i64 t2.need, .int .i64 t2.code, .int .i64 t2.lo, .int .i64 t2.hi, .string t2.kept, .int .i64 t2.half, .int .i64 t2.mode] 30)
  have hB2 := Below.trans hB (hb2.mono hB.size)
  have hB3 := hB2.alloc hB2.size (.cells #[.int .i64 t2.need, .int .i64 t2.code, .int .i64 t2.lo, .int .i64 t2.hi, .string t2.kept, .int .i64 t2.half, .int .i64 t2.mode] 30)
  obtain ⟨a2, k2, rfl⟩ := ho2.shape
  clear ho2 hb2 hS hN hB hB2
  go_upto_region 3 with fail
  generalize w2.alloc (.cells #[.int .i64 t2.need, .int .i64 t2.code, .int .i64 t2.lo, .int .i64 t2.hi, .string t2.kept, .int .i64 t2.half, .int .i64 t2.mode] 30) = X2 at *
  generalize w2.heap.size = g2 at *
  clear w2
  have hS3 := hS2
  obtain ⟨c0, c1, c2, c3, c4, c5, c6, cz⟩ := hS3
  go_wp2_with fail
  refine (H3.out _).mono ?_
  rintro r w3 ⟨v3, rfl, ho3, hb3⟩
  clear c0 c1 c2 c3 c4 c5 c6 cz H3
  have hS := hS2.below hb3 hS2.lt
  have hN := hN2.below hb3 hN2.lt
  have hB := hB3.trans (hb3.mono hB3.size)
  obtain ⟨a3, k3, rfl⟩ := ho3.shape
  clear ho3 hb3 hS2 hN2 hB3
  have hS3 := hS
  obtain ⟨c0, c1, c2, c3, c4, c5, c6, cz⟩ := hS3
  have hN3 := hN
  obtain ⟨d0, d1, d2, d3, d4, d5, d6, dz⟩ := hN3
  simp only [List.length_nil]
  go_wp2_with fail
  refine (HG.out _).mono ?_
  rintro r w4 ⟨rfl, hb4⟩
  clear c0 c1 c2 c3 c4 c5 c6 cz d0 d1 d2 d3 d4 d5 d6 dz
  replace hS := hS.below hb4 hS.lt
  replace hN := hN.below hb4 hN.lt
  replace hB := hB.trans (hb4.mono hB.size)
  have hS3 := hS
  obtain ⟨c0, c1, c2, c3, c4, c5, c6, cz⟩ := hS3
  have hN3 := hN
  obtain ⟨d0, d1, d2, d3, d4, d5, d6, dz⟩ := hN3
  obtain hx | ⟨hx, hy⟩ : b < 0 ∨ (¬ b < 0 ∧ 255 < b) := by omega
  all_goals
    clear hb
    go_wp2_with fail
    refine (decodes_law _).mono ?_
    rintro r w9 ⟨rfl, hb9⟩
    go_wp2_with fail
    go_ret
    exact ⟨rfl, hB.trans (hb9.mono hB.size)⟩
set_option maxRecDepth 100000 in
set_option maxHeartbeats 1000000 in
theorem none_ok (e : Int) (s : S) (b : UInt8) (w : World) (t1 t2 : S) (l1 l2 l3 : List Int) (hl : l3.length ≤ 2) (h1 : 1 ≤ e) (h2 : e ≤ 6) (HG : Hid (∀ w1, Calls Try.prog 21 #[.int .i64 e, (.agg #[.int .i64 s.need, .int .i64 s.code, .int .i64 s.lo, .int .i64 s.hi, .string s.kept, .int .i64 s.half, .int .i64 s.mode])] w1 fun r w' => r = .returned (.bool true) ∧ Below w1.heap.size w1 w')) (HN : Hid (∀ w1, Calls Try.prog 21 #[.int .i64 e, (.agg #[.int .i64 t1.need, .int .i64 t1.code, .int .i64 t1.lo, .int .i64 t1.hi, .string t1.kept, .int .i64 t1.half, .int .i64 t1.mode])] w1 fun r w' => r = .returned (.bool true) ∧ Below w1.heap.size w1 w')) (H1 : Hid (∀ w1, Calls Try.prog 18 #[.int .i64 e, (.agg #[.int .i64 s.need, .int .i64 s.code, .int .i64 s.lo, .int .i64 s.hi, .string s.kept, .int .i64 s.half, .int .i64 s.mode]), .int .i64 (b.toNat : Int)] w1 (PSOE w1 t1 l1 0))) (H2 : Hid (∀ w1, Calls Try.prog 19 #[.int .i64 e, (.agg #[.int .i64 s.need, .int .i64 s.code, .int .i64 s.lo, .int .i64 s.hi, .string s.kept, .int .i64 s.half, .int .i64 s.mode]), .string ⟨#[]⟩] w1 (PSOE w1 t2 l2 0))) (H3 : Hid (∀ w1, Calls Try.prog 20 #[.int .i64 e, (.agg #[.int .i64 s.need, .int .i64 s.code, .int .i64 s.lo, .int .i64 s.hi, .string s.kept, .int .i64 s.half, .int .i64 s.mode])] w1 (POE w1 l3 0))) : Calls Try.prog 4 #[.int .i64 e, (.agg #[.int .i64 s.need, .int .i64 s.code, .int .i64 s.lo, .int .i64 s.hi, .string s.kept, .int .i64 s.half, .int .i64 s.mode]), .int .i64 (b.toNat : Int)] w fun r w' => r = .returned (.bool true) ∧ Below w.heap.size w w' := by
  have b1 : (b.toNat : Int) ≤ 255 := by have := b.toNat_lt; omega
  have b2 : (0 : Int) ≤ (b.toNat : Int) := by omega
  go_enter Try.func4, Try.ntmps4
  go_wp2_with fail
  refine (H1.out _).mono ?_
  rintro r w1 ⟨v1, rfl, ho1, hb1⟩
  have hS := ((HasS.new w s).below hb1 (by simp)).alloc (.cells #[.int .i64 t1.need, .int .i64 t1.code, .int .i64 t1.lo, .int .i64 t1.hi, .string t1.kept, .int .i64 t1.half, .int .i64 t1.mode] 30)
  have hN := HasS.new w1 t1
  have hB := (one_box hb1).alloc (one_box hb1).size (.cells #[.int .i64 t1.need, .int .i64 t1.code, .int .i64 t1.lo, .int .i64 t1.hi, .string t1.kept, .int .i64 t1.half, .int .i64 t1.mode] 30)
  obtain ⟨a1, k1, rfl⟩ := ho1.shape
  clear ho1 hb1 H1
  go_upto_region 2 with fail
  generalize w1.alloc (.cells #[.int .i64 t1.need, .int .i64 t1.code, .int .i64 t1.lo, .int .i64 t1.hi, .string t1.kept, .int .i64 t1.half, .int .i64 t1.mode] 30) = X1 at *
  generalize w1.heap.size = gn at *
  clear w1
  have hS3 := hS
  obtain ⟨c0, c1, c2, c3, c4, c5, c6, cz⟩ := hS3
  go_wp2_with fail
  refine (H2.out _).mono ?_
  rintro r w2 ⟨v2, rfl, ho2, hb2⟩
  clear c0 c1 c2 c3 c4 c5 c6 cz H2
  have hS2 := (hS.below hb2 hS.lt).alloc (.cells #[.int .i64 t2.need, .int .i64 t2.code, .int .i64 t2.lo, .int .i64 t2.hi, .string t2.kept, .int .i64 t2.half, .int .i64 t2.mode] 30)
  have hN2 := (hN.below hb2 hN.lt).alloc (.cells #[.int .i64 t2.need, .int .i64 t2.code, .int .i64 t2.lo, .int .i64 t2.hi, .string t2.kept, .int .i64 t2.half, .int .i64 t2.mode] 30)
  have hB2 := Below.trans hB (hb2.mono hB.size)
  have hB3 := hB2.alloc hB2.size (.cells #[.int .i64 t2.need, .int .i64 t2.code, .int .i64 t2.lo, .int .i64 t2.hi, .string t2.kept, .int .i64 t2.half, .int .i64 t2.mode] 30)
  obtain ⟨a2, k2, rfl⟩ := ho2.shape
  clear ho2 hb2 hS hN hB hB2
  go_upto_region 3 with fail
  generalize w2.alloc (.cells #[.int .i64 t2.need, .int .i64 t2.code, .int .i64 t2.lo, .int .i64 t2.hi, .string t2.kept, .int .i64 t2.half, .int .i64 t2.mode] 30) = X2 at *
  generalize w2.heap.size = g2 at *
  clear w2
  have hS3 := hS2
  obtain ⟨c0, c1, c2, c3, c4, c5, c6, cz⟩ := hS3
  go_wp2_with fail
  refine (H3.out _).mono ?_
  rintro r w3 ⟨v3, rfl, ho3, hb3⟩
  clear c0 c1 c2 c3 c4 c5 c6 cz H3
  have hS := hS2.below hb3 hS2.lt
  have hN := hN2.below hb3 hN2.lt
  have hB := hB3.trans (hb3.mono hB3.size)
  obtain ⟨a3, k3, rfl⟩ := ho3.shape
  clear ho3 hb3 hS2 hN2 hB3
  have hS3 := hS
  obtain ⟨c0, c1, c2, c3, c4, c5, c6, cz⟩ := hS3
  have hN3 := hN
  obtain ⟨d0, d1, d2, d3, d4, d5, d6, dz⟩ := hN3
  simp only [List.length_nil]
  go_wp2_with fail
  refine (HG.out _).mono ?_
  rintro r w4 ⟨rfl, hb4⟩
  clear c0 c1 c2 c3 c4 c5 c6 cz d0 d1 d2 d3 d4 d5 d6 dz
  replace hS := hS.below hb4 hS.lt
  replace hN := hN.below hb4 hN.lt
  replace hB := hB.trans (hb4.mono hB.size)
  have hS3 := hS
  obtain ⟨c0, c1, c2, c3, c4, c5, c6, cz⟩ := hS3
  have hN3 := hN
  obtain ⟨d0, d1, d2, d3, d4, d5, d6, dz⟩ := hN3
  have q1 : decide ((l3.length : Int) ≤ 2) = true := by simp; omega
  go_wp2_with fail
  refine (HN.out _).mono ?_
  rintro r w5 ⟨rfl, hb5⟩
  replace hB := hB.trans (hb5.mono hB.size)
  go_wp2_with fail
  refine (decodes_law _).mono ?_
  rintro r w9 ⟨rfl, hb9⟩
  go_wp2_with fail
  go_ret
  exact ⟨rfl, hB.trans (hb9.mono hB.size)⟩
theorem none_any (e : Int) (s : S) (b : Int) (w : World) : Calls Try.prog 4 #[.int .i64 e, (.agg #[.int .i64 s.need, .int .i64 s.code, .int .i64 s.lo, .int .i64 s.hi, .string s.kept, .int .i64 s.half, .int .i64 s.mode]), .int .i64 b] w fun r w' => r = .returned (.bool true) ∧ Below w.heap.size w w' := by
  by_cases he : 1 ≤ e ∧ e ≤ 6
  · obtain ⟨h1, h2⟩ := he
    obtain ⟨M, F⟩ := full_of e h1 h2
    by_cases hq : ∃ q, M.ok q ∧ M.toS q = s
    · obtain ⟨q, hq, rfl⟩ := hq
      have HG := hid (fun w1 => F.goods q w1 hq)
      have H2 := hid (fun w1 => feed_any F.con F.goods q hq ⟨#[]⟩ (by decide) w1)
      have H3 := hid (fun w1 => end_any F.con F.goods q hq w1)
      by_cases hb : b < 0 ∨ 255 < b
      · exact none_range e (M.toS q) b w _ _ _ h1 h2 hb HG H2 H3
      · obtain ⟨u, rfl⟩ : ∃ u : UInt8, b = (u.toNat : Int) := ⟨UInt8.ofNat b.toNat, by simp; omega⟩
        have H1 := hid (fun w1 => step_ok F.con F.goods q hq u w1)
        exact none_ok e (M.toS q) u w _ _ _ _ _ (F.con.end_ q) h1 h2 HG (hid fun w1 => F.goods _ w1 (F.con.proc_ok u hq).1) H1 H2 H3
    · exact none_form e s b w h1 h2 (hid fun w1 => (F.good s w1).mono fun _ _ h => h.no hq)
  · exact none_kind e s b w he
end Go.Proofs.Ytloaemijhggheaa
