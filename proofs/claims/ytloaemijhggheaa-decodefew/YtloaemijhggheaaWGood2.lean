/- Good: Shift, Low and High; all encodings. -/
import Derived.Test.YtloaemijhggheaaWGood
namespace Go.Proofs.Ytloaemijhggheaa
open Go.RowKit
attribute [local go_sem ↓] run_eqS run_neS
attribute [local go_sem] byte_at0 byte_at20 byte_at21 w64 S.v and63 and31 and15 and7 kw kw256

set_option maxRecDepth 100000 in
set_option maxHeartbeats 400000 in
theorem half_zero (w : World) : Calls Try.prog 79 #[.int .i64 0] w fun e w' => e = .returned (.bool true) ∧ w = w' := by
  go_enter Try.func79, Try.ntmps79
  go_wp2_with fail
  go_ret
  exact ⟨rfl, rfl⟩
set_option maxRecDepth 100000 in
set_option maxHeartbeats 400000 in
theorem half_lead (h : Int) (g : Bool) (w : World) (h0 : (h == 0) = false) (hg : leadsB h = g) : Calls Try.prog 79 #[.int .i64 h] w fun e w' => e = .returned (.bool g) ∧ w = w' := by
  have H := fun w1 => leads_any h w1
  rw [hg] at H
  replace H := hid H
  clear hg
  go_enter Try.func79, Try.ntmps79
  go_wp2_with fail
  refine (H.out _).mono ?_
  rintro e w1 ⟨rfl, rfl⟩
  go_wp2_with fail
  go_ret
  exact ⟨rfl, rfl⟩
def halfB (h : Int) : Bool := h == 0 || leadsB h
theorem halfB_iff (h : Int) : halfB h = true ↔ halfOk h := by unfold halfB halfOk; simp
theorem half_any (h : Int) (w : World) : Calls Try.prog 79 #[.int .i64 h] w fun e w' => e = .returned (.bool (halfB h)) ∧ w = w' := by
  by_cases h0 : h = 0
  · subst h0; exact half_zero w
  · rw [show halfB h = leadsB h from by simp [halfB, h0]]
    exact half_lead h _ w (by simp [h0]) rfl
set_option maxRecDepth 100000 in
set_option maxHeartbeats 400000 in
theorem goodLo_off (s : S) (h : sEq s ⟨0, 0, 0, 0, s.kept, s.half, 0⟩ = false) (w : World) : Calls Try.prog 49 #[(.agg #[.int .i64 s.need, .int .i64 s.code, .int .i64 s.lo, .int .i64 s.hi, .string s.kept, .int .i64 s.half, .int .i64 s.mode])] w fun e w' => e = .returned (.bool false) ∧ Below w.heap.size w w' := by
  go_enter Try.func49, Try.ntmps49
  go_wp2_with fail
  go_ret
  exact ⟨rfl, (by repeat (first | exact Below.refl _ _ | assumption | (refine Below.alloc ?_ (by first | (simp; done) | (simp; omega)) _) | (refine Below.setCell ?_ (by first | (simp; done) | (simp; omega)) _) | (refine Below.drew ?_)))⟩
set_option maxRecDepth 100000 in
set_option maxHeartbeats 400000 in
theorem goodLo_long (k : ByteArray) (h : Int) (hk : 1 < (k.size : Int)) (w : World) : Calls Try.prog 49 #[(.agg #[.int .i64 0, .int .i64 0, .int .i64 0, .int .i64 0, .string k, .int .i64 h, .int .i64 0])] w fun e w' => e = .returned (.bool false) ∧ Below w.heap.size w w' := by
  have h := sEq_self ⟨0, 0, 0, 0, k, h, 0⟩
  go_enter Try.func49, Try.ntmps49
  go_wp2_with fail
  go_ret
  exact ⟨rfl, (by repeat (first | exact Below.refl _ _ | assumption | (refine Below.alloc ?_ (by first | (simp; done) | (simp; omega)) _) | (refine Below.setCell ?_ (by first | (simp; done) | (simp; omega)) _) | (refine Below.drew ?_)))⟩
set_option maxRecDepth 100000 in
set_option maxHeartbeats 400000 in
theorem goodLo_none (h : Int) (g : Bool) (hg : halfB h = g) (w : World) : Calls Try.prog 49 #[(.agg #[.int .i64 0, .int .i64 0, .int .i64 0, .int .i64 0, .string ⟨#[]⟩, .int .i64 h, .int .i64 0])] w fun e w' => e = .returned (.bool g) ∧ Below w.heap.size w w' := by
  have H := fun w1 => half_any h w1
  rw [hg] at H
  replace H := hid H
  clear hg
  have h := sEq_self ⟨0, 0, 0, 0, ⟨#[]⟩, h, 0⟩
  go_enter Try.func49, Try.ntmps49
  go_wp2_with fail
  refine (H.out _).mono ?_
  rintro e w1 ⟨rfl, rfl⟩
  go_wp2_with fail
  go_ret
  exact ⟨rfl, (by repeat (first | exact Below.refl _ _ | assumption | (refine Below.alloc ?_ (by first | (simp; done) | (simp; omega)) _) | (refine Below.setCell ?_ (by first | (simp; done) | (simp; omega)) _) | (refine Below.drew ?_)))⟩
set_option maxRecDepth 100000 in
set_option maxHeartbeats 400000 in
theorem goodLo_one (b : UInt8) (h : Int) (g : Bool) (hg : halfB h = g) (w : World) : Calls Try.prog 49 #[(.agg #[.int .i64 0, .int .i64 0, .int .i64 0, .int .i64 0, .string ⟨#[b]⟩, .int .i64 h, .int .i64 0])] w fun e w' => e = .returned (.bool g) ∧ Below w.heap.size w w' := by
  have H := fun w1 => half_any h w1
  rw [hg] at H
  replace H := hid H
  clear hg
  have h := sEq_self ⟨0, 0, 0, 0, ⟨#[b]⟩, h, 0⟩
  go_enter Try.func49, Try.ntmps49
  go_wp2_with fail
  refine (H.out _).mono ?_
  rintro e w1 ⟨rfl, rfl⟩
  go_wp2_with fail
  go_ret
  exact ⟨rfl, (by repeat (first | exact Below.refl _ _ | assumption | (refine Below.alloc ?_ (by first | (simp; done) | (simp; omega)) _) | (refine Below.setCell ?_ (by first | (simp; done) | (simp; omega)) _) | (refine Below.drew ?_)))⟩
theorem goodLo_any (s : S) (w : World) : Calls Try.prog 49 #[(.agg #[.int .i64 s.need, .int .i64 s.code, .int .i64 s.lo, .int .i64 s.hi, .string s.kept, .int .i64 s.half, .int .i64 s.mode])] w (GoodIs w (∃ q, loOk q ∧ loS q = s)) := by
  cases h : sEq s ⟨0, 0, 0, 0, s.kept, s.half, 0⟩ with
  | false =>
    refine (goodLo_off s h w).mono fun e w' ⟨he, hb⟩ => ⟨false, he, ⟨(fun x => by cases x), ?_⟩, hb⟩
    rintro ⟨q, _, rfl⟩
    exact absurd (sEq_self (loS q)) (by rw [show sEq (loS q) (loS q) = false from h]; decide)
  | true =>
    obtain ⟨a, b, c, d, k, f, g⟩ := s
    have e := sEq_eq h
    simp only [S.mk.injEq] at e
    obtain ⟨rfl, rfl, rfl, rfl, _, _, rfl⟩ := e
    rcases kept_cases k with rfl | ⟨b, rfl⟩ | ⟨⟨h0, h0'⟩, h1, h2⟩
    · refine (goodLo_none f _ rfl w).mono fun e w' ⟨he, hb⟩ => ⟨_, he, ⟨fun x => ⟨(f, none), (halfB_iff f).1 x, rfl⟩, ?_⟩, hb⟩
      rintro ⟨q, hq, e⟩
      have e' : q.1 = f := congrArg S.half e
      exact (halfB_iff f).2 (by rw [← e']; exact hq)
    · refine (goodLo_one b f _ rfl w).mono fun e w' ⟨he, hb⟩ => ⟨_, he, ⟨fun x => ⟨(f, some b), (halfB_iff f).1 x, rfl⟩, ?_⟩, hb⟩
      rintro ⟨q, hq, e⟩
      have e' : q.1 = f := congrArg S.half e
      exact (halfB_iff f).2 (by rw [← e']; exact hq)
    · refine (goodLo_long k f h2 w).mono fun e w' ⟨he, hb⟩ => ⟨false, he, ⟨(fun x => by cases x), ?_⟩, hb⟩
      rintro ⟨⟨x, q⟩, hq, e⟩
      have ek : keptO q = k := congrArg S.kept e
      subst ek
      cases q <;> simp [keptO, ByteArray.size] at h2
set_option maxRecDepth 100000 in
set_option maxHeartbeats 400000 in
theorem goodHi_unit (s : S) (g : Bool) (h0 : s.kept.toList = []) (_h0b : (s.kept.toList == []) = true) (hs : sEq s ⟨0, 0, 0, 0, ⟨#[]⟩, s.half, 0⟩ = true) (hg : halfB s.half = g) (w : World) : Calls Try.prog 50 #[(.agg #[.int .i64 s.need, .int .i64 s.code, .int .i64 s.lo, .int .i64 s.hi, .string s.kept, .int .i64 s.half, .int .i64 s.mode])] w fun e w' => e = .returned (.bool g) ∧ Below w.heap.size w w' := by
  have H := fun w1 => half_any s.half w1
  rw [hg] at H
  replace H := hid H
  clear hg
  have h00 : s.kept.toList.isEmpty = true := by rw [h0]; rfl
  go_enter Try.func50, Try.ntmps50
  go_wp2_with fail
  refine (H.out _).mono ?_
  rintro e w1 ⟨rfl, rfl⟩
  go_wp2_with fail
  go_ret
  exact ⟨rfl, (by repeat (first | exact Below.refl _ _ | assumption | (refine Below.alloc ?_ (by first | (simp; done) | (simp; omega)) _) | (refine Below.setCell ?_ (by first | (simp; done) | (simp; omega)) _) | (refine Below.drew ?_)))⟩
set_option maxRecDepth 100000 in
set_option maxHeartbeats 400000 in
theorem goodHi_unit_off (s : S) (h0 : s.kept.toList = []) (_h0b : (s.kept.toList == []) = true) (hs : sEq s ⟨0, 0, 0, 0, ⟨#[]⟩, s.half, 0⟩ = false) (w : World) : Calls Try.prog 50 #[(.agg #[.int .i64 s.need, .int .i64 s.code, .int .i64 s.lo, .int .i64 s.hi, .string s.kept, .int .i64 s.half, .int .i64 s.mode])] w fun e w' => e = .returned (.bool false) ∧ Below w.heap.size w w' := by
  have h00 : s.kept.toList.isEmpty = true := by rw [h0]; rfl
  go_enter Try.func50, Try.ntmps50
  go_wp2_with fail
  go_ret
  exact ⟨rfl, (by repeat (first | exact Below.refl _ _ | assumption | (refine Below.alloc ?_ (by first | (simp; done) | (simp; omega)) _) | (refine Below.setCell ?_ (by first | (simp; done) | (simp; omega)) _) | (refine Below.drew ?_)))⟩
set_option maxRecDepth 100000 in
set_option maxHeartbeats 400000 in
theorem goodHi_long (s : S) (h0 : (s.kept.toList == []) = false) (_h0n : ¬ s.kept.toList = []) (hk : 1 < (s.kept.size : Int)) (w : World) : Calls Try.prog 50 #[(.agg #[.int .i64 s.need, .int .i64 s.code, .int .i64 s.lo, .int .i64 s.hi, .string s.kept, .int .i64 s.half, .int .i64 s.mode])] w fun e w' => e = .returned (.bool false) ∧ Below w.heap.size w w' := by
  have h00 : s.kept.toList.isEmpty = false := by cases hk : s.kept.toList <;> simp_all
  go_enter Try.func50, Try.ntmps50
  go_wp2_with fail
  go_ret
  exact ⟨rfl, (by repeat (first | exact Below.refl _ _ | assumption | (refine Below.alloc ?_ (by first | (simp; done) | (simp; omega)) _) | (refine Below.setCell ?_ (by first | (simp; done) | (simp; omega)) _) | (refine Below.drew ?_)))⟩
set_option maxRecDepth 100000 in
set_option maxHeartbeats 400000 in
theorem goodHi_told (n c lo hi h : Int) (b : UInt8) (g : Bool) (hg : sEq ⟨n, c, lo, hi, ⟨#[b]⟩, h, 1⟩ ⟨0, 0, 0, 0, ⟨#[b]⟩, 0, 1⟩ = g) (w : World) : Calls Try.prog 50 #[(.agg #[.int .i64 n, .int .i64 c, .int .i64 lo, .int .i64 hi, .string ⟨#[b]⟩, .int .i64 h, .int .i64 1])] w fun e w' => e = .returned (.bool g) ∧ Below w.heap.size w w' := by
  go_enter Try.func50, Try.ntmps50
  go_wp2_with fail
  go_ret
  exact ⟨rfl, (by repeat (first | exact Below.refl _ _ | assumption | (refine Below.alloc ?_ (by first | (simp; done) | (simp; omega)) _) | (refine Below.setCell ?_ (by first | (simp; done) | (simp; omega)) _) | (refine Below.drew ?_)))⟩
set_option maxRecDepth 100000 in
set_option maxHeartbeats 400000 in
theorem goodHi_mid_no (n c lo hi h m : Int) (b : UInt8) (x : Bool) (hx : (h != 0) = x) (hm : (m == 1) = false) (H : Hid (∀ w1, Calls Try.prog 49 #[(.agg #[.int .i64 n, .int .i64 c, .int .i64 lo, .int .i64 hi, .string ⟨#[b]⟩, .int .i64 h, .int .i64 m])] w1 fun e w' => e = .returned (.bool false) ∧ Below w1.heap.size w1 w')) (w : World) : Calls Try.prog 50 #[(.agg #[.int .i64 n, .int .i64 c, .int .i64 lo, .int .i64 hi, .string ⟨#[b]⟩, .int .i64 h, .int .i64 m])] w fun e w' => e = .returned (.bool false) ∧ Below w.heap.size w w' := by
  go_enter Try.func50, Try.ntmps50
  go_wp2_with fail
  refine (H.out _).mono ?_
  rintro e w1 ⟨rfl, hb1⟩
  go_wp2_with fail
  go_ret
  exact ⟨rfl, one_box hb1⟩
set_option maxRecDepth 100000 in
set_option maxHeartbeats 400000 in
theorem goodHi_mid (n c lo hi h m : Int) (b : UInt8) (x t g : Bool) (hx : (h != 0) = x) (hm : (m == 1) = false) (ht : trB b = t) (hg : (x == t) = g) (H : Hid (∀ w1, Calls Try.prog 49 #[(.agg #[.int .i64 n, .int .i64 c, .int .i64 lo, .int .i64 hi, .string ⟨#[b]⟩, .int .i64 h, .int .i64 m])] w1 fun e w' => e = .returned (.bool true) ∧ Below w1.heap.size w1 w')) (w : World) : Calls Try.prog 50 #[(.agg #[.int .i64 n, .int .i64 c, .int .i64 lo, .int .i64 hi, .string ⟨#[b]⟩, .int .i64 h, .int .i64 m])] w fun e w' => e = .returned (.bool g) ∧ Below w.heap.size w w' := by
  have H2 := fun w1 => trailsByte_any b w1
  rw [ht] at H2
  clear ht
  unfold nb at H2
  replace H2 := hid H2
  go_enter Try.func50, Try.ntmps50
  go_wp2_with fail
  refine (H.out _).mono ?_
  rintro e w1 ⟨rfl, hb1⟩
  obtain ⟨hc, hf⟩ := bcell hb1
  go_wp2_with fail
  refine (H2.out _).mono ?_
  rintro e w2 ⟨rfl, rfl⟩
  go_wp2_with fail
  go_ret
  exact ⟨rfl, one_box hb1⟩
theorem goodHi_any (s : S) (w : World) : Calls Try.prog 50 #[(.agg #[.int .i64 s.need, .int .i64 s.code, .int .i64 s.lo, .int .i64 s.hi, .string s.kept, .int .i64 s.half, .int .i64 s.mode])] w (GoodIs w (∃ q : H, q.ok ∧ q.toS = s)) := by
  obtain ⟨n, c, lo, hi, k, h, m⟩ := s
  rcases kept_cases k with rfl | ⟨b, rfl⟩ | ⟨⟨h0, h0'⟩, h1, h2⟩
  · cases hs : sEq ⟨n, c, lo, hi, ⟨#[]⟩, h, m⟩ ⟨0, 0, 0, 0, ⟨#[]⟩, h, 0⟩ with
    | true =>
      refine (goodHi_unit ⟨n, c, lo, hi, ⟨#[]⟩, h, m⟩ _ (by rw [ByteArray.toList_eq]) (by rw [ByteArray.toList_eq]; rfl) hs rfl w).mono fun e w' ⟨he, hb⟩ => ⟨_, he, ⟨fun x => ⟨.unit h, (halfB_iff h).1 x, (sEq_eq hs).symm⟩, ?_⟩, hb⟩
      rintro ⟨q, hq, e⟩
      cases q with
      | unit h' =>
        have e' : h' = h := congrArg S.half e
        exact (halfB_iff h).2 (by rw [← e']; exact hq)
      | mid h' k => simp [H.toS] at e
      | told k => simp [H.toS] at e
    | false =>
      refine (goodHi_unit_off ⟨n, c, lo, hi, ⟨#[]⟩, h, m⟩ (by rw [ByteArray.toList_eq]) (by rw [ByteArray.toList_eq]; rfl) hs w).mono fun e w' ⟨he, hb⟩ => ⟨false, he, ⟨(fun x => by cases x), ?_⟩, hb⟩
      rintro ⟨q, hq, e⟩
      cases q with
      | unit h' =>
        simp [H.toS] at e
        obtain ⟨rfl, rfl, rfl, rfl, rfl, rfl⟩ := e
        rw [sEq_self] at hs; cases hs
      | mid h' k => simp [H.toS] at e
      | told k => simp [H.toS] at e
  · by_cases hm : m = 1
    · subst hm
      refine (goodHi_told n c lo hi h b _ rfl w).mono fun e w' ⟨he, hb⟩ => ⟨_, he, ⟨fun x => ⟨.told b, trivial, (sEq_eq x).symm⟩, ?_⟩, hb⟩
      rintro ⟨q, hq, e⟩
      cases q with
      | unit h' => simp [H.toS] at e
      | mid h' k => simp [H.toS] at e
      | told k =>
        simp [H.toS] at e
        obtain ⟨rfl, rfl, rfl, rfl, rfl, rfl⟩ := e
        exact sEq_self _
    · have hm' : (m == 1) = false := by simp [hm]
      have HL := fun w1 => goodLo_any ⟨n, c, lo, hi, ⟨#[b]⟩, h, m⟩ w1
      by_cases hq : ∃ q, loOk q ∧ loS q = ⟨n, c, lo, hi, ⟨#[b]⟩, h, m⟩
      · have hp := hq
        obtain ⟨⟨h', k'⟩, hq1, hq2⟩ := hq
        have a1 : h' = h := congrArg S.half hq2
        subst a1
        have a2 : m = 0 := (congrArg S.mode hq2).symm
        subst a2
        have a3 : S.mk n c lo hi ⟨#[b]⟩ h' 0 = ⟨0, 0, 0, 0, ⟨#[b]⟩, h', 0⟩ := by rw [← hq2]; have := congrArg S.kept hq2; simp only [loS] at this ⊢; rw [this]
        refine (goodHi_mid n c lo hi h' 0 b _ _ _ rfl hm' rfl rfl (hid fun w1 => (HL w1).mono fun _ _ x => x.yes hp) w).mono fun e w' ⟨he, hb⟩ => ⟨_, he, ⟨fun x => ⟨.mid h' b, ⟨hq1, ?_⟩, a3.symm⟩, ?_⟩, hb⟩
        · by_cases hz : h' = 0 <;> cases ht : trB b <;> simp_all
        · rintro ⟨q, hq, e⟩
          cases q with
          | unit h'' => simp [H.toS] at e
          | mid h'' k =>
            simp [H.toS] at e
            obtain ⟨_, _, _, _, rfl, rfl⟩ := e
            have := hq.2
            by_cases hz : h'' = 0 <;> cases ht : trB k <;> simp_all
          | told k => simp [H.toS] at e
      · refine (goodHi_mid_no n c lo hi h m b _ rfl hm' (hid fun w1 => (HL w1).mono fun _ _ x => x.no hq) w).mono fun e w' ⟨he, hb⟩ => ⟨false, he, ⟨(fun x => by cases x), ?_⟩, hb⟩
        rintro ⟨q, hok, e⟩
        cases q with
        | unit h'' => simp [H.toS] at e
        | mid h'' k => exact (hq ⟨(h'', some k), hok.1, e⟩).elim
        | told k => have : (1 : Int) = m := congrArg S.mode e; exact (hm this.symm).elim
  · refine (goodHi_long ⟨n, c, lo, hi, k, h, m⟩ h0 h0' h2 w).mono fun e w' ⟨he, hb⟩ => ⟨false, he, ⟨(fun x => by cases x), ?_⟩, hb⟩
    rintro ⟨q, hq, e⟩
    have ek := congrArg S.kept e
    cases q <;> (simp only [H.toS] at ek; subst ek; simp [ByteArray.size] at h2)
set_option maxRecDepth 100000 in
set_option maxHeartbeats 400000 in
theorem goodSh_off (s : S) (h : sEq s ⟨0, 0, 0, 0, s.kept, 0, s.mode⟩ = false) (w : World) : Calls Try.prog 47 #[(.agg #[.int .i64 s.need, .int .i64 s.code, .int .i64 s.lo, .int .i64 s.hi, .string s.kept, .int .i64 s.half, .int .i64 s.mode])] w fun e w' => e = .returned (.bool false) ∧ Below w.heap.size w w' := by
  go_enter Try.func47, Try.ntmps47
  go_wp2_with fail
  go_ret
  exact ⟨rfl, (by repeat (first | exact Below.refl _ _ | assumption | (refine Below.alloc ?_ (by first | (simp; done) | (simp; omega)) _) | (refine Below.setCell ?_ (by first | (simp; done) | (simp; omega)) _) | (refine Below.drew ?_)))⟩
set_option maxRecDepth 100000 in
set_option maxHeartbeats 400000 in
theorem goodSh_mode (k : ByteArray) (m : Int) (_h0 : (m == 0) = false) (_h1 : (m == 1) = false) (h0n : (m != 0) = true) (h1n : (m != 1) = true) (w : World) : Calls Try.prog 47 #[(.agg #[.int .i64 0, .int .i64 0, .int .i64 0, .int .i64 0, .string k, .int .i64 0, .int .i64 m])] w fun e w' => e = .returned (.bool false) ∧ Below w.heap.size w w' := by
  have h := sEq_self ⟨0, 0, 0, 0, k, 0, m⟩
  go_enter Try.func47, Try.ntmps47
  go_wp2_with fail
  go_ret
  exact ⟨rfl, (by repeat (first | exact Below.refl _ _ | assumption | (refine Below.alloc ?_ (by first | (simp; done) | (simp; omega)) _) | (refine Below.setCell ?_ (by first | (simp; done) | (simp; omega)) _) | (refine Below.drew ?_)))⟩
set_option maxRecDepth 100000 in
set_option maxHeartbeats 400000 in
theorem goodSh_none0 (w : World) : Calls Try.prog 47 #[(.agg #[.int .i64 0, .int .i64 0, .int .i64 0, .int .i64 0, .string ⟨#[]⟩, .int .i64 0, .int .i64 0])] w fun e w' => e = .returned (.bool true) ∧ Below w.heap.size w w' := by
  have h := sEq_self ⟨0, 0, 0, 0, ⟨#[]⟩, 0, 0⟩
  go_enter Try.func47, Try.ntmps47
  go_wp2_with fail
  go_ret
  exact ⟨rfl, (by repeat (first | exact Below.refl _ _ | assumption | (refine Below.alloc ?_ (by first | (simp; done) | (simp; omega)) _) | (refine Below.setCell ?_ (by first | (simp; done) | (simp; omega)) _) | (refine Below.drew ?_)))⟩
set_option maxRecDepth 100000 in
set_option maxHeartbeats 400000 in
theorem goodSh_esc0 (w : World) : Calls Try.prog 47 #[(.agg #[.int .i64 0, .int .i64 0, .int .i64 0, .int .i64 0, .string ⟨#[27]⟩, .int .i64 0, .int .i64 0])] w fun e w' => e = .returned (.bool true) ∧ Below w.heap.size w w' := by
  have h := sEq_self ⟨0, 0, 0, 0, ⟨#[27]⟩, 0, 0⟩
  go_enter Try.func47, Try.ntmps47
  go_wp2_with fail
  go_ret
  exact ⟨rfl, (by repeat (first | exact Below.refl _ _ | assumption | (refine Below.alloc ?_ (by first | (simp; done) | (simp; omega)) _) | (refine Below.setCell ?_ (by first | (simp; done) | (simp; omega)) _) | (refine Below.drew ?_)))⟩
set_option maxRecDepth 100000 in
set_option maxHeartbeats 400000 in
theorem goodSh_par0 (w : World) : Calls Try.prog 47 #[(.agg #[.int .i64 0, .int .i64 0, .int .i64 0, .int .i64 0, .string ⟨#[27, 40]⟩, .int .i64 0, .int .i64 0])] w fun e w' => e = .returned (.bool true) ∧ Below w.heap.size w w' := by
  have h := sEq_self ⟨0, 0, 0, 0, ⟨#[27, 40]⟩, 0, 0⟩
  go_enter Try.func47, Try.ntmps47
  go_wp2_with fail
  go_ret
  exact ⟨rfl, (by repeat (first | exact Below.refl _ _ | assumption | (refine Below.alloc ?_ (by first | (simp; done) | (simp; omega)) _) | (refine Below.setCell ?_ (by first | (simp; done) | (simp; omega)) _) | (refine Below.drew ?_)))⟩
set_option maxRecDepth 100000 in
set_option maxHeartbeats 400000 in
theorem goodSh_dol0 (w : World) : Calls Try.prog 47 #[(.agg #[.int .i64 0, .int .i64 0, .int .i64 0, .int .i64 0, .string ⟨#[27, 36]⟩, .int .i64 0, .int .i64 0])] w fun e w' => e = .returned (.bool true) ∧ Below w.heap.size w w' := by
  have h := sEq_self ⟨0, 0, 0, 0, ⟨#[27, 36]⟩, 0, 0⟩
  go_enter Try.func47, Try.ntmps47
  go_wp2_with fail
  go_ret
  exact ⟨rfl, (by repeat (first | exact Below.refl _ _ | assumption | (refine Below.alloc ?_ (by first | (simp; done) | (simp; omega)) _) | (refine Below.setCell ?_ (by first | (simp; done) | (simp; omega)) _) | (refine Below.drew ?_)))⟩
set_option maxRecDepth 100000 in
set_option maxHeartbeats 400000 in
theorem goodSh_none1 (w : World) : Calls Try.prog 47 #[(.agg #[.int .i64 0, .int .i64 0, .int .i64 0, .int .i64 0, .string ⟨#[]⟩, .int .i64 0, .int .i64 1])] w fun e w' => e = .returned (.bool true) ∧ Below w.heap.size w w' := by
  have h := sEq_self ⟨0, 0, 0, 0, ⟨#[]⟩, 0, 1⟩
  go_enter Try.func47, Try.ntmps47
  go_wp2_with fail
  go_ret
  exact ⟨rfl, (by repeat (first | exact Below.refl _ _ | assumption | (refine Below.alloc ?_ (by first | (simp; done) | (simp; omega)) _) | (refine Below.setCell ?_ (by first | (simp; done) | (simp; omega)) _) | (refine Below.drew ?_)))⟩
set_option maxRecDepth 100000 in
set_option maxHeartbeats 400000 in
theorem goodSh_esc1 (w : World) : Calls Try.prog 47 #[(.agg #[.int .i64 0, .int .i64 0, .int .i64 0, .int .i64 0, .string ⟨#[27]⟩, .int .i64 0, .int .i64 1])] w fun e w' => e = .returned (.bool true) ∧ Below w.heap.size w w' := by
  have h := sEq_self ⟨0, 0, 0, 0, ⟨#[27]⟩, 0, 1⟩
  go_enter Try.func47, Try.ntmps47
  go_wp2_with fail
  go_ret
  exact ⟨rfl, (by repeat (first | exact Below.refl _ _ | assumption | (refine Below.alloc ?_ (by first | (simp; done) | (simp; omega)) _) | (refine Below.setCell ?_ (by first | (simp; done) | (simp; omega)) _) | (refine Below.drew ?_)))⟩
set_option maxRecDepth 100000 in
set_option maxHeartbeats 400000 in
theorem goodSh_par1 (w : World) : Calls Try.prog 47 #[(.agg #[.int .i64 0, .int .i64 0, .int .i64 0, .int .i64 0, .string ⟨#[27, 40]⟩, .int .i64 0, .int .i64 1])] w fun e w' => e = .returned (.bool true) ∧ Below w.heap.size w w' := by
  have h := sEq_self ⟨0, 0, 0, 0, ⟨#[27, 40]⟩, 0, 1⟩
  go_enter Try.func47, Try.ntmps47
  go_wp2_with fail
  go_ret
  exact ⟨rfl, (by repeat (first | exact Below.refl _ _ | assumption | (refine Below.alloc ?_ (by first | (simp; done) | (simp; omega)) _) | (refine Below.setCell ?_ (by first | (simp; done) | (simp; omega)) _) | (refine Below.drew ?_)))⟩
set_option maxRecDepth 100000 in
set_option maxHeartbeats 400000 in
theorem goodSh_dol1 (w : World) : Calls Try.prog 47 #[(.agg #[.int .i64 0, .int .i64 0, .int .i64 0, .int .i64 0, .string ⟨#[27, 36]⟩, .int .i64 0, .int .i64 1])] w fun e w' => e = .returned (.bool true) ∧ Below w.heap.size w w' := by
  have h := sEq_self ⟨0, 0, 0, 0, ⟨#[27, 36]⟩, 0, 1⟩
  go_enter Try.func47, Try.ntmps47
  go_wp2_with fail
  go_ret
  exact ⟨rfl, (by repeat (first | exact Below.refl _ _ | assumption | (refine Below.alloc ?_ (by first | (simp; done) | (simp; omega)) _) | (refine Below.setCell ?_ (by first | (simp; done) | (simp; omega)) _) | (refine Below.drew ?_)))⟩
set_option maxRecDepth 100000 in
set_option maxHeartbeats 400000 in
theorem goodSh_else0 (k : ByteArray) (k0 : (k.toList == []) = false) (k1 : (k.toList == [27]) = false) (k2 : (k.toList == [27, 40]) = false) (k3 : (k.toList == [27, 36]) = false) (w : World) : Calls Try.prog 47 #[(.agg #[.int .i64 0, .int .i64 0, .int .i64 0, .int .i64 0, .string k, .int .i64 0, .int .i64 0])] w fun e w' => e = .returned (.bool false) ∧ Below w.heap.size w w' := by
  have h := sEq_self ⟨0, 0, 0, 0, k, 0, 0⟩
  have k00 : k.toList.isEmpty = false := by cases hk : k.toList <;> simp_all
  have k01 : ¬ k.toList = [] := by intro e; rw [e] at k0; cases k0
  go_enter Try.func47, Try.ntmps47
  go_wp2_with fail
  go_ret
  exact ⟨rfl, (by repeat (first | exact Below.refl _ _ | assumption | (refine Below.alloc ?_ (by first | (simp; done) | (simp; omega)) _) | (refine Below.setCell ?_ (by first | (simp; done) | (simp; omega)) _) | (refine Below.drew ?_)))⟩
set_option maxRecDepth 100000 in
set_option maxHeartbeats 400000 in
theorem goodSh_long (k : ByteArray) (k0 : (k.toList == []) = false) (k1 : (k.toList == [27]) = false) (k2 : (k.toList == [27, 40]) = false) (k3 : (k.toList == [27, 36]) = false) (hk : ((k.size : Int) == 1) = false) (w : World) : Calls Try.prog 47 #[(.agg #[.int .i64 0, .int .i64 0, .int .i64 0, .int .i64 0, .string k, .int .i64 0, .int .i64 1])] w fun e w' => e = .returned (.bool false) ∧ Below w.heap.size w w' := by
  have h := sEq_self ⟨0, 0, 0, 0, k, 0, 1⟩
  have k00 : k.toList.isEmpty = false := by cases hk : k.toList <;> simp_all
  have k01 : ¬ k.toList = [] := by intro e; rw [e] at k0; cases k0
  go_enter Try.func47, Try.ntmps47
  go_wp2_with fail
  go_ret
  exact ⟨rfl, (by repeat (first | exact Below.refl _ _ | assumption | (refine Below.alloc ?_ (by first | (simp; done) | (simp; omega)) _) | (refine Below.setCell ?_ (by first | (simp; done) | (simp; omega)) _) | (refine Below.drew ?_)))⟩
set_option maxRecDepth 100000 in
set_option maxHeartbeats 400000 in
theorem goodSh_one (b : UInt8) (g : Bool) (hb : (b == 27) = false) (H : Hid (∀ w1, Calls Try.prog 77 #[.int .i64 (b.toNat : Int)] w1 fun e w' => e = .returned (.bool g) ∧ w1 = w')) (w : World) : Calls Try.prog 47 #[(.agg #[.int .i64 0, .int .i64 0, .int .i64 0, .int .i64 0, .string ⟨#[b]⟩, .int .i64 0, .int .i64 1])] w fun e w' => e = .returned (.bool g) ∧ Below w.heap.size w w' := by
  have h := sEq_self ⟨0, 0, 0, 0, ⟨#[b]⟩, 0, 1⟩
  go_enter Try.func47, Try.ntmps47
  go_wp2_with fail
  refine (H.out _).mono ?_
  rintro e w1 ⟨rfl, rfl⟩
  go_wp2_with fail
  go_ret
  exact ⟨rfl, (by repeat (first | exact Below.refl _ _ | assumption | (refine Below.alloc ?_ (by first | (simp; done) | (simp; omega)) _) | (refine Below.setCell ?_ (by first | (simp; done) | (simp; omega)) _) | (refine Below.drew ?_)))⟩
theorem goodSh_any (s : S) (w : World) : Calls Try.prog 47 #[(.agg #[.int .i64 s.need, .int .i64 s.code, .int .i64 s.lo, .int .i64 s.hi, .string s.kept, .int .i64 s.half, .int .i64 s.mode])] w (GoodIs w (∃ q, shOk q ∧ shS q = s)) := by
  cases h : sEq s ⟨0, 0, 0, 0, s.kept, 0, s.mode⟩ with
  | false =>
    refine (goodSh_off s h w).mono fun e w' ⟨he, hb⟩ => ⟨false, he, ⟨(fun x => by cases x), ?_⟩, hb⟩
    rintro ⟨q, _, rfl⟩
    exact absurd (sEq_self (shS q)) (by rw [show sEq (shS q) (shS q) = false from h]; decide)
  | true =>
    obtain ⟨a, b, c, d, k, f, m⟩ := s
    have e := sEq_eq h
    simp only [S.mk.injEq] at e
    obtain ⟨rfl, rfl, rfl, rfl, _, rfl, _⟩ := e
    have yes : ∀ q : Bool × K, shOk q → shS q = ⟨0, 0, 0, 0, k, 0, m⟩ → Calls Try.prog 47 #[(.agg #[.int .i64 0, .int .i64 0, .int .i64 0, .int .i64 0, .string k, .int .i64 0, .int .i64 m])] w (fun e w' => e = .returned (.bool true) ∧ Below w.heap.size w w') → Calls Try.prog 47 #[(.agg #[.int .i64 0, .int .i64 0, .int .i64 0, .int .i64 0, .string k, .int .i64 0, .int .i64 m])] w (GoodIs w (∃ q, shOk q ∧ shS q = ⟨0, 0, 0, 0, k, 0, m⟩)) :=
      fun q hq e H => H.mono fun _ w' ⟨he, hb⟩ => ⟨true, he, ⟨fun _ => ⟨q, hq, e⟩, fun _ => rfl⟩, hb⟩
    have no : (¬ ∃ q, shOk q ∧ shS q = ⟨0, 0, 0, 0, k, 0, m⟩) → Calls Try.prog 47 #[(.agg #[.int .i64 0, .int .i64 0, .int .i64 0, .int .i64 0, .string k, .int .i64 0, .int .i64 m])] w (fun e w' => e = .returned (.bool false) ∧ Below w.heap.size w w') → Calls Try.prog 47 #[(.agg #[.int .i64 0, .int .i64 0, .int .i64 0, .int .i64 0, .string k, .int .i64 0, .int .i64 m])] w (GoodIs w (∃ q, shOk q ∧ shS q = ⟨0, 0, 0, 0, k, 0, m⟩)) :=
      fun hq H => H.mono fun _ w' ⟨he, hb⟩ => ⟨false, he, ⟨(fun x => by cases x), fun x => (hq x).elim⟩, hb⟩
    by_cases hm : m = 0 ∨ m = 1
    · obtain ⟨dd, rfl⟩ : ∃ dd, m = modeI dd := by
        rcases hm with rfl | rfl
        · exact ⟨false, rfl⟩
        · exact ⟨true, rfl⟩
      have lst : ∀ l : List UInt8, (k.toList == l) = true → k = ⟨l.toArray⟩ := fun l hl => bytes_eq (by rw [eq_of_beq hl, ByteArray.toList_eq])
      cases k0 : k.toList == [] with
      | true => obtain rfl := lst _ k0; exact yes (dd, .none) trivial rfl (by cases dd; exact goodSh_none0 w; exact goodSh_none1 w)
      | false =>
      cases k1 : k.toList == [27] with
      | true => obtain rfl := lst _ k1; exact yes (dd, .esc) trivial rfl (by cases dd; exact goodSh_esc0 w; exact goodSh_esc1 w)
      | false =>
      cases k2 : k.toList == [27, 40] with
      | true => obtain rfl := lst _ k2; exact yes (dd, .par) trivial rfl (by cases dd; exact goodSh_par0 w; exact goodSh_par1 w)
      | false =>
      cases k3 : k.toList == [27, 36] with
      | true => obtain rfl := lst _ k3; exact yes (dd, .dol) trivial rfl (by cases dd; exact goodSh_dol0 w; exact goodSh_dol1 w)
      | false =>
      have only : ∀ q : Bool × K, shOk q → shS q = ⟨0, 0, 0, 0, k, 0, modeI dd⟩ → ∃ c, q = (true, .half c) ∧ k = ⟨#[c]⟩ ∧ dd = true ∧ 33 ≤ nb c ∧ nb c ≤ 126 := by
        rintro ⟨d', k'⟩ hq e
        have ek : k'.kept = k := congrArg S.kept e
        have em : modeI d' = modeI dd := congrArg S.mode e
        cases k' with
        | none => rw [← ek] at k0; simp [K.kept, ByteArray.toList_eq] at k0
        | esc => rw [← ek] at k1; simp [K.kept, ByteArray.toList_eq] at k1
        | par => rw [← ek] at k2; simp [K.kept, ByteArray.toList_eq] at k2
        | dol => rw [← ek] at k3; simp [K.kept, ByteArray.toList_eq] at k3
        | half c =>
          obtain ⟨rfl, h1, h2⟩ := hq
          refine ⟨c, rfl, ek.symm, ?_, h1, h2⟩
          cases dd with
          | true => rfl
          | false => simp [modeI] at em
      cases dd with
      | false => exact no (fun ⟨q, hq, e⟩ => by obtain ⟨_, _, _, h, _⟩ := only q hq e; cases h) (goodSh_else0 k k0 k1 k2 k3 w)
      | true =>
        rcases kept_cases k with rfl | ⟨b, rfl⟩ | ⟨_, h1, h2⟩
        · simp [ByteArray.toList_eq] at k0
        · have hb : (b == 27) = false := by
            cases hb : b == 27 with
            | false => rfl
            | true => rw [eq_of_beq hb] at k1; simp [ByteArray.toList_eq] at k1
          by_cases hh : 33 ≤ nb b ∧ nb b ≤ 126
          · exact yes (true, .half b) ⟨rfl, hh.1, hh.2⟩ rfl (goodSh_one b true hb (hid fun w1 => isHalf_yes _ w1 hh.1 hh.2) w)
          · exact no (fun ⟨q, hq, e⟩ => by
              obtain ⟨c, _, e2, _, h3, h4⟩ := only q hq e
              simp at e2
              subst e2
              exact hh ⟨h3, h4⟩) (goodSh_one b false hb (hid fun w1 => isHalf_no _ w1 hh) w)
        · exact no (fun ⟨q, hq, e⟩ => by
            obtain ⟨c, _, e2, _⟩ := only q hq e
            subst e2
            simp [ByteArray.size] at h2) (goodSh_long k k0 k1 k2 k3 h1 w)
    · refine no ?_ (goodSh_mode k m (by simp; omega) (by simp; omega) (by simp; omega) (by simp; omega) w)
      rintro ⟨⟨d', k'⟩, hq, e⟩
      have em : modeI d' = m := congrArg S.mode e
      cases d' with
      | false => exact hm (.inl em.symm)
      | true => exact hm (.inr em.symm)

set_option maxRecDepth 100000 in
set_option maxHeartbeats 400000 in
theorem good_1 (s : S) (p : Prop) (w : World) (H : Hid (∀ w1, Calls Try.prog 46 #[(.agg #[.int .i64 s.need, .int .i64 s.code, .int .i64 s.lo, .int .i64 s.hi, .string s.kept, .int .i64 s.half, .int .i64 s.mode])] w1 (GoodIs w1 p))) : Calls Try.prog 21 #[.int .i64 1, (.agg #[.int .i64 s.need, .int .i64 s.code, .int .i64 s.lo, .int .i64 s.hi, .string s.kept, .int .i64 s.half, .int .i64 s.mode])] w (GoodIs w p) := by
  go_enter Try.func21, Try.ntmps21
  go_wp2_with fail
  refine (H.out _).mono ?_
  rintro e w1 ⟨g, rfl, hg, hb1⟩
  replace hg := hid hg
  go_wp2_with fail
  go_ret
  exact ⟨g, rfl, hg.out, one_box hb1⟩
set_option maxRecDepth 100000 in
set_option maxHeartbeats 400000 in
theorem good_2 (s : S) (p : Prop) (w : World) (H : Hid (∀ w1, Calls Try.prog 47 #[(.agg #[.int .i64 s.need, .int .i64 s.code, .int .i64 s.lo, .int .i64 s.hi, .string s.kept, .int .i64 s.half, .int .i64 s.mode])] w1 (GoodIs w1 p))) : Calls Try.prog 21 #[.int .i64 2, (.agg #[.int .i64 s.need, .int .i64 s.code, .int .i64 s.lo, .int .i64 s.hi, .string s.kept, .int .i64 s.half, .int .i64 s.mode])] w (GoodIs w p) := by
  go_enter Try.func21, Try.ntmps21
  go_wp2_with fail
  refine (H.out _).mono ?_
  rintro e w1 ⟨g, rfl, hg, hb1⟩
  replace hg := hid hg
  go_wp2_with fail
  go_ret
  exact ⟨g, rfl, hg.out, one_box hb1⟩
set_option maxRecDepth 100000 in
set_option maxHeartbeats 400000 in
theorem good_3 (s : S) (p : Prop) (w : World) (H : Hid (∀ w1, Calls Try.prog 48 #[(.agg #[.int .i64 s.need, .int .i64 s.code, .int .i64 s.lo, .int .i64 s.hi, .string s.kept, .int .i64 s.half, .int .i64 s.mode])] w1 (GoodIs w1 p))) : Calls Try.prog 21 #[.int .i64 3, (.agg #[.int .i64 s.need, .int .i64 s.code, .int .i64 s.lo, .int .i64 s.hi, .string s.kept, .int .i64 s.half, .int .i64 s.mode])] w (GoodIs w p) := by
  go_enter Try.func21, Try.ntmps21
  go_wp2_with fail
  refine (H.out _).mono ?_
  rintro e w1 ⟨g, rfl, hg, hb1⟩
  replace hg := hid hg
  go_wp2_with fail
  go_ret
  exact ⟨g, rfl, hg.out, one_box hb1⟩
set_option maxRecDepth 100000 in
set_option maxHeartbeats 400000 in
theorem good_5 (s : S) (p : Prop) (w : World) (H : Hid (∀ w1, Calls Try.prog 49 #[(.agg #[.int .i64 s.need, .int .i64 s.code, .int .i64 s.lo, .int .i64 s.hi, .string s.kept, .int .i64 s.half, .int .i64 s.mode])] w1 (GoodIs w1 p))) : Calls Try.prog 21 #[.int .i64 5, (.agg #[.int .i64 s.need, .int .i64 s.code, .int .i64 s.lo, .int .i64 s.hi, .string s.kept, .int .i64 s.half, .int .i64 s.mode])] w (GoodIs w p) := by
  go_enter Try.func21, Try.ntmps21
  go_wp2_with fail
  refine (H.out _).mono ?_
  rintro e w1 ⟨g, rfl, hg, hb1⟩
  replace hg := hid hg
  go_wp2_with fail
  go_ret
  exact ⟨g, rfl, hg.out, one_box hb1⟩
set_option maxRecDepth 100000 in
set_option maxHeartbeats 400000 in
theorem good_6 (s : S) (p : Prop) (w : World) (H : Hid (∀ w1, Calls Try.prog 50 #[(.agg #[.int .i64 s.need, .int .i64 s.code, .int .i64 s.lo, .int .i64 s.hi, .string s.kept, .int .i64 s.half, .int .i64 s.mode])] w1 (GoodIs w1 p))) : Calls Try.prog 21 #[.int .i64 6, (.agg #[.int .i64 s.need, .int .i64 s.code, .int .i64 s.lo, .int .i64 s.hi, .string s.kept, .int .i64 s.half, .int .i64 s.mode])] w (GoodIs w p) := by
  go_enter Try.func21, Try.ntmps21
  go_wp2_with fail
  refine (H.out _).mono ?_
  rintro e w1 ⟨g, rfl, hg, hb1⟩
  replace hg := hid hg
  go_wp2_with fail
  go_ret
  exact ⟨g, rfl, hg.out, one_box hb1⟩
set_option maxRecDepth 100000 in
set_option maxHeartbeats 400000 in
theorem good_4 (s : S) (g : Bool) (w : World) (h : sEq s ⟨0, 0, 0, 0, ⟨#[]⟩, 0, 0⟩ = g) : Calls Try.prog 21 #[.int .i64 4, (.agg #[.int .i64 s.need, .int .i64 s.code, .int .i64 s.lo, .int .i64 s.hi, .string s.kept, .int .i64 s.half, .int .i64 s.mode])] w fun e w' => e = .returned (.bool g) ∧ Below w.heap.size w w' := by
  go_enter Try.func21, Try.ntmps21
  go_wp2_with fail
  go_ret
  exact ⟨rfl, (by repeat (first | exact Below.refl _ _ | assumption | (refine Below.alloc ?_ (by first | (simp; done) | (simp; omega)) _) | (refine Below.setCell ?_ (by first | (simp; done) | (simp; omega)) _) | (refine Below.drew ?_)))⟩
/-- All that is known of an encoding. -/
structure Full (e : Int) (M : Mach) : Prop where
  con : Con e M
  good : ∀ s w, Calls Try.prog 21 #[.int .i64 e, (.agg #[.int .i64 s.need, .int .i64 s.code, .int .i64 s.lo, .int .i64 s.hi, .string s.kept, .int .i64 s.half, .int .i64 s.mode])] w (GoodIs w (∃ q, M.ok q ∧ M.toS q = s))
theorem Full.goods {e : Int} {M : Mach} (F : Full e M) : Goods e M := fun q w hq => (F.good (M.toS q) w).mono fun _ _ h => h.yes ⟨q, hq, rfl⟩
theorem fullU : Full 1 mU := ⟨conU, fun s w => good_1 s _ w (hid fun w1 => goodU_any s w1)⟩
theorem fullSh : Full 2 mSh := ⟨conSh, fun s w => good_2 s _ w (hid fun w1 => goodSh_any s w1)⟩
theorem fullT : Full 3 mT := ⟨conT, fun s w => good_3 s _ w (hid fun w1 => goodT_any s w1)⟩
theorem fullLat : Full 4 mLat := ⟨conLat, fun s w => (good_4 s _ w rfl).mono fun e w' ⟨he, hb⟩ => ⟨_, he, ⟨fun x => ⟨(), trivial, (sEq_eq x).symm⟩, fun ⟨_, _, x⟩ => by subst x; exact sEq_self _⟩, hb⟩⟩
theorem fullLo : Full 5 mLo := ⟨conLo, fun s w => good_5 s _ w (hid fun w1 => goodLo_any s w1)⟩
theorem fullHi : Full 6 mHi := ⟨conHi, fun s w => good_6 s _ w (hid fun w1 => goodHi_any s w1)⟩
/-- Every encoding has its machine. -/
theorem full_of (e : Int) (h1 : 1 ≤ e) (h2 : e ≤ 6) : ∃ M, Full e M := by
  obtain h | h | h | h | h | h : e = 1 ∨ e = 2 ∨ e = 3 ∨ e = 4 ∨ e = 5 ∨ e = 6 := by omega
  all_goals subst h
  · exact ⟨_, fullU⟩
  · exact ⟨_, fullSh⟩
  · exact ⟨_, fullT⟩
  · exact ⟨_, fullLat⟩
  · exact ⟨_, fullLo⟩
  · exact ⟨_, fullHi⟩
end Go.Proofs.Ytloaemijhggheaa
