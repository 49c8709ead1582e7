/- The walks over Low and High. -/
import Derived.Test.YtloaemijhggheaaBase
import Derived.Deep.RegionHeld3
import Derived.StillTailTactics
namespace Go.Proofs.Ytloaemijhggheaa
open Go.RowKit
attribute [local go_sem ↓] run_eqS run_neS
attribute [local go_sem] byte_at0 byte_at20 byte_at21 w64 S.v and63 and31 and15 and7 kw kw256

set_option maxHeartbeats 400000 in
theorem leads_any (u : Int) (w : World) : Calls Try.prog 98 #[.int .i64 u] w fun e w' => e = .returned (.bool (leadsB u)) ∧ w = w' := by
  unfold leadsB
  go_enter Try.func98, Try.ntmps98
  go_wp2_with fail
  go_ret
  exact ⟨rfl, rfl⟩
set_option maxHeartbeats 400000 in
theorem trails_any (u : Int) (w : World) : Calls Try.prog 110 #[.int .i64 u] w fun e w' => e = .returned (.bool (trailsB u)) ∧ w = w' := by
  unfold trailsB
  go_enter Try.func110, Try.ntmps110
  go_wp2_with fail
  go_ret
  exact ⟨rfl, rfl⟩
set_option maxHeartbeats 400000 in
theorem trailsByte_any (b : UInt8) (w : World) : Calls Try.prog 80 #[.int .i64 (nb b)] w fun e w' => e = .returned (.bool (trB b)) ∧ w = w' := by
  unfold trB nb
  go_enter Try.func80, Try.ntmps80
  go_wp2_with fail
  go_ret
  exact ⟨rfl, rfl⟩
set_option maxRecDepth 100000 in
set_option maxHeartbeats 400000 in
theorem offerLo_none (h : Int) (b : UInt8) (w : World) : Calls Try.prog 95 #[(.agg #[.int .i64 0, .int .i64 0, .int .i64 0, .int .i64 0, .string ⟨#[]⟩, .int .i64 h, .int .i64 0]), .int .i64 (nb b)] w (PSOB w (loS (h, some b)) [] false) := by
  have H := keep_any b
  unfold nb at *
  replace H := hid H
  go_enter Try.func95, Try.ntmps95
  go_wp2_with fail
  go_region_held3 (fun w' => w'.cell? ⟨w.heap.size, 5, none⟩ = some (.int .i64 h)) (first | go_keep | (rw [hc _ _ (by simp; omega)]; simp [go_sem]))
    (first | (go_at_call 106; refine (H.out _).mono ?_; rintro e w1 ⟨rfl, hb1⟩; obtain ⟨hc, hf⟩ := bcell hb1))
  go_wp2_with fail
  refine bodyPost_ret (ret_SOB rfl rfl ((HasS.box2 (undrew hb1)).put7 (loS (h, some b)))) rfl ⟨_, rfl, Out.nil _ _, ?_⟩
  exact put7 (two_boxes (undrew hb1)) (by omega) _ _ _ _ _ _ _

/-- What a unit does. -/
def unitP (h : Int) (k : ByteArray) (u : Int) : S × List Int × Bool :=
  if h ≠ 0 ∧ trailsB u = false then (⟨0, 0, 0, 0, k, 0, 0⟩, [-1], true) else (⟨0, 0, 0, 0, ⟨#[]⟩, (unitO h u).1, 0⟩, (unitO h u).2, false)
set_option maxRecDepth 100000 in
set_option maxHeartbeats 400000 in
theorem unit_pair (h m u : Int) (k : ByteArray) (w : World) (h1 : 55296 ≤ h) (h2 : h ≤ 56319) (u1 : 56320 ≤ u) (u2 : u ≤ 57343) : Calls Try.prog 107 #[(.agg #[.int .i64 0, .int .i64 0, .int .i64 0, .int .i64 0, .string k, .int .i64 h, .int .i64 m]), .int .i64 u] w (PSOB w .zero [65536 + (h % 1024) * 1024 + u % 1024] false) := by
  have H := fun w1 => trails_any u w1
  rw [show trailsB u = true from by unfold trailsB; simp; omega] at H
  replace H := hid H
  have m1 : bits .and .i64 h 1023 = h % 1024 := and_mask 10 (by omega) h (by omega) (by omega)
  have m2 : bits .and .i64 u 1023 = u % 1024 := and_mask 10 (by omega) u (by omega) (by omega)
  have a0 : (h == 0) = false := by simp; omega
  have a1 : (h != 0) = true := by simp; omega
  go_enter Try.func107, Try.ntmps107
  go_wp2_with fail
  refine (H.out _).mono ?_
  rintro e w1 ⟨rfl, rfl⟩
  go_wp2_with fail
  refine bodyPost_ret ?_ rfl ⟨_, rfl, Out.one _ _ _ ?_, ?_⟩
  · simp [results, Try.results107, go_sem, S.v, S.zero]
  · simp; omega
  · exact (by repeat (first | exact Below.refl _ _ | assumption | (refine Below.alloc ?_ (by first | (simp; done) | (simp; omega)) _) | (refine Below.setCell ?_ (by first | (simp; done) | (simp; omega)) _) | (refine Below.drew ?_)))
set_option maxRecDepth 100000 in
set_option maxHeartbeats 400000 in
theorem unit_refuse (h m u : Int) (k : ByteArray) (w : World) (_h1 : (h == 0) = false) (h2 : (h != 0) = true) (hu : trailsB u = false) : Calls Try.prog 107 #[(.agg #[.int .i64 0, .int .i64 0, .int .i64 0, .int .i64 0, .string k, .int .i64 h, .int .i64 m]), .int .i64 u] w (PSOB w ⟨0, 0, 0, 0, k, 0, 0⟩ [-1] true) := by
  have H := fun w1 => trails_any u w1
  rw [hu] at H
  replace H := hid H
  go_enter Try.func107, Try.ntmps107
  go_wp2_with fail
  refine (H.out _).mono ?_
  rintro e w1 ⟨rfl, rfl⟩
  go_wp2_with fail
  go_region_held3 (fun w' => w'.cell? ⟨w.heap.size, 4, none⟩ = some (.string k)) (first | go_keep)
    (first | (go_at_call 68; refine (bad_any _).mono ?_; rintro e w1 ⟨rfl, rfl⟩))
  go_wp2_with fail
  refine bodyPost_ret ?_ rfl ⟨_, rfl, Out.drew (Out.one _ _ _ ?_), ?_⟩
  · simp [results, Try.results107, go_sem, S.v]
  · simp; omega
  · exact (by repeat (first | exact Below.refl _ _ | assumption | (refine Below.alloc ?_ (by first | (simp; done) | (simp; omega)) _) | (refine Below.setCell ?_ (by first | (simp; done) | (simp; omega)) _) | (refine Below.drew ?_)))
set_option maxRecDepth 100000 in
set_option maxHeartbeats 400000 in
theorem unit_lead (m u : Int) (k : ByteArray) (w : World) (hu : leadsB u = true) : Calls Try.prog 107 #[(.agg #[.int .i64 0, .int .i64 0, .int .i64 0, .int .i64 0, .string k, .int .i64 0, .int .i64 m]), .int .i64 u] w (PSOB w ⟨0, 0, 0, 0, ⟨#[]⟩, u, 0⟩ [] false) := by
  have H := fun w1 => leads_any u w1
  rw [hu] at H
  replace H := hid H
  go_enter Try.func107, Try.ntmps107
  go_wp2_with fail
  refine (H.out _).mono ?_
  rintro e w1 ⟨rfl, rfl⟩
  go_wp2_with fail
  refine bodyPost_ret ?_ rfl ⟨_, rfl, Out.nil _ _, ?_⟩
  · simp [results, Try.results107, go_sem, S.v]
  · exact (by repeat (first | exact Below.refl _ _ | assumption | (refine Below.alloc ?_ (by first | (simp; done) | (simp; omega)) _) | (refine Below.setCell ?_ (by first | (simp; done) | (simp; omega)) _) | (refine Below.drew ?_)))
set_option maxRecDepth 100000 in
set_option maxHeartbeats 400000 in
theorem unit_trail (m u : Int) (k : ByteArray) (w : World) (hu : leadsB u = false) (ht : trailsB u = true) : Calls Try.prog 107 #[(.agg #[.int .i64 0, .int .i64 0, .int .i64 0, .int .i64 0, .string k, .int .i64 0, .int .i64 m]), .int .i64 u] w (PSOB w .zero [-1] false) := by
  have H := fun w1 => leads_any u w1
  rw [hu] at H
  replace H := hid H
  have H2 := fun w1 => trails_any u w1
  rw [ht] at H2
  replace H2 := hid H2
  go_enter Try.func107, Try.ntmps107
  go_wp2_with fail
  refine (H.out _).mono ?_
  rintro e w1 ⟨rfl, rfl⟩
  go_wp2_with fail
  refine (H2.out _).mono ?_
  rintro e w1 ⟨rfl, rfl⟩
  go_wp2_with fail
  refine (bad_any _).mono ?_
  rintro e w1 ⟨rfl, rfl⟩
  go_wp2_with fail
  refine bodyPost_ret ?_ rfl ⟨_, rfl, Out.one _ _ _ ?_, ?_⟩
  · simp [results, Try.results107, go_sem, S.v, S.zero]
  · simp; omega
  · exact (by repeat (first | exact Below.refl _ _ | assumption | (refine Below.alloc ?_ (by first | (simp; done) | (simp; omega)) _) | (refine Below.setCell ?_ (by first | (simp; done) | (simp; omega)) _) | (refine Below.drew ?_)))
set_option maxRecDepth 100000 in
set_option maxHeartbeats 400000 in
theorem unit_self (m u : Int) (k : ByteArray) (w : World) (hu : leadsB u = false) (ht : trailsB u = false) : Calls Try.prog 107 #[(.agg #[.int .i64 0, .int .i64 0, .int .i64 0, .int .i64 0, .string k, .int .i64 0, .int .i64 m]), .int .i64 u] w (PSOB w .zero [u] false) := by
  have H := fun w1 => leads_any u w1
  rw [hu] at H
  replace H := hid H
  have H2 := fun w1 => trails_any u w1
  rw [ht] at H2
  replace H2 := hid H2
  go_enter Try.func107, Try.ntmps107
  go_wp2_with fail
  refine (H.out _).mono ?_
  rintro e w1 ⟨rfl, rfl⟩
  go_wp2_with fail
  refine (H2.out _).mono ?_
  rintro e w1 ⟨rfl, rfl⟩
  go_wp2_with fail
  refine bodyPost_ret ?_ rfl ⟨_, rfl, Out.one _ _ _ ?_, ?_⟩
  · simp [results, Try.results107, go_sem, S.v, S.zero]
  · simp; omega
  · exact (by repeat (first | exact Below.refl _ _ | assumption | (refine Below.alloc ?_ (by first | (simp; done) | (simp; omega)) _) | (refine Below.setCell ?_ (by first | (simp; done) | (simp; omega)) _) | (refine Below.drew ?_)))
theorem unit_any (h m u : Int) (k : ByteArray) (w : World) (hh : halfOk h) : Calls Try.prog 107 #[(.agg #[.int .i64 0, .int .i64 0, .int .i64 0, .int .i64 0, .string k, .int .i64 h, .int .i64 m]), .int .i64 u] w (PSOB w (unitP h k u).1 (unitP h k u).2.1 (unitP h k u).2.2) := by
  unfold unitP
  by_cases h0 : h = 0
  · subst h0
    rw [if_neg (by simp)]
    unfold unitO
    rw [if_neg (by simp)]
    cases hl : leadsB u with
    | true => simpa using unit_lead m u k w hl
    | false =>
      cases ht : trailsB u with
      | true => simpa [S.zero] using unit_trail m u k w hl ht
      | false => simpa [S.zero] using unit_self m u k w hl ht
  · have hh : leadsB h = true := by
      rcases hh with hh | hh
      · exact (h0 hh).elim
      · exact hh
    cases ht : trailsB u with
    | false =>
      rw [if_pos ⟨h0, rfl⟩]
      exact unit_refuse h m u k w (by simp [h0]) (by simp [h0]) ht
    | true =>
      rw [if_neg (by simp)]
      unfold unitO
      rw [if_pos h0]
      unfold leadsB at hh
      unfold trailsB at ht
      simp at hh ht
      have := unit_pair h m u k w (by omega) (by omega) (by omega) (by omega)
      simpa only [S.zero] using this

set_option maxRecDepth 100000 in
set_option maxHeartbeats 400000 in
theorem offerLo_some (h : Int) (k b : UInt8) (w : World) (hh : halfOk h) : Calls Try.prog 95 #[(.agg #[.int .i64 0, .int .i64 0, .int .i64 0, .int .i64 0, .string ⟨#[k]⟩, .int .i64 h, .int .i64 0]), .int .i64 (nb b)] w (PSOB w (unitP h ⟨#[k]⟩ (nb b * 256 + nb k)).1 (unitP h ⟨#[k]⟩ (nb b * 256 + nb k)).2.1 (unitP h ⟨#[k]⟩ (nb b * 256 + nb k)).2.2) := by
  have H := fun w1 => unit_any h 0 (nb b * 256 + nb k) ⟨#[k]⟩ w1 hh
  clear hh
  have hj : bits .or .i64 (nb b * 256) (nb k) = nb b * 256 + nb k := by
    have := nb_lt b; have := nb_lt k; have := nb_nonneg b; have := nb_nonneg k
    exact or_join 8 _ _ (by omega) (by simp) (by omega) (by omega) (by omega) (by omega)
  generalize (unitP h ⟨#[k]⟩ (nb b * 256 + nb k)).2.2 = a at H ⊢
  generalize (unitP h ⟨#[k]⟩ (nb b * 256 + nb k)).2.1 = l at H ⊢
  generalize (unitP h ⟨#[k]⟩ (nb b * 256 + nb k)).1 = s at H ⊢
  have hb1 := nb_lt b
  unfold nb at *
  replace H := hid H
  go_enter Try.func95, Try.ntmps95
  go_wp2_with fail
  go_region_held3 (fun w' => w'.cell? ⟨w.heap.size, 0, none⟩ = some (.int .i64 0) ∧ w'.cell? ⟨w.heap.size, 1, none⟩ = some (.int .i64 0) ∧ w'.cell? ⟨w.heap.size, 2, none⟩ = some (.int .i64 0) ∧ w'.cell? ⟨w.heap.size, 3, none⟩ = some (.int .i64 0) ∧ w'.cell? ⟨w.heap.size, 4, none⟩ = some (.string ⟨#[k]⟩) ∧ w'.cell? ⟨w.heap.size, 5, none⟩ = some (.int .i64 h) ∧ w'.cell? ⟨w.heap.size, 6, none⟩ = some (.int .i64 0))
    (first | go_keep | (refine ⟨?_, ?_, ?_, ?_, ?_, ?_, ?_⟩ <;> (rw [hc _ _ (by simp; omega)]; simp [go_sem])))
    (first | (go_at_call 107; (try simp only [kw, kw256, hj]); refine (H.out _).mono ?_; rintro e w1 ⟨v, rfl, ho, hb1⟩; obtain ⟨hc, hf⟩ := bcell hb1; replace ho := hid ho))
  go_wp2_with fail
  refine bodyPost_ret (ret_SOB rfl rfl ((HasS.box2 (undrew hb1)).put7 s)) rfl ⟨v, rfl, ?_, ?_⟩
  · exact ((unOut ho.out).put7 (by simp) _ _ _ _ _ _ _).base (by simp; omega)
  · exact put7 (two_boxes (undrew hb1)) (by omega) _ _ _ _ _ _ _
theorem offerLo_any (q : Int × Option UInt8) (b : UInt8) (w : World) (hq : loOk q) : Calls Try.prog 95 #[(.agg #[.int .i64 ((loS q).need), .int .i64 ((loS q).code), .int .i64 ((loS q).lo), .int .i64 ((loS q).hi), .string ((loS q).kept), .int .i64 ((loS q).half), .int .i64 ((loS q).mode)]), .int .i64 (nb b)] w (PSOB w (loS (loOffer q b).1) (loOffer q b).2.1 (loOffer q b).2.2) := by
  obtain ⟨h, k⟩ := q
  cases k with
  | none => simpa only [loS, keptO, loOffer] using offerLo_none h b w
  | some k =>
    have H := offerLo_some h k b w hq
    by_cases e : h ≠ 0 ∧ trailsB (nb b * 256 + nb k) = false
    · simp only [unitP, if_pos e] at H
      simpa only [loS, keptO, loOffer, if_pos e] using H
    · simp only [unitP, if_neg e] at H
      simpa only [loS, keptO, loOffer, if_neg e] using H

set_option maxRecDepth 100000 in
set_option maxHeartbeats 400000 in
theorem firstHi_mid (h : Int) (b : UInt8) (x t : Bool) (w : World) (a1 : (h != 0) = x) (ht : trB b = t) (hx : (x == t) = true) : Calls Try.prog 108 #[(.agg #[.int .i64 0, .int .i64 0, .int .i64 0, .int .i64 0, .string ⟨#[]⟩, .int .i64 h, .int .i64 0]), .int .i64 (nb b)] w (PSO w ⟨0, 0, 0, 0, ⟨#[b]⟩, h, 0⟩ []) := by
  have H := fun w1 => trailsByte_any b w1
  have H2 := keep_any b
  rw [ht] at H
  clear ht
  unfold nb at *
  replace H := hid H
  replace H2 := hid H2
  go_enter Try.func108, Try.ntmps108
  go_wp2_with fail
  refine (H.out _).mono ?_
  rintro e w1 ⟨rfl, rfl⟩
  go_wp2_with fail
  go_region_held3 (fun w' => w'.cell? ⟨w.heap.size, 5, none⟩ = some (.int .i64 h)) (first | go_keep | (rw [hc _ _ (by simp; omega)]; simp [go_sem]))
    (first | (go_at_call 106; refine (H2.out _).mono ?_; rintro e w1 ⟨rfl, hb1⟩; obtain ⟨hc, hf⟩ := bcell hb1))
  go_wp2_with fail
  refine bodyPost_ret (ret_SO rfl rfl ((HasS.box2 (undrew hb1)).put7 ⟨0, 0, 0, 0, ⟨#[b]⟩, h, 0⟩)) rfl ⟨_, rfl, Out.nil _ _, ?_⟩
  exact put7 (two_boxes (undrew hb1)) (by omega) _ _ _ _ _ _ _
set_option maxRecDepth 100000 in
set_option maxHeartbeats 400000 in
theorem firstHi_told (h : Int) (b : UInt8) (x t : Bool) (w : World) (a1 : (h != 0) = x) (ht : trB b = t) (hx : (x == t) = false) : Calls Try.prog 108 #[(.agg #[.int .i64 0, .int .i64 0, .int .i64 0, .int .i64 0, .string ⟨#[]⟩, .int .i64 h, .int .i64 0]), .int .i64 (nb b)] w (PSO w ⟨0, 0, 0, 0, ⟨#[b]⟩, 0, 1⟩ [-1]) := by
  have H := fun w1 => trailsByte_any b w1
  have H2 := keep_any b
  rw [ht] at H
  clear ht
  unfold nb at *
  replace H := hid H
  replace H2 := hid H2
  go_enter Try.func108, Try.ntmps108
  go_wp2_with fail
  refine (H.out _).mono ?_
  rintro e w1 ⟨rfl, rfl⟩
  go_wp2_with fail
  refine (H2.out _).mono ?_
  rintro e w1 ⟨rfl, hb1⟩
  obtain ⟨hc, hf⟩ := bcell hb1
  have hz : w.heap.size + 1 < w1.heap.size := by have := hb1.size; simp at this; omega
  go_wp2_with fail
  refine (bad_any _).mono ?_
  rintro e w2 ⟨rfl, rfl⟩
  go_wp2_with fail
  refine bodyPost_ret (ret_SO rfl rfl (((HasS.box2 hb1).put7 ⟨0, 0, 0, 0, ⟨#[b]⟩, 0, 1⟩).alloc _)) rfl ⟨_, rfl, Out.one' _ _ w1.heap.size _ (size7 ..) (by omega), ?_⟩
  exact Below.alloc (put7 (two_boxes hb1) (by omega) _ _ _ _ _ _ _) (by rw [size7]; omega) _
/-- What firstHigh hands back. -/
def firstH (h : Int) (b : UInt8) : S × List Int := if (h != 0) == trB b then (⟨0, 0, 0, 0, ⟨#[b]⟩, h, 0⟩, []) else (⟨0, 0, 0, 0, ⟨#[b]⟩, 0, 1⟩, [-1])
theorem firstHi_any (h : Int) (b : UInt8) (w : World) : Calls Try.prog 108 #[(.agg #[.int .i64 0, .int .i64 0, .int .i64 0, .int .i64 0, .string ⟨#[]⟩, .int .i64 h, .int .i64 0]), .int .i64 (nb b)] w (PSO w (firstH h b).1 (firstH h b).2) := by
  unfold firstH
  split
  · exact firstHi_mid h b _ _ w rfl rfl ‹_›
  · rename_i hx
    exact firstHi_told h b _ _ w rfl rfl (Bool.eq_false_iff.2 hx)

set_option maxRecDepth 100000 in
set_option maxHeartbeats 400000 in
theorem offerHi_unit (h : Int) (b : UInt8) (w : World) : Calls Try.prog 96 #[(.agg #[.int .i64 0, .int .i64 0, .int .i64 0, .int .i64 0, .string ⟨#[]⟩, .int .i64 h, .int .i64 0]), .int .i64 (nb b)] w (PSOB w (firstH h b).1 (firstH h b).2 false) := by
  have H := fun w1 => firstHi_any h b w1
  generalize (firstH h b).2 = l at H ⊢
  generalize (firstH h b).1 = s at H ⊢
  replace H := hid H
  unfold nb at *
  go_enter Try.func96, Try.ntmps96
  go_wp2_with fail
  refine (H.out _).mono ?_
  rintro e w1 ⟨v, rfl, ho, hb1⟩
  obtain ⟨hc, hf⟩ := bcell hb1
  replace ho := hid ho
  go_wp2_with fail
  refine bodyPost_ret (ret_SOB rfl rfl (((HasS.box2 hb1).put7 s).put7 s)) rfl ⟨v, rfl, ?_, ?_⟩
  · exact ((ho.out.put7 (by simp) _ _ _ _ _ _ _).put7 (by simp) _ _ _ _ _ _ _).base (by simp; omega)
  · exact put7 (put7 (two_boxes hb1) (by omega) _ _ _ _ _ _ _) (by omega) _ _ _ _ _ _ _
set_option maxRecDepth 100000 in
set_option maxHeartbeats 800000 in
theorem offerHi_mid (h : Int) (k b : UInt8) (w : World) (hh : halfOk h) : Calls Try.prog 96 #[(.agg #[.int .i64 0, .int .i64 0, .int .i64 0, .int .i64 0, .string ⟨#[k]⟩, .int .i64 h, .int .i64 0]), .int .i64 (nb b)] w (PSOB w (unitP h ⟨#[k]⟩ (nb k * 256 + nb b)).1 (unitP h ⟨#[k]⟩ (nb k * 256 + nb b)).2.1 (unitP h ⟨#[k]⟩ (nb k * 256 + nb b)).2.2) := by
  have H := fun w1 => unit_any h 0 (nb k * 256 + nb b) ⟨#[k]⟩ w1 hh
  clear hh
  have hj : bits .or .i64 (nb k * 256) (nb b) = nb k * 256 + nb b := by
    have := nb_lt b; have := nb_lt k; have := nb_nonneg b; have := nb_nonneg k
    exact or_join 8 _ _ (by omega) (by simp) (by omega) (by omega) (by omega) (by omega)
  generalize (unitP h ⟨#[k]⟩ (nb k * 256 + nb b)).2.2 = a at H ⊢
  generalize (unitP h ⟨#[k]⟩ (nb k * 256 + nb b)).2.1 = l at H ⊢
  generalize (unitP h ⟨#[k]⟩ (nb k * 256 + nb b)).1 = s at H ⊢
  have hb1 := nb_lt b
  unfold nb at *
  replace H := hid H
  go_enter Try.func96, Try.ntmps96
  go_wp2_with fail
  go_region_held3 (fun w' => w'.cell? ⟨w.heap.size, 0, none⟩ = some (.int .i64 0) ∧ w'.cell? ⟨w.heap.size, 1, none⟩ = some (.int .i64 0) ∧ w'.cell? ⟨w.heap.size, 2, none⟩ = some (.int .i64 0) ∧ w'.cell? ⟨w.heap.size, 3, none⟩ = some (.int .i64 0) ∧ w'.cell? ⟨w.heap.size, 4, none⟩ = some (.string ⟨#[k]⟩) ∧ w'.cell? ⟨w.heap.size, 5, none⟩ = some (.int .i64 h) ∧ w'.cell? ⟨w.heap.size, 6, none⟩ = some (.int .i64 0))
    (first | go_keep | (refine ⟨?_, ?_, ?_, ?_, ?_, ?_, ?_⟩ <;> (rw [hc _ _ (by simp; omega)]; simp [go_sem])))
    (first | (go_at_call 107; (try simp only [kw, kw256, hj]); refine (H.out _).mono ?_; rintro e w1 ⟨v, rfl, ho, hb1⟩; obtain ⟨hc, hf⟩ := bcell hb1; replace ho := hid ho))
  go_wp2_with fail
  refine bodyPost_ret (ret_SOB rfl rfl (((HasS.box2 (undrew hb1)).put7 s).put7 s)) rfl ⟨v, rfl, ?_, ?_⟩
  · exact (((unOut ho.out).put7 (by simp) _ _ _ _ _ _ _).put7 (by simp) _ _ _ _ _ _ _).base (by simp; omega)
  · exact put7 (put7 (two_boxes (undrew hb1)) (by omega) _ _ _ _ _ _ _) (by omega) _ _ _ _ _ _ _
set_option maxRecDepth 100000 in
set_option maxHeartbeats 800000 in
theorem offerHi_told (k b : UInt8) (t : Bool) (w : World) (ht : trB k = t) : Calls Try.prog 96 #[(.agg #[.int .i64 0, .int .i64 0, .int .i64 0, .int .i64 0, .string ⟨#[k]⟩, .int .i64 0, .int .i64 1]), .int .i64 (nb b)] w (PSOB w (unitP 0 ⟨#[k]⟩ (nb k * 256 + nb b)).1 (if t then [] else (unitP 0 ⟨#[k]⟩ (nb k * 256 + nb b)).2.1) (unitP 0 ⟨#[k]⟩ (nb k * 256 + nb b)).2.2) := by
  have H := fun w1 => unit_any 0 1 (nb k * 256 + nb b) ⟨#[k]⟩ w1 (.inl rfl)
  have H2 := fun w1 => trailsByte_any k w1
  rw [ht] at H2
  clear ht
  have hj : bits .or .i64 (nb k * 256) (nb b) = nb k * 256 + nb b := by
    have := nb_lt b; have := nb_lt k; have := nb_nonneg b; have := nb_nonneg k
    exact or_join 8 _ _ (by omega) (by simp) (by omega) (by omega) (by omega) (by omega)
  generalize (unitP 0 ⟨#[k]⟩ (nb k * 256 + nb b)).2.2 = a at H ⊢
  generalize (unitP 0 ⟨#[k]⟩ (nb k * 256 + nb b)).2.1 = l at H ⊢
  generalize (unitP 0 ⟨#[k]⟩ (nb k * 256 + nb b)).1 = s at H ⊢
  have hb1 := nb_lt b
  unfold nb at *
  replace H := hid H
  replace H2 := hid H2
  cases t
  all_goals
    simp only [if_true, Bool.false_eq_true, if_false]
    go_enter Try.func96, Try.ntmps96
    go_wp2_with fail
    go_region_held3 (fun w' => w'.cell? ⟨w.heap.size, 0, none⟩ = some (.int .i64 0) ∧ w'.cell? ⟨w.heap.size, 1, none⟩ = some (.int .i64 0) ∧ w'.cell? ⟨w.heap.size, 2, none⟩ = some (.int .i64 0) ∧ w'.cell? ⟨w.heap.size, 3, none⟩ = some (.int .i64 0) ∧ w'.cell? ⟨w.heap.size, 4, none⟩ = some (.string ⟨#[k]⟩) ∧ w'.cell? ⟨w.heap.size, 5, none⟩ = some (.int .i64 0) ∧ w'.cell? ⟨w.heap.size, 6, none⟩ = some (.int .i64 1))
      (first | go_keep | (refine ⟨?_, ?_, ?_, ?_, ?_, ?_, ?_⟩ <;> (rw [hc _ _ (by simp; omega)]; simp [go_sem])))
      (first | (go_at_call 107; (try simp only [kw, kw256, hj]); refine (H.out _).mono ?_; rintro e w1 ⟨v, rfl, ho, hb1⟩; obtain ⟨hc, hf⟩ := bcell hb1; replace ho := hid ho))
    go_wp2_with fail
    refine (H2.out _).mono ?_
    rintro e w2 ⟨rfl, rfl⟩
    go_wp2_with fail
  · refine bodyPost_ret (ret_SOB rfl rfl (((HasS.box2 (undrew hb1)).put7 s).put7 s)) rfl ⟨v, rfl, ?_, ?_⟩
    · exact (((unOut ho.out).put7 (by simp) _ _ _ _ _ _ _).put7 (by simp) _ _ _ _ _ _ _).base (by simp; omega)
    · exact put7 (put7 (two_boxes (undrew hb1)) (by omega) _ _ _ _ _ _ _) (by omega) _ _ _ _ _ _ _
  · refine bodyPost_ret (ret_SOB rfl rfl (((HasS.box2 (undrew hb1)).put7 s).put7 s)) rfl ⟨_, rfl, Out.nil _ _, ?_⟩
    exact put7 (put7 (two_boxes (undrew hb1)) (by omega) _ _ _ _ _ _ _) (by omega) _ _ _ _ _ _ _
set_option maxHeartbeats 400000 in
theorem finishHi_told (k : UInt8) (w : World) : Calls Try.prog 67 #[(.agg #[.int .i64 0, .int .i64 0, .int .i64 0, .int .i64 0, .string ⟨#[k]⟩, .int .i64 0, .int .i64 1])] w (PO w []) := by
  go_enter Try.func67, Try.ntmps67
  go_wp2_with fail
  go_ret
  exact ⟨_, rfl, Out.nil _ _, (by repeat (first | exact Below.refl _ _ | assumption | (refine Below.alloc ?_ (by first | (simp; done) | (simp; omega)) _) | (refine Below.setCell ?_ (by first | (simp; done) | (simp; omega)) _) | (refine Below.drew ?_)))⟩
set_option maxHeartbeats 400000 in
theorem finishHi_bad (k : ByteArray) (h : Int) (w : World) : Calls Try.prog 67 #[(.agg #[.int .i64 0, .int .i64 0, .int .i64 0, .int .i64 0, .string k, .int .i64 h, .int .i64 0])] w (PO w [-1]) := by
  go_enter Try.func67, Try.ntmps67
  go_wp2_with fail
  refine (bad_any _).mono ?_
  rintro e w2 ⟨rfl, rfl⟩
  go_wp2_with fail
  go_ret
  refine ⟨_, rfl, Out.one' _ _ (w.heap.size + 1) _ ?_ ?_, ?_⟩
  · simp
  · omega
  · exact (by repeat (first | exact Below.refl _ _ | assumption | (refine Below.alloc ?_ (by first | (simp; done) | (simp; omega)) _) | (refine Below.setCell ?_ (by first | (simp; done) | (simp; omega)) _) | (refine Below.drew ?_)))
theorem offerHi_any (q : H) (b : UInt8) (w : World) (hq : q.ok) : Calls Try.prog 96 #[(.agg #[.int .i64 q.toS.need, .int .i64 q.toS.code, .int .i64 q.toS.lo, .int .i64 q.toS.hi, .string q.toS.kept, .int .i64 q.toS.half, .int .i64 q.toS.mode]), .int .i64 (nb b)] w (PSOB w (q.offer b).1.toS (q.offer b).2.1 (q.offer b).2.2) := by
  cases q with
  | unit h =>
    have e := offerHi_unit h b w
    unfold firstH at e
    by_cases hx : trB b = true ↔ h ≠ 0
    · have hx' : ((h != 0) == trB b) = true := by
        by_cases h0 : h = 0 <;> cases ht : trB b <;> simp_all
      simp only [hx', if_true] at e
      simpa only [H.toS, H.offer, if_pos hx] using e
    · have hx' : ((h != 0) == trB b) = false := by
        by_cases h0 : h = 0 <;> cases ht : trB b <;> simp_all
      simp only [hx', Bool.false_eq_true, if_false] at e
      simpa only [H.toS, H.offer, if_neg hx] using e
  | mid h k =>
    obtain ⟨hh, hk⟩ := hq
    have e := offerHi_mid h k b w hh
    have : ¬ (h ≠ 0 ∧ trailsB (nb k * 256 + nb b) = false) := by
      rintro ⟨h0, ht⟩
      have h1 := hk.2 h0
      have := nb_lt b; have := nb_nonneg b
      unfold trB at h1; unfold trailsB at ht
      simp at h1 ht
      omega
    simp only [unitP, if_neg this] at e
    simpa only [H.toS, H.offer] using e
  | told k =>
    have e := offerHi_told k b _ w rfl
    have : ¬ ((0 : Int) ≠ 0 ∧ trailsB (nb k * 256 + nb b) = false) := by simp
    simp only [unitP, if_neg this] at e
    cases ht : trB k with
    | true =>
      have hu : unitO 0 (nb k * 256 + nb b) = (0, [-1]) := by
        have := nb_lt b; have := nb_nonneg b
        unfold trB at ht
        have h1 : leadsB (nb k * 256 + nb b) = false := by unfold leadsB; simp at ht ⊢; omega
        have h2 : trailsB (nb k * 256 + nb b) = true := by unfold trailsB; simp at ht ⊢; omega
        simp [unitO, h1, h2]
      simp only [ht, if_true, hu] at e
      simpa only [H.toS, H.offer, ht, if_true] using e
    | false =>
      simp only [ht, Bool.false_eq_true, if_false] at e
      simpa only [H.toS, H.offer, ht, Bool.false_eq_true, if_false] using e
end Go.Proofs.Ytloaemijhggheaa
