/- The walks over Shift, joined. -/
import Derived.Test.YtloaemijhggheaaWShift
namespace Go.Proofs.Ytloaemijhggheaa
open Go.RowKit
attribute [local go_sem ↓] run_eqS run_neS
attribute [local go_sem] byte_at0 byte_at20 byte_at21 w64 S.v and63 and31 and15 and7 kw kw256

theorem escape_any (d : Bool) (k : K) (b : UInt8) (w : World) (hk : k = .esc ∨ k = .par ∨ k = .dol) : Calls Try.prog 102 #[(.agg #[.int .i64 ((shS (d, k)).need), .int .i64 ((shS (d, k)).code), .int .i64 ((shS (d, k)).lo), .int .i64 ((shS (d, k)).hi), .string ((shS (d, k)).kept), .int .i64 ((shS (d, k)).half), .int .i64 ((shS (d, k)).mode)]), .int .i64 (nb b)] w (PSOB w (shS (shOffer (d, k) b).1) (shOffer (d, k) b).2.1 (shOffer (d, k) b).2.2) := by
  have H := fun w1 => drop_any d k w1 hk
  have ub : ∀ c : UInt8, ¬ nb b = nb c → (b == c) = false := fun c h => by
    cases e : b == c with
    | false => rfl
    | true => exact (h (by rw [eq_of_beq e])).elim
  rcases hk with rfl | rfl | rfl
  · by_cases h1 : nb b = 40
    · rw [h1]
      simpa only [shS, K.kept, shOffer, if_pos h1] using esc_par (modeI d) w
    by_cases h2 : nb b = 36
    · rw [h2]
      simpa only [shS, K.kept, shOffer, if_neg h1, if_pos h2] using esc_dol (modeI d) w
    · have := escD_esc (modeI d) b _ _ w (ub 40 h1) (ub 36 h2) (hid H)
      simpa only [shS, K.kept, shOffer, if_neg h1, if_neg h2] using this
  · by_cases h1 : nb b = 66
    · rw [h1]
      simpa only [shS, K.kept, shOffer, if_pos h1, show modeI false = 0 from rfl] using escB_par (modeI d) w
    · have := escD_par (modeI d) b _ _ w (ub 66 h1) (hid H)
      simpa only [shS, K.kept, shOffer, if_neg h1] using this
  · by_cases h1 : nb b = 66
    · rw [h1]
      simpa only [shS, K.kept, shOffer, if_pos h1, show modeI true = 1 from rfl] using escB_dol (modeI d) w
    · have := escD_dol (modeI d) b _ _ w (ub 66 h1) (hid H)
      simpa only [shS, K.kept, shOffer, if_neg h1] using this

set_option maxRecDepth 100000 in
set_option maxHeartbeats 400000 in
theorem offerSh_none (m : Int) (b : UInt8) (s : S) (l : List Int) (w : World) (H : Hid (∀ w1, Calls Try.prog 99 #[.int .i64 m, .int .i64 (b.toNat : Int)] w1 (PSO w1 s l))) : Calls Try.prog 93 #[(.agg #[.int .i64 0, .int .i64 0, .int .i64 0, .int .i64 0, .string ⟨#[]⟩, .int .i64 0, .int .i64 m]), .int .i64 (nb b)] w (PSOB w s l false) := by
  unfold nb
  go_enter Try.func93, Try.ntmps93
  go_wp2_with fail
  refine (H.out _).mono ?_
  rintro e w1 ⟨v, rfl, ho, hb1⟩
  obtain ⟨hc, hf⟩ := bcell hb1
  replace ho := hid ho
  go_wp2_with fail
  refine bodyPost_ret (ret_SOB rfl rfl (((HasS.box2 hb1).put7 s).put7 s)) rfl ⟨v, rfl, ?_, ?_⟩
  · exact ((ho.out.put7 (by simp) _ _ _ _ _ _ _).put7 (by simp) _ _ _ _ _ _ _).base (by simp; omega)
  · exact put7 (put7 (two_boxes hb1) (by omega) _ _ _ _ _ _ _) (by omega) _ _ _ _ _ _ _
set_option maxRecDepth 100000 in
set_option maxHeartbeats 400000 in
theorem offerSh_half (m : Int) (k b : UInt8) (l : List Int) (a : Bool) (w : World) (hk : ((k.toNat : Int) == 27) = false) (H : Hid (∀ w1, Calls Try.prog 103 #[.int .i64 (k.toNat : Int), .int .i64 (b.toNat : Int)] w1 (POB w1 l a))) : Calls Try.prog 93 #[(.agg #[.int .i64 0, .int .i64 0, .int .i64 0, .int .i64 0, .string ⟨#[k]⟩, .int .i64 0, .int .i64 m]), .int .i64 (nb b)] w (PSOB w ⟨0, 0, 0, 0, ⟨#[]⟩, 0, m⟩ l a) := by
  unfold nb
  go_enter Try.func93, Try.ntmps93
  go_wp2_with fail
  refine (H.out _).mono ?_
  rintro e w1 ⟨v, rfl, ho, hb1⟩
  obtain ⟨hc, hf⟩ := bcell hb1
  replace ho := hid ho
  go_wp2_with fail
  refine bodyPost_ret (ret_SOB rfl rfl ((HasS.box2 hb1).put7 ⟨0, 0, 0, 0, ⟨#[]⟩, 0, m⟩)) rfl ⟨v, rfl, ?_, ?_⟩
  · exact (ho.out.put7 (by simp) _ _ _ _ _ _ _).base (by simp; omega)
  · exact put7 (two_boxes hb1) (by omega) _ _ _ _ _ _ _
set_option maxRecDepth 100000 in
set_option maxHeartbeats 400000 in
theorem offerSh_esc (m : Int) (b : UInt8) (s : S) (l : List Int) (a : Bool) (w : World) (H : Hid (∀ w1, Calls Try.prog 102 #[(.agg #[.int .i64 0, .int .i64 0, .int .i64 0, .int .i64 0, .string ⟨#[27]⟩, .int .i64 0, .int .i64 m]), .int .i64 (b.toNat : Int)] w1 (PSOB w1 s l a))) : Calls Try.prog 93 #[(.agg #[.int .i64 0, .int .i64 0, .int .i64 0, .int .i64 0, .string ⟨#[27]⟩, .int .i64 0, .int .i64 m]), .int .i64 (nb b)] w (PSOB w s l a) := by
  unfold nb
  go_enter Try.func93, Try.ntmps93
  go_wp2_with fail
  refine (H.out _).mono ?_
  rintro e w1 ⟨v, rfl, ho, hb1⟩
  obtain ⟨hc, hf⟩ := bcell hb1
  replace ho := hid ho
  go_wp2_with fail
  refine bodyPost_ret (ret_SOB rfl rfl ((HasS.box2 hb1).put7 s)) rfl ⟨v, rfl, ?_, ?_⟩
  · exact (ho.out.put7 (by simp) _ _ _ _ _ _ _).base (by simp; omega)
  · exact put7 (two_boxes hb1) (by omega) _ _ _ _ _ _ _
set_option maxRecDepth 100000 in
set_option maxHeartbeats 400000 in
theorem finSh_esc (m : Int) (n c lo hi h m2 : Int) (l : List Int) (w : World) (H : Hid (∀ w1, Calls Try.prog 89 #[(.agg #[.int .i64 0, .int .i64 0, .int .i64 0, .int .i64 0, .string ⟨#[27]⟩, .int .i64 0, .int .i64 m])] w1 (PSO w1 ⟨n, c, lo, hi, ⟨#[]⟩, h, m2⟩ l))) : Calls Try.prog 66 #[(.agg #[.int .i64 0, .int .i64 0, .int .i64 0, .int .i64 0, .string ⟨#[27]⟩, .int .i64 0, .int .i64 m])] w (PO w l) := by
  go_enter Try.func66, Try.ntmps66
  go_wp2_with fail
  refine (H.out _).mono ?_
  rintro e w1 ⟨v, rfl, ho, hb1⟩
  obtain ⟨hc, hf⟩ := bcell hb1
  replace ho := hid ho
  go_wp2_with fail
  go_ret
  exact ⟨v, rfl, (ho.out.alloc _).base (by simp), (one_box hb1).alloc (one_box hb1).size _⟩
set_option maxRecDepth 100000 in
set_option maxHeartbeats 400000 in
theorem offerSh_par (m : Int) (b : UInt8) (s : S) (l : List Int) (a : Bool) (w : World) (H : Hid (∀ w1, Calls Try.prog 102 #[(.agg #[.int .i64 0, .int .i64 0, .int .i64 0, .int .i64 0, .string ⟨#[27, 40]⟩, .int .i64 0, .int .i64 m]), .int .i64 (b.toNat : Int)] w1 (PSOB w1 s l a))) : Calls Try.prog 93 #[(.agg #[.int .i64 0, .int .i64 0, .int .i64 0, .int .i64 0, .string ⟨#[27, 40]⟩, .int .i64 0, .int .i64 m]), .int .i64 (nb b)] w (PSOB w s l a) := by
  unfold nb
  go_enter Try.func93, Try.ntmps93
  go_wp2_with fail
  refine (H.out _).mono ?_
  rintro e w1 ⟨v, rfl, ho, hb1⟩
  obtain ⟨hc, hf⟩ := bcell hb1
  replace ho := hid ho
  go_wp2_with fail
  refine bodyPost_ret (ret_SOB rfl rfl ((HasS.box2 hb1).put7 s)) rfl ⟨v, rfl, ?_, ?_⟩
  · exact (ho.out.put7 (by simp) _ _ _ _ _ _ _).base (by simp; omega)
  · exact put7 (two_boxes hb1) (by omega) _ _ _ _ _ _ _
set_option maxRecDepth 100000 in
set_option maxHeartbeats 400000 in
theorem finSh_par (m : Int) (n c lo hi h m2 : Int) (l : List Int) (w : World) (H : Hid (∀ w1, Calls Try.prog 89 #[(.agg #[.int .i64 0, .int .i64 0, .int .i64 0, .int .i64 0, .string ⟨#[27, 40]⟩, .int .i64 0, .int .i64 m])] w1 (PSO w1 ⟨n, c, lo, hi, ⟨#[]⟩, h, m2⟩ l))) : Calls Try.prog 66 #[(.agg #[.int .i64 0, .int .i64 0, .int .i64 0, .int .i64 0, .string ⟨#[27, 40]⟩, .int .i64 0, .int .i64 m])] w (PO w l) := by
  go_enter Try.func66, Try.ntmps66
  go_wp2_with fail
  refine (H.out _).mono ?_
  rintro e w1 ⟨v, rfl, ho, hb1⟩
  obtain ⟨hc, hf⟩ := bcell hb1
  replace ho := hid ho
  go_wp2_with fail
  go_ret
  exact ⟨v, rfl, (ho.out.alloc _).base (by simp), (one_box hb1).alloc (one_box hb1).size _⟩
set_option maxRecDepth 100000 in
set_option maxHeartbeats 400000 in
theorem finSh2_par (m : Int) (n c lo hi h m2 : Int) (k : UInt8) (l : List Int) (w : World) (hl : l.length ≤ 10) (H : Hid (∀ w1, Calls Try.prog 89 #[(.agg #[.int .i64 0, .int .i64 0, .int .i64 0, .int .i64 0, .string ⟨#[27, 40]⟩, .int .i64 0, .int .i64 m])] w1 (PSO w1 ⟨n, c, lo, hi, ⟨#[k]⟩, h, m2⟩ l))) : Calls Try.prog 66 #[(.agg #[.int .i64 0, .int .i64 0, .int .i64 0, .int .i64 0, .string ⟨#[27, 40]⟩, .int .i64 0, .int .i64 m])] w (PO w (l ++ [-1])) := by
  go_enter Try.func66, Try.ntmps66
  go_wp2_with fail
  refine (H.out _).mono ?_
  rintro e w1 ⟨v, rfl, ho, hb1⟩
  obtain ⟨hc, hf⟩ := bcell hb1
  replace ho := hid ho
  have hw := (one_box hb1).size
  have hA : Out ((w1.alloc (.cells #[.int .i64 n, .int .i64 c, .int .i64 lo, .int .i64 hi, .string ⟨#[k]⟩, .int .i64 h, .int .i64 m2] 30)).alloc (.cells #[.int .i64 (-1)] 3)) w.heap.size v l := ((ho.out.alloc _).alloc _).base (by simp)
  have hN : Out ((w1.alloc (.cells #[.int .i64 n, .int .i64 c, .int .i64 lo, .int .i64 hi, .string ⟨#[k]⟩, .int .i64 h, .int .i64 m2] 30)).alloc (.cells #[.int .i64 (-1)] 3)) w.heap.size (.slice (some ⟨w1.heap.size + 1, 0, none⟩) 1 1) [-1] := Out.one' _ _ _ _ (by simp) (by omega)
  have hB := ((one_box hb1).alloc hw (.cells #[.int .i64 n, .int .i64 c, .int .i64 lo, .int .i64 hi, .string ⟨#[k]⟩, .int .i64 h, .int .i64 m2] 30)).alloc (by simp; omega) (.cells #[.int .i64 (-1)] 3)
  go_wp2_with (at_builtin; refine list_appO rfl (.tmp 21) (.tmp 22) rfl (v := v) (v2 := .slice (some ⟨w1.heap.size + 1, 0, none⟩) 1 1) rfl rfl hA hN (by simp; omega) (by simp; omega) ?_; intro v2 w2 ho2 hb2)
  go_ret
  exact ⟨v2, rfl, ho2, hB.trans hb2⟩
set_option maxRecDepth 100000 in
set_option maxHeartbeats 400000 in
theorem offerSh_dol (m : Int) (b : UInt8) (s : S) (l : List Int) (a : Bool) (w : World) (H : Hid (∀ w1, Calls Try.prog 102 #[(.agg #[.int .i64 0, .int .i64 0, .int .i64 0, .int .i64 0, .string ⟨#[27, 36]⟩, .int .i64 0, .int .i64 m]), .int .i64 (b.toNat : Int)] w1 (PSOB w1 s l a))) : Calls Try.prog 93 #[(.agg #[.int .i64 0, .int .i64 0, .int .i64 0, .int .i64 0, .string ⟨#[27, 36]⟩, .int .i64 0, .int .i64 m]), .int .i64 (nb b)] w (PSOB w s l a) := by
  unfold nb
  go_enter Try.func93, Try.ntmps93
  go_wp2_with fail
  refine (H.out _).mono ?_
  rintro e w1 ⟨v, rfl, ho, hb1⟩
  obtain ⟨hc, hf⟩ := bcell hb1
  replace ho := hid ho
  go_wp2_with fail
  refine bodyPost_ret (ret_SOB rfl rfl ((HasS.box2 hb1).put7 s)) rfl ⟨v, rfl, ?_, ?_⟩
  · exact (ho.out.put7 (by simp) _ _ _ _ _ _ _).base (by simp; omega)
  · exact put7 (two_boxes hb1) (by omega) _ _ _ _ _ _ _
set_option maxRecDepth 100000 in
set_option maxHeartbeats 400000 in
theorem finSh_dol (m : Int) (n c lo hi h m2 : Int) (l : List Int) (w : World) (H : Hid (∀ w1, Calls Try.prog 89 #[(.agg #[.int .i64 0, .int .i64 0, .int .i64 0, .int .i64 0, .string ⟨#[27, 36]⟩, .int .i64 0, .int .i64 m])] w1 (PSO w1 ⟨n, c, lo, hi, ⟨#[]⟩, h, m2⟩ l))) : Calls Try.prog 66 #[(.agg #[.int .i64 0, .int .i64 0, .int .i64 0, .int .i64 0, .string ⟨#[27, 36]⟩, .int .i64 0, .int .i64 m])] w (PO w l) := by
  go_enter Try.func66, Try.ntmps66
  go_wp2_with fail
  refine (H.out _).mono ?_
  rintro e w1 ⟨v, rfl, ho, hb1⟩
  obtain ⟨hc, hf⟩ := bcell hb1
  replace ho := hid ho
  go_wp2_with fail
  go_ret
  exact ⟨v, rfl, (ho.out.alloc _).base (by simp), (one_box hb1).alloc (one_box hb1).size _⟩
set_option maxRecDepth 100000 in
set_option maxHeartbeats 400000 in
theorem finSh2_dol (m : Int) (n c lo hi h m2 : Int) (k : UInt8) (l : List Int) (w : World) (hl : l.length ≤ 10) (H : Hid (∀ w1, Calls Try.prog 89 #[(.agg #[.int .i64 0, .int .i64 0, .int .i64 0, .int .i64 0, .string ⟨#[27, 36]⟩, .int .i64 0, .int .i64 m])] w1 (PSO w1 ⟨n, c, lo, hi, ⟨#[k]⟩, h, m2⟩ l))) : Calls Try.prog 66 #[(.agg #[.int .i64 0, .int .i64 0, .int .i64 0, .int .i64 0, .string ⟨#[27, 36]⟩, .int .i64 0, .int .i64 m])] w (PO w (l ++ [-1])) := by
  go_enter Try.func66, Try.ntmps66
  go_wp2_with fail
  refine (H.out _).mono ?_
  rintro e w1 ⟨v, rfl, ho, hb1⟩
  obtain ⟨hc, hf⟩ := bcell hb1
  replace ho := hid ho
  have hw := (one_box hb1).size
  have hA : Out ((w1.alloc (.cells #[.int .i64 n, .int .i64 c, .int .i64 lo, .int .i64 hi, .string ⟨#[k]⟩, .int .i64 h, .int .i64 m2] 30)).alloc (.cells #[.int .i64 (-1)] 3)) w.heap.size v l := ((ho.out.alloc _).alloc _).base (by simp)
  have hN : Out ((w1.alloc (.cells #[.int .i64 n, .int .i64 c, .int .i64 lo, .int .i64 hi, .string ⟨#[k]⟩, .int .i64 h, .int .i64 m2] 30)).alloc (.cells #[.int .i64 (-1)] 3)) w.heap.size (.slice (some ⟨w1.heap.size + 1, 0, none⟩) 1 1) [-1] := Out.one' _ _ _ _ (by simp) (by omega)
  have hB := ((one_box hb1).alloc hw (.cells #[.int .i64 n, .int .i64 c, .int .i64 lo, .int .i64 hi, .string ⟨#[k]⟩, .int .i64 h, .int .i64 m2] 30)).alloc (by simp; omega) (.cells #[.int .i64 (-1)] 3)
  go_wp2_with (at_builtin; refine list_appO rfl (.tmp 21) (.tmp 22) rfl (v := v) (v2 := .slice (some ⟨w1.heap.size + 1, 0, none⟩) 1 1) rfl rfl hA hN (by simp; omega) (by simp; omega) ?_; intro v2 w2 ho2 hb2)
  go_ret
  exact ⟨v2, rfl, ho2, hB.trans hb2⟩
theorem offerSh_any (q : Bool × K) (b : UInt8) (w : World) (hq : shOk q) : Calls Try.prog 93 #[(.agg #[.int .i64 ((shS q).need), .int .i64 ((shS q).code), .int .i64 ((shS q).lo), .int .i64 ((shS q).hi), .string ((shS q).kept), .int .i64 ((shS q).half), .int .i64 ((shS q).mode)]), .int .i64 (nb b)] w (PSOB w (shS (shOffer q b).1) (shOffer q b).2.1 (shOffer q b).2.2) := by
  obtain ⟨d, k⟩ := q
  cases k with
  | none => simpa only [shS, K.kept, shOffer] using offerSh_none (modeI d) b _ _ w (hid fun w1 => firstSh_any d b w1)
  | half k =>
    obtain ⟨rfl, h1, h2⟩ := hq
    have hk : ((k.toNat : Int) == 27) = false := by unfold nb at h1; simp; omega
    simpa only [shS, K.kept, shOffer] using offerSh_half (modeI true) k b _ _ w hk (hid fun w1 => secondSh_any k b w1)
  | esc => simpa only [shS, K.kept] using offerSh_esc (modeI d) b _ _ _ w (hid fun w1 => escape_any d .esc b w1 (.inl rfl))
  | par => simpa only [shS, K.kept] using offerSh_par (modeI d) b _ _ _ w (hid fun w1 => escape_any d .par b w1 (.inr (.inl rfl)))
  | dol => simpa only [shS, K.kept] using offerSh_dol (modeI d) b _ _ _ w (hid fun w1 => escape_any d .dol b w1 (.inr (.inr rfl)))
set_option maxRecDepth 100000 in
set_option maxHeartbeats 400000 in
theorem finSh_none (m : Int) (w : World) : Calls Try.prog 66 #[(.agg #[.int .i64 0, .int .i64 0, .int .i64 0, .int .i64 0, .string ⟨#[]⟩, .int .i64 0, .int .i64 m])] w (PO w []) := by
  go_enter Try.func66, Try.ntmps66
  go_wp2_with fail
  go_ret
  exact ⟨_, rfl, Out.nil _ _, (by repeat (first | exact Below.refl _ _ | assumption | (refine Below.alloc ?_ (by first | (simp; done) | (simp; omega)) _) | (refine Below.setCell ?_ (by first | (simp; done) | (simp; omega)) _) | (refine Below.drew ?_)))⟩
set_option maxRecDepth 100000 in
set_option maxHeartbeats 400000 in
theorem finSh_half (m : Int) (k : UInt8) (w : World) (_hk : ((k.toNat : Int) == 27) = false) (hk' : ((k.toNat : Int) != 27) = true) : Calls Try.prog 66 #[(.agg #[.int .i64 0, .int .i64 0, .int .i64 0, .int .i64 0, .string ⟨#[k]⟩, .int .i64 0, .int .i64 m])] w (PO w [-1]) := by
  go_enter Try.func66, Try.ntmps66
  go_wp2_with fail
  refine (bad_any _).mono ?_
  rintro e w2 ⟨rfl, rfl⟩
  go_wp2_with fail
  go_ret
  exact ⟨_, rfl, Out.one' _ _ (w.heap.size + 1) _ (by simp) (by omega), (by repeat (first | exact Below.refl _ _ | assumption | (refine Below.alloc ?_ (by first | (simp; done) | (simp; omega)) _) | (refine Below.setCell ?_ (by first | (simp; done) | (simp; omega)) _) | (refine Below.drew ?_)))⟩
theorem finSh_any (q : Bool × K) (w : World) (hq : shOk q) : Calls Try.prog 66 #[(.agg #[.int .i64 ((shS q).need), .int .i64 ((shS q).code), .int .i64 ((shS q).lo), .int .i64 ((shS q).hi), .string ((shS q).kept), .int .i64 ((shS q).half), .int .i64 ((shS q).mode)])] w (PO w (shFin q)) := by
  obtain ⟨d, k⟩ := q
  cases k with
  | none => simpa only [shS, K.kept, shFin] using finSh_none (modeI d) w
  | half k =>
    obtain ⟨rfl, h1, h2⟩ := hq
    have hk : ((k.toNat : Int) == 27) = false := by unfold nb at h1; simp; omega
    have hk' : ((k.toNat : Int) != 27) = true := by unfold nb at h1; simp; omega
    simpa only [shS, K.kept, shFin] using finSh_half (modeI true) k w hk hk'
  | esc => simpa only [shS, K.kept, shFin] using finSh_esc (modeI d) _ _ _ _ _ _ [-1] w (hid fun w1 => drop_any d .esc w1 (.inl rfl))
  | par =>
    cases d with
    | false => simpa only [shS, K.kept, shFin, Bool.false_eq_true, if_false] using finSh_par (modeI false) _ _ _ _ _ _ [-1, 40] w (hid fun w1 => drop_any false .par w1 (.inr (.inl rfl)))
    | true => simpa only [shS, K.kept, shFin, if_true, List.cons_append, List.nil_append] using finSh2_par (modeI true) _ _ _ _ _ _ 40 [-1] w (by simp) (hid fun w1 => drop_any true .par w1 (.inr (.inl rfl)))
  | dol =>
    cases d with
    | false => simpa only [shS, K.kept, shFin, Bool.false_eq_true, if_false] using finSh_dol (modeI false) _ _ _ _ _ _ [-1, 36] w (hid fun w1 => drop_any false .dol w1 (.inr (.inr rfl)))
    | true => simpa only [shS, K.kept, shFin, if_true, List.cons_append, List.nil_append] using finSh2_dol (modeI true) _ _ _ _ _ _ 36 [-1] w (by simp) (hid fun w1 => drop_any true .dol w1 (.inr (.inr rfl)))
end Go.Proofs.Ytloaemijhggheaa
