/- The reference's piece: the ways of Low and High. -/
import Derived.Test.YtloaemijhggheaaPieceX
namespace Go.Proofs.Ytloaemijhggheaa
open Go.RowKit
attribute [local go_sem ↓] run_eqS run_neS
attribute [local go_sem] byte_at0 byte_at20 byte_at21 w64 S.v and63 and31 and15 and7 kw kw256
attribute [local go_sem] run_store_fn

/-- The unit at a place; -1: there is none. -/
def ul (e : Int) (s : ByteArray) (i : Nat) : Int := if gl s i < 0 ∨ gl s (i + 1) < 0 then -1 else if e = 5 then 256 * gl s (i + 1) + gl s i else 256 * gl s i + gl s (i + 1)
theorem ul_lt (e : Int) (s : ByteArray) (i : Nat) : -1 ≤ ul e s i ∧ ul e s i ≤ 65535 := by
  have h1 := gl_lt s i; have h2 := gl_lt s (i + 1)
  unfold ul
  split
  · omega
  split <;> omega
/-- What a call of unit does. -/
def UnitC (e : Int) (s : ByteArray) (i : Int) (u : Int) : Prop := ∀ (ga ea sa : Addr) (w : World), w.cell? ga = some (.func (.func 69) #[] #[.pointer (some sa)]) → w.cell? ea = some (.int .i64 e) → w.cell? sa = some (.string s) →
  Calls Try.prog 72 #[.int .i64 i, .pointer (some ga), .pointer (some ea)] w fun r w' => r = .returned (.int .i64 u) ∧ ∃ n, w' = w.drewN n
theorem unit0_any (e : Int) (s : ByteArray) : UnitC e s 0 (ul e s 0) := by
  intro ga ea sa w hg he hs
  have H1 := hid (get_q s 0 sa w (gl s 0) (by decide) rfl hs)
  have H2 := hid (get_q s 1 sa w (gl s (0 + 1)) (by decide) rfl hs)
  have b1 := gl_lt s 0; have b2 := gl_lt s (0 + 1)
  unfold ul
  by_cases h : gl s 0 < 0 ∨ gl s (0 + 1) < 0
  · rw [if_pos h]; exact unit0_none e _ _ ga ea sa w hg he H1 H2 h
  rw [if_neg h]
  by_cases h5 : e = 5
  · rw [if_pos h5]; exact unit0_low e _ _ ga ea sa w hg he H1 H2 (by simp [h5]) (by omega) (by omega) (by omega) (by omega)
  · rw [if_neg h5]; exact unit0_high e _ _ ga ea sa w hg he H1 H2 (by simp [h5]) (by omega) (by omega) (by omega) (by omega)
theorem unit2_any (e : Int) (s : ByteArray) : UnitC e s 2 (ul e s 2) := by
  intro ga ea sa w hg he hs
  have H1 := hid (get_q s 2 sa w (gl s 2) (by decide) rfl hs)
  have H2 := hid (get_q s 3 sa w (gl s (2 + 1)) (by decide) rfl hs)
  have b1 := gl_lt s 2; have b2 := gl_lt s (2 + 1)
  unfold ul
  by_cases h : gl s 2 < 0 ∨ gl s (2 + 1) < 0
  · rw [if_pos h]; exact unit2_none e _ _ ga ea sa w hg he H1 H2 h
  rw [if_neg h]
  by_cases h5 : e = 5
  · rw [if_pos h5]; exact unit2_low e _ _ ga ea sa w hg he H1 H2 (by simp [h5]) (by omega) (by omega) (by omega) (by omega)
  · rw [if_neg h5]; exact unit2_high e _ _ ga ea sa w hg he H1 H2 (by simp [h5]) (by omega) (by omega) (by omega) (by omega)
set_option maxRecDepth 100000 in
set_option maxHeartbeats 1000000 in
theorem pieceW5_a (s : ByteArray) (md : Int) (w : World) (hs : 0 < s.size) (u v : Int) (_hu : u ≤ 65535) (_hv : v ≤ 65535) (HU : Hid (UnitC 5 s 0 u)) (_HV : Hid (UnitC 5 s 2 v)) (h : u < 0) : Calls Try.prog 43 #[.int .i64 5, .string s, .int .i64 md] w (PP w [-1] 1 0) := by
  go_enter Try.func43, Try.ntmps43
  go_wp2_with fail
  refine (HU.out ⟨w.heap.size + 1 + 1, 0, none⟩ ⟨w.heap.size, 0, none⟩ ⟨w.heap.size + 1, 0, none⟩ _ (by simp [go_sem]) (by simp [go_sem]) (by simp [go_sem])).mono ?_
  rintro r w1 ⟨rfl, n1, rfl⟩
  go_wp2_with fail
  go_ret3
  exact ⟨_, rfl, Out.below (Out.one' ((((w.alloc (.cells #[.int .i64 5] 3)).alloc (.cells #[.string s] 9)).alloc (.cells #[.func (.func 69) #[] #[.pointer (some ⟨w.heap.size + 1, 0, none⟩)]] 37))) w.heap.size (w.heap.size + 1 + 1 + 1) (-1) (by simp) (by omega)) (bdrewN (Below.refl _ _) _), (by repeat (first | exact Below.refl _ _ | (refine Below.alloc ?_ (by first | (simp; done) | (simp; omega)) _) | (refine bdrewN ?_ _)))⟩
set_option maxRecDepth 100000 in
set_option maxHeartbeats 1000000 in
theorem pieceW5_b (s : ByteArray) (md : Int) (w : World) (hs : 0 < s.size) (u v : Int) (hu : u ≤ 65535) (_hv : v ≤ 65535) (HU : Hid (UnitC 5 s 0 u)) (_HV : Hid (UnitC 5 s 2 v)) (h0 : 56320 ≤ u) (h1 : u ≤ 57343) : Calls Try.prog 43 #[.int .i64 5, .string s, .int .i64 md] w (PP w [-1] 2 0) := by
  go_enter Try.func43, Try.ntmps43
  go_wp2_with fail
  refine (HU.out ⟨w.heap.size + 1 + 1, 0, none⟩ ⟨w.heap.size, 0, none⟩ ⟨w.heap.size + 1, 0, none⟩ _ (by simp [go_sem]) (by simp [go_sem]) (by simp [go_sem])).mono ?_
  rintro r w1 ⟨rfl, n1, rfl⟩
  go_wp2_with fail
  refine (inR_yes _ _ _ _ (by omega) (by omega)).mono ?_
  rintro r w' ⟨rfl, rfl⟩
  go_wp2_with fail
  go_ret3
  exact ⟨_, rfl, Out.below (Out.one' ((((w.alloc (.cells #[.int .i64 5] 3)).alloc (.cells #[.string s] 9)).alloc (.cells #[.func (.func 69) #[] #[.pointer (some ⟨w.heap.size + 1, 0, none⟩)]] 37))) w.heap.size (w.heap.size + 1 + 1 + 1) (-1) (by simp) (by omega)) (bdrewN (Below.refl _ _) _), (by repeat (first | exact Below.refl _ _ | (refine Below.alloc ?_ (by first | (simp; done) | (simp; omega)) _) | (refine bdrewN ?_ _)))⟩
set_option maxRecDepth 100000 in
set_option maxHeartbeats 1000000 in
theorem pieceW5_c (s : ByteArray) (md : Int) (w : World) (hs : 0 < s.size) (u v : Int) (hu : u ≤ 65535) (_hv : v ≤ 65535) (HU : Hid (UnitC 5 s 0 u)) (_HV : Hid (UnitC 5 s 2 v)) (h0 : 0 ≤ u) (h : u < 55296 ∨ 57343 < u) : Calls Try.prog 43 #[.int .i64 5, .string s, .int .i64 md] w (PP w [u] 2 0) := by
  go_enter Try.func43, Try.ntmps43
  go_wp2_with fail
  refine (HU.out ⟨w.heap.size + 1 + 1, 0, none⟩ ⟨w.heap.size, 0, none⟩ ⟨w.heap.size + 1, 0, none⟩ _ (by simp [go_sem]) (by simp [go_sem]) (by simp [go_sem])).mono ?_
  rintro r w1 ⟨rfl, n1, rfl⟩
  go_wp2_with fail
  refine (inR_no _ _ _ _ (by omega)).mono ?_
  rintro r w' ⟨rfl, rfl⟩
  go_wp2_with fail
  refine (inR_no _ _ _ _ (by omega)).mono ?_
  rintro r w' ⟨rfl, rfl⟩
  go_wp2_with fail
  go_ret3
  exact ⟨_, rfl, Out.one' _ _ (w.heap.size + 1 + 1 + 1 + 1) _ (by simp) (by omega), (by repeat (first | exact Below.refl _ _ | (refine Below.alloc ?_ (by first | (simp; done) | (simp; omega)) _) | (refine bdrewN ?_ _)))⟩
set_option maxRecDepth 100000 in
set_option maxHeartbeats 1000000 in
theorem pieceW5_d (s : ByteArray) (md : Int) (w : World) (hs : 0 < s.size) (u v : Int) (hu : u ≤ 65535) (hv : v ≤ 65535) (HU : Hid (UnitC 5 s 0 u)) (HV : Hid (UnitC 5 s 2 v)) (h0 : 55296 ≤ u) (h1 : u ≤ 56319) (h2 : 56320 ≤ v) (h3 : v ≤ 57343) : Calls Try.prog 43 #[.int .i64 5, .string s, .int .i64 md] w (PP w [65536 + 1024 * (u - 55296) + v - 56320] 4 0) := by
  go_enter Try.func43, Try.ntmps43
  go_wp2_with fail
  refine (HU.out ⟨w.heap.size + 1 + 1, 0, none⟩ ⟨w.heap.size, 0, none⟩ ⟨w.heap.size + 1, 0, none⟩ _ (by simp [go_sem]) (by simp [go_sem]) (by simp [go_sem])).mono ?_
  rintro r w1 ⟨rfl, n1, rfl⟩
  go_wp2_with fail
  refine (inR_no _ _ _ _ (by omega)).mono ?_
  rintro r w' ⟨rfl, rfl⟩
  go_wp2_with fail
  refine (inR_yes _ _ _ _ (by omega) (by omega)).mono ?_
  rintro r w' ⟨rfl, rfl⟩
  go_wp2_with fail
  refine (HV.out ⟨w.heap.size + 1 + 1, 0, none⟩ ⟨w.heap.size, 0, none⟩ ⟨w.heap.size + 1, 0, none⟩ _ (by simp [go_sem]) (by simp [go_sem]) (by simp [go_sem])).mono ?_
  rintro r w2 ⟨rfl, n2, rfl⟩
  go_wp2_with fail
  refine (inR_yes _ _ _ _ (by omega) (by omega)).mono ?_
  rintro r w' ⟨rfl, rfl⟩
  go_wp2_with fail
  refine (HV.out ⟨w.heap.size + 1 + 1, 0, none⟩ ⟨w.heap.size, 0, none⟩ ⟨w.heap.size + 1, 0, none⟩ _ (by simp [go_sem]) (by simp [go_sem]) (by simp [go_sem])).mono ?_
  rintro r w3 ⟨rfl, n3, rfl⟩
  go_wp2_with fail
  go_ret3
  exact ⟨_, rfl, Out.one' _ _ (w.heap.size + 1 + 1 + 1 + 1) _ (by simp) (by omega), (by repeat (first | exact Below.refl _ _ | (refine Below.alloc ?_ (by first | (simp; done) | (simp; omega)) _) | (refine bdrewN ?_ _)))⟩
set_option maxRecDepth 100000 in
set_option maxHeartbeats 1000000 in
theorem pieceW5_e (s : ByteArray) (md : Int) (w : World) (hs : 0 < s.size) (u v : Int) (hu : u ≤ 65535) (_hv : v ≤ 65535) (HU : Hid (UnitC 5 s 0 u)) (HV : Hid (UnitC 5 s 2 v)) (h0 : 55296 ≤ u) (h1 : u ≤ 56319) (h2 : v < 0) : Calls Try.prog 43 #[.int .i64 5, .string s, .int .i64 md] w (PP w [-1] (s.size : Int) 0) := by
  go_enter Try.func43, Try.ntmps43
  go_wp2_with fail
  refine (HU.out ⟨w.heap.size + 1 + 1, 0, none⟩ ⟨w.heap.size, 0, none⟩ ⟨w.heap.size + 1, 0, none⟩ _ (by simp [go_sem]) (by simp [go_sem]) (by simp [go_sem])).mono ?_
  rintro r w1 ⟨rfl, n1, rfl⟩
  go_wp2_with fail
  refine (inR_no _ _ _ _ (by omega)).mono ?_
  rintro r w' ⟨rfl, rfl⟩
  go_wp2_with fail
  refine (inR_yes _ _ _ _ (by omega) (by omega)).mono ?_
  rintro r w' ⟨rfl, rfl⟩
  go_wp2_with fail
  refine (HV.out ⟨w.heap.size + 1 + 1, 0, none⟩ ⟨w.heap.size, 0, none⟩ ⟨w.heap.size + 1, 0, none⟩ _ (by simp [go_sem]) (by simp [go_sem]) (by simp [go_sem])).mono ?_
  rintro r w2 ⟨rfl, n2, rfl⟩
  go_wp2_with fail
  refine (inR_no _ _ _ _ (by omega)).mono ?_
  rintro r w' ⟨rfl, rfl⟩
  go_wp2_with fail
  refine (HV.out ⟨w.heap.size + 1 + 1, 0, none⟩ ⟨w.heap.size, 0, none⟩ ⟨w.heap.size + 1, 0, none⟩ _ (by simp [go_sem]) (by simp [go_sem]) (by simp [go_sem])).mono ?_
  rintro r w3 ⟨rfl, n3, rfl⟩
  go_wp2_with fail
  go_quiet (fail)
  go_wp2_with fail
  go_ret3
  exact ⟨_, rfl, Out.below (Out.one' ((((w.alloc (.cells #[.int .i64 5] 3)).alloc (.cells #[.string s] 9)).alloc (.cells #[.func (.func 69) #[] #[.pointer (some ⟨w.heap.size + 1, 0, none⟩)]] 37))) w.heap.size (w.heap.size + 1 + 1 + 1) (-1) (by simp) (by omega)) (bdrewN (bdrewN (Below.refl _ _) _) _), (by repeat (first | exact Below.refl _ _ | (refine Below.alloc ?_ (by first | (simp; done) | (simp; omega)) _) | (refine bdrewN ?_ _)))⟩
set_option maxRecDepth 100000 in
set_option maxHeartbeats 1000000 in
theorem pieceW5_f (s : ByteArray) (md : Int) (w : World) (hs : 0 < s.size) (u v : Int) (hu : u ≤ 65535) (hv : v ≤ 65535) (HU : Hid (UnitC 5 s 0 u)) (HV : Hid (UnitC 5 s 2 v)) (h0 : 55296 ≤ u) (h1 : u ≤ 56319) (h2 : 0 ≤ v) (h3 : v < 56320 ∨ 57343 < v) : Calls Try.prog 43 #[.int .i64 5, .string s, .int .i64 md] w (PP w [-1] 2 0) := by
  go_enter Try.func43, Try.ntmps43
  go_wp2_with fail
  refine (HU.out ⟨w.heap.size + 1 + 1, 0, none⟩ ⟨w.heap.size, 0, none⟩ ⟨w.heap.size + 1, 0, none⟩ _ (by simp [go_sem]) (by simp [go_sem]) (by simp [go_sem])).mono ?_
  rintro r w1 ⟨rfl, n1, rfl⟩
  go_wp2_with fail
  refine (inR_no _ _ _ _ (by omega)).mono ?_
  rintro r w' ⟨rfl, rfl⟩
  go_wp2_with fail
  refine (inR_yes _ _ _ _ (by omega) (by omega)).mono ?_
  rintro r w' ⟨rfl, rfl⟩
  go_wp2_with fail
  refine (HV.out ⟨w.heap.size + 1 + 1, 0, none⟩ ⟨w.heap.size, 0, none⟩ ⟨w.heap.size + 1, 0, none⟩ _ (by simp [go_sem]) (by simp [go_sem]) (by simp [go_sem])).mono ?_
  rintro r w2 ⟨rfl, n2, rfl⟩
  go_wp2_with fail
  refine (inR_no _ _ _ _ (by omega)).mono ?_
  rintro r w' ⟨rfl, rfl⟩
  go_wp2_with fail
  refine (HV.out ⟨w.heap.size + 1 + 1, 0, none⟩ ⟨w.heap.size, 0, none⟩ ⟨w.heap.size + 1, 0, none⟩ _ (by simp [go_sem]) (by simp [go_sem]) (by simp [go_sem])).mono ?_
  rintro r w3 ⟨rfl, n3, rfl⟩
  go_wp2_with fail
  go_ret3
  exact ⟨_, rfl, Out.below (Out.one' ((((w.alloc (.cells #[.int .i64 5] 3)).alloc (.cells #[.string s] 9)).alloc (.cells #[.func (.func 69) #[] #[.pointer (some ⟨w.heap.size + 1, 0, none⟩)]] 37))) w.heap.size (w.heap.size + 1 + 1 + 1) (-1) (by simp) (by omega)) (bdrewN (Below.refl _ _) _), (by repeat (first | exact Below.refl _ _ | (refine Below.alloc ?_ (by first | (simp; done) | (simp; omega)) _) | (refine bdrewN ?_ _)))⟩
set_option maxRecDepth 100000 in
set_option maxHeartbeats 1000000 in
theorem pieceW6_a (s : ByteArray) (md : Int) (w : World) (hs : 0 < s.size) (u v : Int) (_hu : u ≤ 65535) (_hv : v ≤ 65535) (HU : Hid (UnitC 6 s 0 u)) (_HV : Hid (UnitC 6 s 2 v)) (h : u < 0) : Calls Try.prog 43 #[.int .i64 6, .string s, .int .i64 md] w (PP w [-1] 1 0) := by
  go_enter Try.func43, Try.ntmps43
  go_wp2_with fail
  refine (HU.out ⟨w.heap.size + 1 + 1, 0, none⟩ ⟨w.heap.size, 0, none⟩ ⟨w.heap.size + 1, 0, none⟩ _ (by simp [go_sem]) (by simp [go_sem]) (by simp [go_sem])).mono ?_
  rintro r w1 ⟨rfl, n1, rfl⟩
  go_wp2_with fail
  go_ret3
  exact ⟨_, rfl, Out.below (Out.one' ((((w.alloc (.cells #[.int .i64 6] 3)).alloc (.cells #[.string s] 9)).alloc (.cells #[.func (.func 69) #[] #[.pointer (some ⟨w.heap.size + 1, 0, none⟩)]] 37))) w.heap.size (w.heap.size + 1 + 1 + 1) (-1) (by simp) (by omega)) (bdrewN (Below.refl _ _) _), (by repeat (first | exact Below.refl _ _ | (refine Below.alloc ?_ (by first | (simp; done) | (simp; omega)) _) | (refine bdrewN ?_ _)))⟩
set_option maxRecDepth 100000 in
set_option maxHeartbeats 1000000 in
theorem pieceW6_b (s : ByteArray) (md : Int) (w : World) (hs : 0 < s.size) (u v : Int) (hu : u ≤ 65535) (_hv : v ≤ 65535) (HU : Hid (UnitC 6 s 0 u)) (_HV : Hid (UnitC 6 s 2 v)) (h0 : 56320 ≤ u) (h1 : u ≤ 57343) : Calls Try.prog 43 #[.int .i64 6, .string s, .int .i64 md] w (PP w [-1] 2 0) := by
  go_enter Try.func43, Try.ntmps43
  go_wp2_with fail
  refine (HU.out ⟨w.heap.size + 1 + 1, 0, none⟩ ⟨w.heap.size, 0, none⟩ ⟨w.heap.size + 1, 0, none⟩ _ (by simp [go_sem]) (by simp [go_sem]) (by simp [go_sem])).mono ?_
  rintro r w1 ⟨rfl, n1, rfl⟩
  go_wp2_with fail
  refine (inR_yes _ _ _ _ (by omega) (by omega)).mono ?_
  rintro r w' ⟨rfl, rfl⟩
  go_wp2_with fail
  go_ret3
  exact ⟨_, rfl, Out.below (Out.one' ((((w.alloc (.cells #[.int .i64 6] 3)).alloc (.cells #[.string s] 9)).alloc (.cells #[.func (.func 69) #[] #[.pointer (some ⟨w.heap.size + 1, 0, none⟩)]] 37))) w.heap.size (w.heap.size + 1 + 1 + 1) (-1) (by simp) (by omega)) (bdrewN (Below.refl _ _) _), (by repeat (first | exact Below.refl _ _ | (refine Below.alloc ?_ (by first | (simp; done) | (simp; omega)) _) | (refine bdrewN ?_ _)))⟩
set_option maxRecDepth 100000 in
set_option maxHeartbeats 1000000 in
theorem pieceW6_c (s : ByteArray) (md : Int) (w : World) (hs : 0 < s.size) (u v : Int) (hu : u ≤ 65535) (_hv : v ≤ 65535) (HU : Hid (UnitC 6 s 0 u)) (_HV : Hid (UnitC 6 s 2 v)) (h0 : 0 ≤ u) (h : u < 55296 ∨ 57343 < u) : Calls Try.prog 43 #[.int .i64 6, .string s, .int .i64 md] w (PP w [u] 2 0) := by
  go_enter Try.func43, Try.ntmps43
  go_wp2_with fail
  refine (HU.out ⟨w.heap.size + 1 + 1, 0, none⟩ ⟨w.heap.size, 0, none⟩ ⟨w.heap.size + 1, 0, none⟩ _ (by simp [go_sem]) (by simp [go_sem]) (by simp [go_sem])).mono ?_
  rintro r w1 ⟨rfl, n1, rfl⟩
  go_wp2_with fail
  refine (inR_no _ _ _ _ (by omega)).mono ?_
  rintro r w' ⟨rfl, rfl⟩
  go_wp2_with fail
  refine (inR_no _ _ _ _ (by omega)).mono ?_
  rintro r w' ⟨rfl, rfl⟩
  go_wp2_with fail
  go_ret3
  exact ⟨_, rfl, Out.one' _ _ (w.heap.size + 1 + 1 + 1 + 1) _ (by simp) (by omega), (by repeat (first | exact Below.refl _ _ | (refine Below.alloc ?_ (by first | (simp; done) | (simp; omega)) _) | (refine bdrewN ?_ _)))⟩
set_option maxRecDepth 100000 in
set_option maxHeartbeats 1000000 in
theorem pieceW6_d (s : ByteArray) (md : Int) (w : World) (hs : 0 < s.size) (u v : Int) (hu : u ≤ 65535) (hv : v ≤ 65535) (HU : Hid (UnitC 6 s 0 u)) (HV : Hid (UnitC 6 s 2 v)) (h0 : 55296 ≤ u) (h1 : u ≤ 56319) (h2 : 56320 ≤ v) (h3 : v ≤ 57343) : Calls Try.prog 43 #[.int .i64 6, .string s, .int .i64 md] w (PP w [65536 + 1024 * (u - 55296) + v - 56320] 4 0) := by
  go_enter Try.func43, Try.ntmps43
  go_wp2_with fail
  refine (HU.out ⟨w.heap.size + 1 + 1, 0, none⟩ ⟨w.heap.size, 0, none⟩ ⟨w.heap.size + 1, 0, none⟩ _ (by simp [go_sem]) (by simp [go_sem]) (by simp [go_sem])).mono ?_
  rintro r w1 ⟨rfl, n1, rfl⟩
  go_wp2_with fail
  refine (inR_no _ _ _ _ (by omega)).mono ?_
  rintro r w' ⟨rfl, rfl⟩
  go_wp2_with fail
  refine (inR_yes _ _ _ _ (by omega) (by omega)).mono ?_
  rintro r w' ⟨rfl, rfl⟩
  go_wp2_with fail
  refine (HV.out ⟨w.heap.size + 1 + 1, 0, none⟩ ⟨w.heap.size, 0, none⟩ ⟨w.heap.size + 1, 0, none⟩ _ (by simp [go_sem]) (by simp [go_sem]) (by simp [go_sem])).mono ?_
  rintro r w2 ⟨rfl, n2, rfl⟩
  go_wp2_with fail
  refine (inR_yes _ _ _ _ (by omega) (by omega)).mono ?_
  rintro r w' ⟨rfl, rfl⟩
  go_wp2_with fail
  refine (HV.out ⟨w.heap.size + 1 + 1, 0, none⟩ ⟨w.heap.size, 0, none⟩ ⟨w.heap.size + 1, 0, none⟩ _ (by simp [go_sem]) (by simp [go_sem]) (by simp [go_sem])).mono ?_
  rintro r w3 ⟨rfl, n3, rfl⟩
  go_wp2_with fail
  go_ret3
  exact ⟨_, rfl, Out.one' _ _ (w.heap.size + 1 + 1 + 1 + 1) _ (by simp) (by omega), (by repeat (first | exact Below.refl _ _ | (refine Below.alloc ?_ (by first | (simp; done) | (simp; omega)) _) | (refine bdrewN ?_ _)))⟩
set_option maxRecDepth 100000 in
set_option maxHeartbeats 1000000 in
theorem pieceW6_e (s : ByteArray) (md : Int) (w : World) (hs : 0 < s.size) (u v : Int) (hu : u ≤ 65535) (_hv : v ≤ 65535) (HU : Hid (UnitC 6 s 0 u)) (HV : Hid (UnitC 6 s 2 v)) (h0 : 55296 ≤ u) (h1 : u ≤ 56319) (h2 : v < 0) : Calls Try.prog 43 #[.int .i64 6, .string s, .int .i64 md] w (PP w [-1] (s.size : Int) 0) := by
  go_enter Try.func43, Try.ntmps43
  go_wp2_with fail
  refine (HU.out ⟨w.heap.size + 1 + 1, 0, none⟩ ⟨w.heap.size, 0, none⟩ ⟨w.heap.size + 1, 0, none⟩ _ (by simp [go_sem]) (by simp [go_sem]) (by simp [go_sem])).mono ?_
  rintro r w1 ⟨rfl, n1, rfl⟩
  go_wp2_with fail
  refine (inR_no _ _ _ _ (by omega)).mono ?_
  rintro r w' ⟨rfl, rfl⟩
  go_wp2_with fail
  refine (inR_yes _ _ _ _ (by omega) (by omega)).mono ?_
  rintro r w' ⟨rfl, rfl⟩
  go_wp2_with fail
  refine (HV.out ⟨w.heap.size + 1 + 1, 0, none⟩ ⟨w.heap.size, 0, none⟩ ⟨w.heap.size + 1, 0, none⟩ _ (by simp [go_sem]) (by simp [go_sem]) (by simp [go_sem])).mono ?_
  rintro r w2 ⟨rfl, n2, rfl⟩
  go_wp2_with fail
  refine (inR_no _ _ _ _ (by omega)).mono ?_
  rintro r w' ⟨rfl, rfl⟩
  go_wp2_with fail
  refine (HV.out ⟨w.heap.size + 1 + 1, 0, none⟩ ⟨w.heap.size, 0, none⟩ ⟨w.heap.size + 1, 0, none⟩ _ (by simp [go_sem]) (by simp [go_sem]) (by simp [go_sem])).mono ?_
  rintro r w3 ⟨rfl, n3, rfl⟩
  go_wp2_with fail
  go_quiet (fail)
  go_wp2_with fail
  go_ret3
  exact ⟨_, rfl, Out.below (Out.one' ((((w.alloc (.cells #[.int .i64 6] 3)).alloc (.cells #[.string s] 9)).alloc (.cells #[.func (.func 69) #[] #[.pointer (some ⟨w.heap.size + 1, 0, none⟩)]] 37))) w.heap.size (w.heap.size + 1 + 1 + 1) (-1) (by simp) (by omega)) (bdrewN (bdrewN (Below.refl _ _) _) _), (by repeat (first | exact Below.refl _ _ | (refine Below.alloc ?_ (by first | (simp; done) | (simp; omega)) _) | (refine bdrewN ?_ _)))⟩
set_option maxRecDepth 100000 in
set_option maxHeartbeats 1000000 in
theorem pieceW6_f (s : ByteArray) (md : Int) (w : World) (hs : 0 < s.size) (u v : Int) (hu : u ≤ 65535) (hv : v ≤ 65535) (HU : Hid (UnitC 6 s 0 u)) (HV : Hid (UnitC 6 s 2 v)) (h0 : 55296 ≤ u) (h1 : u ≤ 56319) (h2 : 0 ≤ v) (h3 : v < 56320 ∨ 57343 < v) : Calls Try.prog 43 #[.int .i64 6, .string s, .int .i64 md] w (PP w [-1] 2 0) := by
  go_enter Try.func43, Try.ntmps43
  go_wp2_with fail
  refine (HU.out ⟨w.heap.size + 1 + 1, 0, none⟩ ⟨w.heap.size, 0, none⟩ ⟨w.heap.size + 1, 0, none⟩ _ (by simp [go_sem]) (by simp [go_sem]) (by simp [go_sem])).mono ?_
  rintro r w1 ⟨rfl, n1, rfl⟩
  go_wp2_with fail
  refine (inR_no _ _ _ _ (by omega)).mono ?_
  rintro r w' ⟨rfl, rfl⟩
  go_wp2_with fail
  refine (inR_yes _ _ _ _ (by omega) (by omega)).mono ?_
  rintro r w' ⟨rfl, rfl⟩
  go_wp2_with fail
  refine (HV.out ⟨w.heap.size + 1 + 1, 0, none⟩ ⟨w.heap.size, 0, none⟩ ⟨w.heap.size + 1, 0, none⟩ _ (by simp [go_sem]) (by simp [go_sem]) (by simp [go_sem])).mono ?_
  rintro r w2 ⟨rfl, n2, rfl⟩
  go_wp2_with fail
  refine (inR_no _ _ _ _ (by omega)).mono ?_
  rintro r w' ⟨rfl, rfl⟩
  go_wp2_with fail
  refine (HV.out ⟨w.heap.size + 1 + 1, 0, none⟩ ⟨w.heap.size, 0, none⟩ ⟨w.heap.size + 1, 0, none⟩ _ (by simp [go_sem]) (by simp [go_sem]) (by simp [go_sem])).mono ?_
  rintro r w3 ⟨rfl, n3, rfl⟩
  go_wp2_with fail
  go_ret3
  exact ⟨_, rfl, Out.below (Out.one' ((((w.alloc (.cells #[.int .i64 6] 3)).alloc (.cells #[.string s] 9)).alloc (.cells #[.func (.func 69) #[] #[.pointer (some ⟨w.heap.size + 1, 0, none⟩)]] 37))) w.heap.size (w.heap.size + 1 + 1 + 1) (-1) (by simp) (by omega)) (bdrewN (Below.refl _ _) _), (by repeat (first | exact Below.refl _ _ | (refine Below.alloc ?_ (by first | (simp; done) | (simp; omega)) _) | (refine bdrewN ?_ _)))⟩
end Go.Proofs.Ytloaemijhggheaa
