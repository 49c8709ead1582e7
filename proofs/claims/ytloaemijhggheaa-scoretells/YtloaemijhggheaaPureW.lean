/- Plain mathematics: the pieces of Low and High. -/
import Derived.Test.YtloaemijhggheaaQT
import Derived.Test.YtloaemijhggheaaPieceV
namespace Go.Proofs.Ytloaemijhggheaa
open Go.RowKit

theorem list_at (s : ByteArray) (k : Nat) (h : k < s.size) : s.data.toList.drop k = s[k] :: s.data.toList.drop (k + 1) := by
  rw [List.drop_eq_getElem_cons (by simpa using h)]
  rfl
theorem ul5 (s : ByteArray) (i : Nat) (h : i + 1 < s.size) : ul 5 s i = nb s[i + 1] * 256 + nb s[i] := by
  have h1 := nb_nonneg s[i]; have h2 := nb_nonneg s[i + 1]
  unfold ul
  rw [gl_at s i (by omega), gl_at s (i + 1) h, if_neg (by omega), if_pos rfl]
  omega
theorem ul6 (s : ByteArray) (i : Nat) (h : i + 1 < s.size) : ul 6 s i = nb s[i] * 256 + nb s[i + 1] := by
  have h1 := nb_nonneg s[i]; have h2 := nb_nonneg s[i + 1]
  unfold ul
  rw [gl_at s i (by omega), gl_at s (i + 1) h, if_neg (by omega), if_neg (by omega)]
  omega
theorem ul_off (e : Int) (s : ByteArray) (i : Nat) (h : s.size ≤ i + 1) : ul e s i = -1 := by
  unfold ul
  rw [gl_off s (i + 1) h, if_pos (by omega)]
theorem leadsB_of {u : Int} (h1 : 55296 ≤ u) (h2 : u ≤ 56319) : leadsB u = true := by simp [leadsB]; omega
theorem leadsB_not {u : Int} (h : u < 55296 ∨ 56319 < u) : leadsB u = false := by simp [leadsB]; omega
theorem trailsB_of {u : Int} (h1 : 56320 ≤ u) (h2 : u ≤ 57343) : trailsB u = true := by simp [trailsB]; omega
theorem trailsB_not {u : Int} (h : u < 56320 ∨ 57343 < u) : trailsB u = false := by simp [trailsB]; omega
theorem decL_nil (q : Int × Option UInt8) : decL q [] = loFin q := Mach.dec_nil (M := mLo) q
theorem decL_refuse {q q' : Int × Option UInt8} {b : UInt8} {l : List Int} (r : List UInt8) (hq : loOk q) (h : loOffer q b = (q', l, true)) : decL q (b :: r) = l ++ decL q' (b :: r) := conLo.refuse r hq h
theorem lo_first (x : UInt8) (r : List UInt8) (h : Int) : decL (h, none) (x :: r) = decL (h, some x) r := decL_once (q := (h, none)) r (l := []) rfl
theorem lo_trail (x y : UInt8) (r : List UInt8) (u : Int) (hu : nb y * 256 + nb x = u) (h1 : leadsB u = false) (h2 : trailsB u = true) : decL (0, none) (x :: y :: r) = -1 :: decL (0, none) r := by
  have b : loOffer (0, some x) y = ((0, none), [-1], false) := by
    simp [loOffer, unitO, hu, h1, h2]
  rw [lo_first, decL_once _ b]; rfl
theorem lo_lead (x y : UInt8) (r : List UInt8) (u : Int) (hu : nb y * 256 + nb x = u) (h1 : leadsB u = true) : decL (0, none) (x :: y :: r) = decL (u, none) r := by
  have b : loOffer (0, some x) y = ((u, none), [], false) := by
    simp [loOffer, unitO, hu, h1]
  rw [lo_first, decL_once _ b]; rfl
theorem lo_half (z t : UInt8) (r : List UInt8) (u v : Int) (hv : nb t * 256 + nb z = v) (h1 : leadsB u = true) (h2 : trailsB v = false) (h0 : u ≠ 0) : decL (u, none) (z :: t :: r) = -1 :: decL (0, none) (z :: t :: r) := by
  have d : loOffer (u, some z) t = ((0, some z), [-1], true) := by
    simp [loOffer, hv, h2, h0]
  rw [lo_first, lo_first, decL_refuse _ (Or.inr h1) d]; rfl
theorem piecesLo : Pieces 5 mLo (fun _ => (0, none)) (fun md => md = 0) where
  start := ⟨rfl, rfl⟩
  done := fun _ _ => rfl
  piece := fun s md hs _ _ => by
    have hl := list_of s hs
    show ∃ (l : List Int) (n : Nat) (m : Int), m = 0 ∧ 0 < n ∧ n ≤ s.size ∧ l.length ≤ 1 ∧ _ ∧ decL (0, none) s.data.toList = l ++ decL (0, none) (s.data.toList.drop n)
    have HU := hid (unit0_any 5 s)
    have HV := hid (unit2_any 5 s)
    have bu := (ul_lt 5 s 0).2
    have bv := (ul_lt 5 s 2).2
    by_cases z1 : 1 < s.size
    · have hl1 := list_at s 1 z1
      have hu := ul5 s 0 z1
      have r0 := nb_lt s[0]; have r1 := nb_nonneg s[0]; have r2 := nb_lt s[1]; have r3 := nb_nonneg s[1]
      have hu' : nb s[1] * 256 + nb s[0] = ul 5 s 0 := hu.symm
      by_cases c1 : 56320 ≤ ul 5 s 0 ∧ ul 5 s 0 ≤ 57343
      · refine ⟨[-1], 2, 0, rfl, by omega, by omega, Nat.le_refl 1, fun w => pieceW5_b s md w hs _ _ bu bv HU HV c1.1 c1.2, ?_⟩
        conv => lhs; rw [hl, hl1, lo_trail _ _ _ _ hu' (leadsB_not (by omega)) (trailsB_of c1.1 c1.2)]
        rfl
      by_cases c2 : 55296 ≤ ul 5 s 0 ∧ ul 5 s 0 ≤ 56319
      · have hd : decL (0, none) s.data.toList = decL (ul 5 s 0, none) (s.data.toList.drop 2) := by conv => lhs; rw [hl, hl1, lo_lead _ _ _ _ hu' (leadsB_of c2.1 c2.2)]
        by_cases z3 : 3 < s.size
        · have hl2 := list_at s 2 (by omega)
          have hl3 := list_at s 3 z3
          have hv := ul5 s 2 z3
          have hv' : nb s[3] * 256 + nb s[2] = ul 5 s 2 := hv.symm
          have r4 := nb_nonneg s[2]; have r5 := nb_nonneg s[3]
          by_cases c3 : 56320 ≤ ul 5 s 2 ∧ ul 5 s 2 ≤ 57343
          · refine ⟨[65536 + 1024 * (ul 5 s 0 - 55296) + ul 5 s 2 - 56320], 4, 0, rfl, by omega, by omega, Nat.le_refl 1, fun w => pieceW5_d s md w hs _ _ bu bv HU HV c2.1 c2.2 c3.1 c3.2, ?_⟩
            conv => lhs; rw [hl, hl1, hl2, hl3, lo_pair _ _ _ _ _ _ _ hu' hv' (leadsB_of c2.1 c2.2) (trailsB_of c3.1 c3.2) (by omega)]
            rw [show 65536 + ul 5 s 0 % 1024 * 1024 + ul 5 s 2 % 1024 = 65536 + 1024 * (ul 5 s 0 - 55296) + ul 5 s 2 - 56320 by omega]
            rfl
          · refine ⟨[-1], 2, 0, rfl, by omega, by omega, Nat.le_refl 1, fun w => pieceW5_f s md w hs _ _ bu bv HU HV c2.1 c2.2 (by omega) (by omega), ?_⟩
            rw [hd, hl2, hl3, lo_half _ _ _ _ _ hv' (leadsB_of c2.1 c2.2) (trailsB_not (by omega)) (by omega)]
            rfl
        · have hv := ul_off 5 s 2 (by omega)
          refine ⟨[-1], s.size, 0, rfl, by omega, by omega, Nat.le_refl 1, fun w => pieceW5_e s md w hs _ _ bu bv HU HV c2.1 c2.2 (by omega), ?_⟩
          rw [hd, list_end s s.size (Nat.le_refl _), decL_nil]
          have n0 : ul 5 s 0 ≠ 0 := by omega
          by_cases z2 : 2 < s.size
          · rw [list_at s 2 z2, list_end s 3 (by omega), lo_first, decL_nil]; rfl
          · rw [list_end s 2 (by omega), decL_nil]
            simp [loFin, n0]
      · refine ⟨[ul 5 s 0], 2, 0, rfl, by omega, by omega, Nat.le_refl 1, fun w => pieceW5_c s md w hs _ _ bu bv HU HV (by omega) (by omega), ?_⟩
        conv => lhs; rw [hl, hl1, lo_unit _ _ _ _ hu' (leadsB_not (by omega)) (trailsB_not (by omega))]
        rfl
    · have hu := ul_off 5 s 0 (by omega)
      refine ⟨[-1], 1, 0, rfl, by omega, by omega, Nat.le_refl 1, fun w => pieceW5_a s md w hs _ _ bu bv HU HV (by omega), ?_⟩
      conv => lhs; rw [hl, list_end s 1 (by omega), lo_first, decL_nil]
      rw [list_end s 1 (by omega), decL_nil]
      rfl
theorem decH_nil (q : H) : decH q [] = H.fin q := Mach.dec_nil (M := mHi) q
theorem trB_of {b : UInt8} (h1 : 220 ≤ nb b) (h2 : nb b ≤ 223) : trB b = true := by simp [trB]; omega
theorem trB_not {b : UInt8} (h : nb b < 220 ∨ 223 < nb b) : trB b = false := by simp [trB]; omega
theorem hi_trail (x y : UInt8) (r : List UInt8) (h : trB y = true) : decH (.unit 0) (y :: x :: r) = -1 :: decH (.unit 0) r := by
  have a : H.offer (.unit 0) y = (.told y, [-1], false) := by simp [H.offer, h]
  have b : H.offer (.told y) x = (.unit 0, [], false) := by simp [H.offer, h]
  rw [decH_once _ a, decH_once _ b]; rfl
theorem hi_lead (x y : UInt8) (r : List UInt8) (u : Int) (hu : nb y * 256 + nb x = u) (h1 : leadsB u = true) (hy : trB y = false) : decH (.unit 0) (y :: x :: r) = decH (.unit u) r := by
  have a : H.offer (.unit 0) y = (.mid 0 y, [], false) := by simp [H.offer, hy]
  have b : H.offer (.mid 0 y) x = (.unit u, [], false) := by simp [H.offer, unitO, hu, h1]
  rw [decH_once _ a, decH_once _ b]; rfl
theorem hi_half (z t : UInt8) (r : List UInt8) (u : Int) (ht : trB t = false) (h0 : u ≠ 0) : decH (.unit u) (t :: z :: r) = -1 :: decH (.unit 0) (t :: z :: r) := by
  have a : H.offer (.unit u) t = (.told t, [-1], false) := by simp [H.offer, ht, h0]
  have b : H.offer (.told t) z = (.unit (unitO 0 (nb t * 256 + nb z)).1, (unitO 0 (nb t * 256 + nb z)).2, false) := by simp [H.offer, ht]
  have c : H.offer (.unit 0) t = (.mid 0 t, [], false) := by simp [H.offer, ht]
  have d : H.offer (.mid 0 t) z = (.unit (unitO 0 (nb t * 256 + nb z)).1, (unitO 0 (nb t * 256 + nb z)).2, false) := by simp [H.offer]
  rw [decH_once _ a, decH_once _ b, decH_once _ c, decH_once _ d]; rfl
theorem hi_last (y : UInt8) (u : Int) : decH (.unit u) [y] = [-1] := by
  by_cases hc : trB y = true ↔ u ≠ 0
  · have a : H.offer (.unit u) y = (.mid u y, [], false) := by simp only [H.offer]; rw [if_pos hc]
    rw [decH_once _ a, decH_nil]; rfl
  · have a : H.offer (.unit u) y = (.told y, [-1], false) := by simp only [H.offer]; rw [if_neg hc]
    rw [decH_once _ a, decH_nil]; rfl
theorem piecesHi : Pieces 6 mHi (fun _ => .unit 0) (fun md => md = 0) where
  start := ⟨rfl, rfl⟩
  done := fun _ _ => rfl
  piece := fun s md hs _ _ => by
    have hl := list_of s hs
    show ∃ (l : List Int) (n : Nat) (m : Int), m = 0 ∧ 0 < n ∧ n ≤ s.size ∧ l.length ≤ 1 ∧ _ ∧ decH (.unit 0) s.data.toList = l ++ decH (.unit 0) (s.data.toList.drop n)
    have HU := hid (unit0_any 6 s)
    have HV := hid (unit2_any 6 s)
    have bu := (ul_lt 6 s 0).2
    have bv := (ul_lt 6 s 2).2
    by_cases z1 : 1 < s.size
    · have hl1 := list_at s 1 z1
      have hu := ul6 s 0 z1
      have r0 := nb_lt s[0]; have r1 := nb_nonneg s[0]; have r2 := nb_lt s[1]; have r3 := nb_nonneg s[1]
      have hu' : nb s[0] * 256 + nb s[1] = ul 6 s 0 := hu.symm
      by_cases c1 : 56320 ≤ ul 6 s 0 ∧ ul 6 s 0 ≤ 57343
      · refine ⟨[-1], 2, 0, rfl, by omega, by omega, Nat.le_refl 1, fun w => pieceW6_b s md w hs _ _ bu bv HU HV c1.1 c1.2, ?_⟩
        conv => lhs; rw [hl, hl1, hi_trail _ _ _ (trB_of (by omega) (by omega))]
        rfl
      by_cases c2 : 55296 ≤ ul 6 s 0 ∧ ul 6 s 0 ≤ 56319
      · have hd : decH (.unit 0) s.data.toList = decH (.unit (ul 6 s 0)) (s.data.toList.drop 2) := by conv => lhs; rw [hl, hl1, hi_lead _ _ _ _ hu' (leadsB_of c2.1 c2.2) (trB_not (by omega))]
        by_cases z3 : 3 < s.size
        · have hl2 := list_at s 2 (by omega)
          have hl3 := list_at s 3 z3
          have hv := ul6 s 2 z3
          have hv' : nb s[2] * 256 + nb s[3] = ul 6 s 2 := hv.symm
          have r4 := nb_nonneg s[2]; have r5 := nb_nonneg s[3]; have r6 := nb_lt s[3]
          by_cases c3 : 56320 ≤ ul 6 s 2 ∧ ul 6 s 2 ≤ 57343
          · refine ⟨[65536 + 1024 * (ul 6 s 0 - 55296) + ul 6 s 2 - 56320], 4, 0, rfl, by omega, by omega, Nat.le_refl 1, fun w => pieceW6_d s md w hs _ _ bu bv HU HV c2.1 c2.2 c3.1 c3.2, ?_⟩
            conv => lhs; rw [hl, hl1, hl2, hl3, hi_pair _ _ _ _ _ _ _ hu' hv' (leadsB_of c2.1 c2.2) (trailsB_of c3.1 c3.2) (by omega)]
            rw [show 65536 + ul 6 s 0 % 1024 * 1024 + ul 6 s 2 % 1024 = 65536 + 1024 * (ul 6 s 0 - 55296) + ul 6 s 2 - 56320 by omega]
            rfl
          · refine ⟨[-1], 2, 0, rfl, by omega, by omega, Nat.le_refl 1, fun w => pieceW6_f s md w hs _ _ bu bv HU HV c2.1 c2.2 (by omega) (by omega), ?_⟩
            rw [hd, hl2, hl3, hi_half _ _ _ _ (trB_not (by omega)) (by omega)]
            rfl
        · have hv := ul_off 6 s 2 (by omega)
          refine ⟨[-1], s.size, 0, rfl, by omega, by omega, Nat.le_refl 1, fun w => pieceW6_e s md w hs _ _ bu bv HU HV c2.1 c2.2 (by omega), ?_⟩
          rw [hd, list_end s s.size (Nat.le_refl _), decH_nil]
          have n0 : ul 6 s 0 ≠ 0 := by omega
          by_cases z2 : 2 < s.size
          · rw [list_at s 2 z2, list_end s 3 (by omega), hi_last]; rfl
          · rw [list_end s 2 (by omega), decH_nil]
            simp [H.fin, n0]
      · refine ⟨[ul 6 s 0], 2, 0, rfl, by omega, by omega, Nat.le_refl 1, fun w => pieceW6_c s md w hs _ _ bu bv HU HV (by omega) (by omega), ?_⟩
        conv => lhs; rw [hl, hl1, hi_unit _ _ _ _ hu' (leadsB_not (by omega)) (trailsB_not (by omega))]
        rfl
    · have hu := ul_off 6 s 0 (by omega)
      refine ⟨[-1], 1, 0, rfl, by omega, by omega, Nat.le_refl 1, fun w => pieceW6_a s md w hs _ _ bu bv HU HV (by omega), ?_⟩
      conv => lhs; rw [hl, list_end s 1 (by omega), hi_last]
      rw [list_end s 1 (by omega), decH_nil]
      rfl
end Go.Proofs.Ytloaemijhggheaa
