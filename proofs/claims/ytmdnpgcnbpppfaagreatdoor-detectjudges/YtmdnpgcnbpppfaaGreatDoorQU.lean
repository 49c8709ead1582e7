/- 6 texts of this proof in one file: PureW, PureS, PureU, WholeW, IsRightW, AutoAW. -/
import Derived.Test.YtmdnpgcnbpppfaaGreatDoorQT
import Derived.Test.YtmdnpgcnbpppfaaGreatDoorPieceV
import Derived.Test.YtmdnpgcnbpppfaaGreatDoorQX
import Derived.Test.YtmdnpgcnbpppfaaGreatDoorPieceS
import Derived.Test.YtmdnpgcnbpppfaaGreatDoorPieceU3
import Derived.Test.YtmdnpgcnbpppfaaGreatDoorPieceU4
import Derived.Test.YtmdnpgcnbpppfaaGreatDoorQD
import Derived.Test.YtmdnpgcnbpppfaaGreatDoorQP
/- Plain mathematics: the pieces of Low and High. -/
namespace Go.Proofs.YtmdnpgcnbpppfaaGreatDoor
open Go.RowKit

theorem list_at (s : ByteArray) (k : Nat) (h : k < s.size) : s.data.toList.drop k = s[k] :: s.data.toList.drop (k + 1) := by
  rw [List.drop_eq_getElem_cons (by simpa using h)]
  rfl
theorem ul5 (s : ByteArray) (i : Nat) (h : i + 1 < s.size) : ul 5 s i = nb s[i + 1] * 256 + nb s[i] := by
  have h1 := nb_nonneg s[i]; have h2 := nb_nonneg s[i + 1]
  unfold ul
  rw [gl_at s i (by omega), gl_at s (i + 1) h, if_neg (by omega), if_pos rfl]
  omega
theorem ul6 (s : ByteArray) (i : Nat) (h : i + 1 < s.size) : ul 6 s i = nb s[i] * 256 + nb s[i + 1] := by
  have h1 := nb_nonneg s[i]; have h2 := nb_nonneg s[i + 1]
  unfold ul
  rw [gl_at s i (by omega), gl_at s (i + 1) h, if_neg (by omega), if_neg (by omega)]
  omega
theorem ul_off (e : Int) (s : ByteArray) (i : Nat) (h : s.size ≤ i + 1) : ul e s i = -1 := by
  unfold ul
  rw [gl_off s (i + 1) h, if_pos (by omega)]
theorem leadsB_of {u : Int} (h1 : 55296 ≤ u) (h2 : u ≤ 56319) : leadsB u = true := by simp [leadsB]; omega
theorem leadsB_not {u : Int} (h : u < 55296 ∨ 56319 < u) : leadsB u = false := by simp [leadsB]; omega
theorem trailsB_of {u : Int} (h1 : 56320 ≤ u) (h2 : u ≤ 57343) : trailsB u = true := by simp [trailsB]; omega
theorem trailsB_not {u : Int} (h : u < 56320 ∨ 57343 < u) : trailsB u = false := by simp [trailsB]; omega
theorem decL_nil (q : Int × Option UInt8) : decL q [] = loFin q := Mach.dec_nil (M := mLo) q
theorem decL_refuse {q q' : Int × Option UInt8} {b : UInt8} {l : List Int} (r : List UInt8) (hq : loOk q) (h : loOffer q b = (q', l, true)) : decL q (b :: r) = l ++ decL q' (b :: r) := conLo.refuse r hq h
theorem lo_first (x : UInt8) (r : List UInt8) (h : Int) : decL (h, none) (x :: r) = decL (h, some x) r := decL_once (q := (h, none)) r (l := []) rfl
theorem lo_trail (x y : UInt8) (r : List UInt8) (u : Int) (hu : nb y * 256 + nb x = u) (h1 : leadsB u = false) (h2 : trailsB u = true) : decL (0, none) (x :: y :: r) = -1 :: decL (0, none) r := by
  have b : loOffer (0, some x) y = ((0, none), [-1], false) := by
    simp [loOffer, unitO, hu, h1, h2]
  rw [lo_first, decL_once _ b]; rfl
theorem lo_lead (x y : UInt8) (r : List UInt8) (u : Int) (hu : nb y * 256 + nb x = u) (h1 : leadsB u = true) : decL (0, none) (x :: y :: r) = decL (u, none) r := by
  have b : loOffer (0, some x) y = ((u, none), [], false) := by
    simp [loOffer, unitO, hu, h1]
  rw [lo_first, decL_once _ b]; rfl
theorem lo_half (z t : UInt8) (r : List UInt8) (u v : Int) (hv : nb t * 256 + nb z = v) (h1 : leadsB u = true) (h2 : trailsB v = false) (h0 : u ≠ 0) : decL (u, none) (z :: t :: r) = -1 :: decL (0, none) (z :: t :: r) := by
  have d : loOffer (u, some z) t = ((0, some z), [-1], true) := by
    simp [loOffer, hv, h2, h0]
  rw [lo_first, lo_first, decL_refuse _ (Or.inr h1) d]; rfl
theorem piecesLo : Pieces 5 mLo (fun _ => (0, none)) (fun md => md = 0) where
  start := ⟨rfl, rfl⟩
  done := fun _ _ => rfl
  piece := fun s md hs _ _ => by
    have hl := list_of s hs
    show ∃ (l : List Int) (n : Nat) (m : Int), m = 0 ∧ 0 < n ∧ n ≤ s.size ∧ l.length ≤ 1 ∧ _ ∧ decL (0, none) s.data.toList = l ++ decL (0, none) (s.data.toList.drop n)
    have HU := hid (unit0_any 5 s)
    have HV := hid (unit2_any 5 s)
    have bu := (ul_lt 5 s 0).2
    have bv := (ul_lt 5 s 2).2
    by_cases z1 : 1 < s.size
    · have hl1 := list_at s 1 z1
      have hu := ul5 s 0 z1
      have r0 := nb_lt s[0]; have r1 := nb_nonneg s[0]; have r2 := nb_lt s[1]; have r3 := nb_nonneg s[1]
      have hu' : nb s[1] * 256 + nb s[0] = ul 5 s 0 := hu.symm
      by_cases c1 : 56320 ≤ ul 5 s 0 ∧ ul 5 s 0 ≤ 57343
      · refine ⟨[-1], 2, 0, rfl, by omega, by omega, Nat.le_refl 1, fun w => pieceW5_b s md w hs _ _ bu bv HU HV c1.1 c1.2, ?_⟩
        conv => lhs; rw [hl, hl1, lo_trail _ _ _ _ hu' (leadsB_not (by omega)) (trailsB_of c1.1 c1.2)]
        rfl
      by_cases c2 : 55296 ≤ ul 5 s 0 ∧ ul 5 s 0 ≤ 56319
      · have hd : decL (0, none) s.data.toList = decL (ul 5 s 0, none) (s.data.toList.drop 2) := by conv => lhs; rw [hl, hl1, lo_lead _ _ _ _ hu' (leadsB_of c2.1 c2.2)]
        by_cases z3 : 3 < s.size
        · have hl2 := list_at s 2 (by omega)
          have hl3 := list_at s 3 z3
          have hv := ul5 s 2 z3
          have hv' : nb s[3] * 256 + nb s[2] = ul 5 s 2 := hv.symm
          have r4 := nb_nonneg s[2]; have r5 := nb_nonneg s[3]
          by_cases c3 : 56320 ≤ ul 5 s 2 ∧ ul 5 s 2 ≤ 57343
          · refine ⟨[65536 + 1024 * (ul 5 s 0 - 55296) + ul 5 s 2 - 56320], 4, 0, rfl, by omega, by omega, Nat.le_refl 1, fun w => pieceW5_d s md w hs _ _ bu bv HU HV c2.1 c2.2 c3.1 c3.2, ?_⟩
            conv => lhs; rw [hl, hl1, hl2, hl3, lo_pair _ _ _ _ _ _ _ hu' hv' (leadsB_of c2.1 c2.2) (trailsB_of c3.1 c3.2) (by omega)]
            rw [show 65536 + ul 5 s 0 % 1024 * 1024 + ul 5 s 2 % 1024 = 65536 + 1024 * (ul 5 s 0 - 55296) + ul 5 s 2 - 56320 by omega]
            rfl
          · refine ⟨[-1], 2, 0, rfl, by omega, by omega, Nat.le_refl 1, fun w => pieceW5_f s md w hs _ _ bu bv HU HV c2.1 c2.2 (by omega) (by omega), ?_⟩
            rw [hd, hl2, hl3, lo_half _ _ _ _ _ hv' (leadsB_of c2.1 c2.2) (trailsB_not (by omega)) (by omega)]
            rfl
        · have hv := ul_off 5 s 2 (by omega)
          refine ⟨[-1], s.size, 0, rfl, by omega, by omega, Nat.le_refl 1, fun w => pieceW5_e s md w hs _ _ bu bv HU HV c2.1 c2.2 (by omega), ?_⟩
          rw [hd, list_end s s.size (Nat.le_refl _), decL_nil]
          have n0 : ul 5 s 0 ≠ 0 := by omega
          by_cases z2 : 2 < s.size
          · rw [list_at s 2 z2, list_end s 3 (by omega), lo_first, decL_nil]; rfl
          · rw [list_end s 2 (by omega), decL_nil]
            simp [loFin, n0]
      · refine ⟨[ul 5 s 0], 2, 0, rfl, by omega, by omega, Nat.le_refl 1, fun w => pieceW5_c s md w hs _ _ bu bv HU HV (by omega) (by omega), ?_⟩
        conv => lhs; rw [hl, hl1, lo_unit _ _ _ _ hu' (leadsB_not (by omega)) (trailsB_not (by omega))]
        rfl
    · have hu := ul_off 5 s 0 (by omega)
      refine ⟨[-1], 1, 0, rfl, by omega, by omega, Nat.le_refl 1, fun w => pieceW5_a s md w hs _ _ bu bv HU HV (by omega), ?_⟩
      conv => lhs; rw [hl, list_end s 1 (by omega), lo_first, decL_nil]
      rw [list_end s 1 (by omega), decL_nil]
      rfl
theorem decH_nil (q : H) : decH q [] = H.fin q := Mach.dec_nil (M := mHi) q
theorem trB_of {b : UInt8} (h1 : 220 ≤ nb b) (h2 : nb b ≤ 223) : trB b = true := by simp [trB]; omega
theorem trB_not {b : UInt8} (h : nb b < 220 ∨ 223 < nb b) : trB b = false := by simp [trB]; omega
theorem hi_trail (x y : UInt8) (r : List UInt8) (h : trB y = true) : decH (.unit 0) (y :: x :: r) = -1 :: decH (.unit 0) r := by
  have a : H.offer (.unit 0) y = (.told y, [-1], false) := by simp [H.offer, h]
  have b : H.offer (.told y) x = (.unit 0, [], false) := by simp [H.offer, h]
  rw [decH_once _ a, decH_once _ b]; rfl
theorem hi_lead (x y : UInt8) (r : List UInt8) (u : Int) (hu : nb y * 256 + nb x = u) (h1 : leadsB u = true) (hy : trB y = false) : decH (.unit 0) (y :: x :: r) = decH (.unit u) r := by
  have a : H.offer (.unit 0) y = (.mid 0 y, [], false) := by simp [H.offer, hy]
  have b : H.offer (.mid 0 y) x = (.unit u, [], false) := by simp [H.offer, unitO, hu, h1]
  rw [decH_once _ a, decH_once _ b]; rfl
theorem hi_half (z t : UInt8) (r : List UInt8) (u : Int) (ht : trB t = false) (h0 : u ≠ 0) : decH (.unit u) (t :: z :: r) = -1 :: decH (.unit 0) (t :: z :: r) := by
  have a : H.offer (.unit u) t = (.told t, [-1], false) := by simp [H.offer, ht, h0]
  have b : H.offer (.told t) z = (.unit (unitO 0 (nb t * 256 + nb z)).1, (unitO 0 (nb t * 256 + nb z)).2, false) := by simp [H.offer, ht]
  have c : H.offer (.unit 0) t = (.mid 0 t, [], false) := by simp [H.offer, ht]
  have d : H.offer (.mid 0 t) z = (.unit (unitO 0 (nb t * 256 + nb z)).1, (unitO 0 (nb t * 256 + nb z)).2, false) := by simp [H.offer]
  rw [decH_once _ a, decH_once _ b, decH_once _ c, decH_once _ d]; rfl
theorem hi_last (y : UInt8) (u : Int) : decH (.unit u) [y] = [-1] := by
  by_cases hc : trB y = true ↔ u ≠ 0
  · have a : H.offer (.unit u) y = (.mid u y, [], false) := by simp only [H.offer]; rw [if_pos hc]
    rw [decH_once _ a, decH_nil]; rfl
  · have a : H.offer (.unit u) y = (.told y, [-1], false) := by simp only [H.offer]; rw [if_neg hc]
    rw [decH_once _ a, decH_nil]; rfl
theorem piecesHi : Pieces 6 mHi (fun _ => .unit 0) (fun md => md = 0) where
  start := ⟨rfl, rfl⟩
  done := fun _ _ => rfl
  piece := fun s md hs _ _ => by
    have hl := list_of s hs
    show ∃ (l : List Int) (n : Nat) (m : Int), m = 0 ∧ 0 < n ∧ n ≤ s.size ∧ l.length ≤ 1 ∧ _ ∧ decH (.unit 0) s.data.toList = l ++ decH (.unit 0) (s.data.toList.drop n)
    have HU := hid (unit0_any 6 s)
    have HV := hid (unit2_any 6 s)
    have bu := (ul_lt 6 s 0).2
    have bv := (ul_lt 6 s 2).2
    by_cases z1 : 1 < s.size
    · have hl1 := list_at s 1 z1
      have hu := ul6 s 0 z1
      have r0 := nb_lt s[0]; have r1 := nb_nonneg s[0]; have r2 := nb_lt s[1]; have r3 := nb_nonneg s[1]
      have hu' : nb s[0] * 256 + nb s[1] = ul 6 s 0 := hu.symm
      by_cases c1 : 56320 ≤ ul 6 s 0 ∧ ul 6 s 0 ≤ 57343
      · refine ⟨[-1], 2, 0, rfl, by omega, by omega, Nat.le_refl 1, fun w => pieceW6_b s md w hs _ _ bu bv HU HV c1.1 c1.2, ?_⟩
        conv => lhs; rw [hl, hl1, hi_trail _ _ _ (trB_of (by omega) (by omega))]
        rfl
      by_cases c2 : 55296 ≤ ul 6 s 0 ∧ ul 6 s 0 ≤ 56319
      · have hd : decH (.unit 0) s.data.toList = decH (.unit (ul 6 s 0)) (s.data.toList.drop 2) := by conv => lhs; rw [hl, hl1, hi_lead _ _ _ _ hu' (leadsB_of c2.1 c2.2) (trB_not (by omega))]
        by_cases z3 : 3 < s.size
        · have hl2 := list_at s 2 (by omega)
          have hl3 := list_at s 3 z3
          have hv := ul6 s 2 z3
          have hv' : nb s[2] * 256 + nb s[3] = ul 6 s 2 := hv.symm
          have r4 := nb_nonneg s[2]; have r5 := nb_nonneg s[3]; have r6 := nb_lt s[3]
          by_cases c3 : 56320 ≤ ul 6 s 2 ∧ ul 6 s 2 ≤ 57343
          · refine ⟨[65536 + 1024 * (ul 6 s 0 - 55296) + ul 6 s 2 - 56320], 4, 0, rfl, by omega, by omega, Nat.le_refl 1, fun w => pieceW6_d s md w hs _ _ bu bv HU HV c2.1 c2.2 c3.1 c3.2, ?_⟩
            conv => lhs; rw [hl, hl1, hl2, hl3, hi_pair _ _ _ _ _ _ _ hu' hv' (leadsB_of c2.1 c2.2) (trailsB_of c3.1 c3.2) (by omega)]
            rw [show 65536 + ul 6 s 0 % 1024 * 1024 + ul 6 s 2 % 1024 = 65536 + 1024 * (ul 6 s 0 - 55296) + ul 6 s 2 - 56320 by omega]
            rfl
          · refine ⟨[-1], 2, 0, rfl, by omega, by omega, Nat.le_refl 1, fun w => pieceW6_f s md w hs _ _ bu bv HU HV c2.1 c2.2 (by omega) (by omega), ?_⟩
            rw [hd, hl2, hl3, hi_half _ _ _ _ (trB_not (by omega)) (by omega)]
            rfl
        · have hv := ul_off 6 s 2 (by omega)
          refine ⟨[-1], s.size, 0, rfl, by omega, by omega, Nat.le_refl 1, fun w => pieceW6_e s md w hs _ _ bu bv HU HV c2.1 c2.2 (by omega), ?_⟩
          rw [hd, list_end s s.size (Nat.le_refl _), decH_nil]
          have n0 : ul 6 s 0 ≠ 0 := by omega
          by_cases z2 : 2 < s.size
          · rw [list_at s 2 z2, list_end s 3 (by omega), hi_last]; rfl
          · rw [list_end s 2 (by omega), decH_nil]
            simp [H.fin, n0]
      · refine ⟨[ul 6 s 0], 2, 0, rfl, by omega, by omega, Nat.le_refl 1, fun w => pieceW6_c s md w hs _ _ bu bv HU HV (by omega) (by omega), ?_⟩
        conv => lhs; rw [hl, hl1, hi_unit _ _ _ _ hu' (leadsB_not (by omega)) (trailsB_not (by omega))]
        rfl
    · have hu := ul_off 6 s 0 (by omega)
      refine ⟨[-1], 1, 0, rfl, by omega, by omega, Nat.le_refl 1, fun w => pieceW6_a s md w hs _ _ bu bv HU HV (by omega), ?_⟩
      conv => lhs; rw [hl, list_end s 1 (by omega), hi_last]
      rw [list_end s 1 (by omega), decH_nil]
      rfl
end Go.Proofs.YtmdnpgcnbpppfaaGreatDoor

/- Plain mathematics: the pieces of Latin and Shift. -/
namespace Go.Proofs.YtmdnpgcnbpppfaaGreatDoor
open Go.RowKit

theorem lat5_iff (b : UInt8) : lat5 b = true ↔ (nb b = 129 ∨ nb b = 141 ∨ nb b = 143 ∨ nb b = 144 ∨ nb b = 157) := by
  have key : ∀ k : UInt8, b = k ↔ nb b = nb k := fun k => ⟨fun h => by rw [h], fun h => UInt8.toNat_inj.1 (by unfold nb at h; omega)⟩
  unfold lat5
  simp only [Bool.or_eq_true, beq_iff_eq, key]
  simp [nb, or_assoc]
def decLat (l : List UInt8) : List Int := mLat.dec () l
theorem decLat_once (b : UInt8) (r : List UInt8) : decLat (b :: r) = latinL b ++ decLat r := Mach.dec_once (M := mLat) (q := ()) (q' := ()) r rfl
theorem latA (b : UInt8) (h : lat5 b = true) : latinL b = [-1] := by
  have := (lat5_iff b).1 h
  unfold latinL; rw [if_neg (by omega), if_pos this]
theorem latB (b : UInt8) (h : lat5 b = false) (h1 : 128 ≤ nb b) (h2 : nb b ≤ 159) : latinL b = [8192 + nb b] := by
  have : ¬ (nb b = 129 ∨ nb b = 141 ∨ nb b = 143 ∨ nb b = 144 ∨ nb b = 157) := fun x => by rw [(lat5_iff b).2 x] at h; cases h
  unfold latinL; rw [if_neg (by omega), if_neg this]
theorem latC (b : UInt8) (h1 : nb b < 128 ∨ 159 < nb b) : latinL b = [nb b] := by
  unfold latinL; rw [if_pos (by omega)]
theorem piecesLat : Pieces 4 mLat (fun _ => ()) (fun md => md = 0) where
  start := ⟨rfl, rfl⟩
  done := fun _ _ => rfl
  piece := fun s md hs _ _ => by
    have hl := list_of s hs
    show ∃ (l : List Int) (n : Nat) (m : Int), m = 0 ∧ 0 < n ∧ n ≤ s.size ∧ l.length ≤ 1 ∧ _ ∧ decLat s.data.toList = l ++ decLat (s.data.toList.drop n)
    cases h5 : lat5 s[0] with
    | true => exact ⟨[-1], 1, 0, rfl, by omega, by omega, Nat.le_refl 1, fun w => pieceL_a s md w hs h5, by conv => lhs; rw [hl, decLat_once, latA _ h5]⟩
    | false =>
      by_cases h1 : (128 : Int) ≤ nb s[0] ∧ nb s[0] ≤ 159
      · exact ⟨[(8192 : Int) + nb s[0]], 1, 0, rfl, by omega, by omega, Nat.le_refl 1, fun w => pieceL_b s md w hs h5 h1.1 h1.2, by conv => lhs; rw [hl, decLat_once, latB _ h5 h1.1 h1.2]⟩
      · exact ⟨[nb s[0]], 1, 0, rfl, by omega, by omega, Nat.le_refl 1, fun w => pieceL_c s md w hs h5 (by unfold nb at h1; omega), by conv => lhs; rw [hl, decLat_once, latC _ (by omega)]⟩

/- Shift -/
def decS (q : Bool × K) (l : List UInt8) : List Int := mSh.dec q l
theorem decS_once {q q' : Bool × K} {b : UInt8} {l : List Int} (r : List UInt8) (h : shOffer q b = (q', l, false)) : decS q (b :: r) = l ++ decS q' r := Mach.dec_once (M := mSh) r h
theorem decS_refuse {q q' : Bool × K} {b : UInt8} {l : List Int} (r : List UInt8) (hq : shOk q) (h : shOffer q b = (q', l, true)) : decS q (b :: r) = l ++ decS q' (b :: r) := conSh.refuse r hq h
theorem decS_nil (q : Bool × K) : decS q [] = shFin q := Mach.dec_nil (M := mSh) q
theorem byte_of (b : UInt8) (k : UInt8) (h : nb b = nb k) : b = k := UInt8.toNat_inj.1 (by unfold nb at h; omega)
theorem sh_first (d : Bool) (b : UInt8) (r : List UInt8) : decS (d, .none) (b :: r) = (firstSh d b).2 ++ decS (firstSh d b).1 r := decS_once r rfl
theorem sh_esc (d : Bool) (r : List UInt8) : decS (d, .none) (27 :: r) = decS (d, .esc) r := by
  have : firstSh d 27 = ((d, .esc), []) := by unfold firstSh; rw [if_pos (by decide)]
  rw [sh_first, this]; rfl
theorem sh_par (d : Bool) (r : List UInt8) : decS (d, .esc) (40 :: r) = decS (d, .par) r := decS_once (l := []) r (by simp only [shOffer]; rw [if_pos (by decide)])
theorem sh_dol (d : Bool) (r : List UInt8) : decS (d, .esc) (36 :: r) = decS (d, .dol) r := decS_once (l := []) r (by simp only [shOffer]; rw [if_neg (by decide), if_pos (by decide)])
theorem sh_one (d : Bool) (r : List UInt8) : decS (d, .none) (27 :: 40 :: 66 :: r) = decS (false, .none) r := by
  rw [sh_esc, sh_par]
  exact decS_once (l := []) r (by simp only [shOffer]; rw [if_pos (by decide)])
theorem sh_two (d : Bool) (r : List UInt8) : decS (d, .none) (27 :: 36 :: 66 :: r) = decS (true, .none) r := by
  rw [sh_esc, sh_dol]
  exact decS_once (l := []) r (by simp only [shOffer]; rw [if_pos (by decide)])
theorem sh_bad (d : Bool) (r : List UInt8) (h1 : ∀ t, r ≠ 40 :: 66 :: t) (h2 : ∀ t, r ≠ 36 :: 66 :: t) : decS (d, .none) (27 :: r) = -1 :: decS (d, .none) r := by
  rw [sh_esc]
  match r, h1, h2 with
  | [], _, _ => rw [decS_nil, decS_nil]; rfl
  | c :: r, h1, h2 =>
    by_cases c1 : nb c = 40
    · obtain rfl := byte_of c 40 c1
      rw [sh_par, sh_first]
      match r, h1 with
      | [], _ =>
        rw [decS_nil, decS_nil]
        cases d <;> decide
      | x :: r, h1 =>
        have hx : ¬ nb x = 66 := fun e => h1 r (by rw [byte_of x 66 e])
        have : shOffer (d, .par) x = ((firstSh d 40).1, -1 :: (firstSh d 40).2, true) := by simp only [shOffer]; rw [if_neg hx]; rfl
        rw [decS_refuse r (show shOk (d, .par) from trivial) this]; rfl
    by_cases c2 : nb c = 36
    · obtain rfl := byte_of c 36 c2
      rw [sh_dol, sh_first]
      match r, h2 with
      | [], _ =>
        rw [decS_nil, decS_nil]
        cases d <;> decide
      | x :: r, h2 =>
        have hx : ¬ nb x = 66 := fun e => h2 r (by rw [byte_of x 66 e])
        have : shOffer (d, .dol) x = ((firstSh d 36).1, -1 :: (firstSh d 36).2, true) := by simp only [shOffer]; rw [if_neg hx]; rfl
        rw [decS_refuse r (show shOk (d, .dol) from trivial) this]; rfl
    have : shOffer (d, .esc) c = ((d, .none), [-1], true) := by simp only [shOffer]; rw [if_neg c1, if_neg c2]; rfl
    rw [decS_refuse r (show shOk (d, .esc) from trivial) this]; rfl
theorem sh_half (b : UInt8) (r : List UInt8) (h1 : 33 ≤ nb b) (h2 : nb b ≤ 126) : decS (true, .none) (b :: r) = decS (true, .half b) r := by
  have : firstSh true b = ((true, .half b), []) := by unfold firstSh firstD; rw [if_neg (by omega), if_pos rfl, if_neg (by omega), if_pos ⟨h1, h2⟩]
  rw [sh_first, this]; rfl
def qmS (md : Int) : Bool × K := (md == 1, .none)
theorem piecesSh : Pieces 2 mSh qmS (fun md => md = 0 ∨ md = 1) where
  start := ⟨rfl, Or.inl rfl⟩
  done := fun _ _ => rfl
  piece := fun s md hs _ hm => by
    have hl := list_of s hs
    have hb := nb_lt s[0]; have hb2 := nb_nonneg s[0]
    show ∃ (l : List Int) (n : Nat) (m : Int), (m = 0 ∨ m = 1) ∧ 0 < n ∧ n ≤ s.size ∧ l.length ≤ 1 ∧ _ ∧ decS (md == 1, .none) s.data.toList = l ++ decS (m == 1, .none) (s.data.toList.drop n)
    cases p1 : pre3 27 40 66 s with
    | true =>
      obtain ⟨r, hr⟩ := pre3_yes _ _ _ _ p1
      have hz : 3 ≤ s.size := by have := congrArg List.length hr; simp at this; omega
      exact ⟨[], 3, 0, Or.inl rfl, by omega, hz, Nat.zero_le _, fun w => pieceS_a s md w hs p1, by rw [hr, sh_one]; rfl⟩
    | false =>
    cases p2 : pre3 27 36 66 s with
    | true =>
      obtain ⟨r, hr⟩ := pre3_yes _ _ _ _ p2
      have hz : 3 ≤ s.size := by have := congrArg List.length hr; simp at this; omega
      exact ⟨[], 3, 1, Or.inr rfl, by omega, hz, Nat.zero_le _, fun w => pieceS_b s md w hs p1 p2, by rw [hr, sh_two]; rfl⟩
    | false =>
    have q1 := pre3_no _ _ _ _ p1
    have q2 := pre3_no _ _ _ _ p2
    by_cases b27 : nb s[0] = 27
    · have e27 := byte_of s[0] 27 b27
      refine ⟨[-1], 1, md, hm, by omega, by omega, Nat.le_refl 1, fun w => pieceS_c s md w hs p1 p2 b27, ?_⟩
      conv => lhs; rw [hl, e27]
      refine sh_bad _ _ (fun t ht => ?_) (fun t ht => ?_)
      · exact q1 t (by rw [hl, e27, ht])
      · exact q2 t (by rw [hl, e27, ht])
    have f27 : ((s[0].toNat : Int) == 27) = false := by simpa using b27
    rcases hm with rfl | rfl
    · have e0 : ((0 : Int) == 1) = false := rfl
      rw [e0]
      have one : ∀ l : List Int, firstSh false s[0] = ((false, .none), l) → decS (false, .none) s.data.toList = l ++ decS (false, .none) (s.data.toList.drop 1) := fun l h => by
        conv => lhs; rw [hl, sh_first, h]
      have bad : nb s[0] = 14 ∨ nb s[0] = 15 ∨ (127 : Int) < nb s[0] → firstSh false s[0] = ((false, .none), [-1]) := fun h => by
        unfold firstSh; rw [if_neg b27, if_neg (by simp), if_pos h]
      by_cases c1 : (127 : Int) < nb s[0]
      · exact ⟨[-1], 1, 0, Or.inl rfl, by omega, by omega, Nat.le_refl 1, fun w => pieceS_d1 s w hs p1 p2 c1, one _ (bad (by omega))⟩
      by_cases c2 : nb s[0] = 14
      · exact ⟨[-1], 1, 0, Or.inl rfl, by omega, by omega, Nat.le_refl 1, fun w => pieceS_d2 s w hs p1 p2 c2, one _ (bad (by omega))⟩
      by_cases c3 : nb s[0] = 15
      · exact ⟨[-1], 1, 0, Or.inl rfl, by omega, by omega, Nat.le_refl 1, fun w => pieceS_d3 s w hs p1 p2 c3, one _ (bad (by omega))⟩
      refine ⟨[nb s[0]], 1, 0, Or.inl rfl, by omega, by omega, Nat.le_refl 1, fun w => pieceS_e s w hs p1 p2 f27 (by unfold nb at c1; omega) (by simpa using c2) (by simpa using c3), one _ ?_⟩
      unfold firstSh; rw [if_neg b27, if_neg (by simp), if_neg (by omega)]
    · have e0 : ((1 : Int) == 1) = true := rfl
      rw [e0]
      by_cases c1 : nb s[0] = 10
      · refine ⟨[10], 1, 0, Or.inl rfl, by omega, by omega, Nat.le_refl 1, fun w => pieceS_f s w hs p1 p2 c1, ?_⟩
        have : firstSh true s[0] = ((false, .none), [10]) := by unfold firstSh firstD; rw [if_neg b27, if_pos rfl, if_pos c1, c1]
        conv => lhs; rw [hl, sh_first, this]
        rfl
      have f10 : ((s[0].toNat : Int) == 10) = false := by simpa using c1
      by_cases c2 : (33 : Int) ≤ nb s[0] ∧ nb s[0] ≤ 126
      · have hd : decS (true, .none) s.data.toList = decS (true, .half s[0]) (s.data.toList.drop 1) := by conv => lhs; rw [hl, sh_half _ _ c2.1 c2.2]
        have hok : shOk (true, .half s[0]) := ⟨rfl, c2.1, c2.2⟩
        by_cases hz : 1 < s.size
        · have hg := gl_at s 1 hz
          have hl1 := list_of1 s hz
          have hc := nb_lt s[1]; have hc0 := nb_nonneg s[1]
          by_cases a1 : (33 : Int) ≤ nb s[1] ∧ nb s[1] ≤ 126
          · refine ⟨[(12288 : Int) + (94 : Int) * (nb s[0] - (33 : Int)) + gl s 1 - 33], 2, 1, Or.inr rfl, by omega, by omega, Nat.le_refl 1, fun w => pieceS_h s w hs p1 p2 f27 f10 c2.1 c2.2 (by omega) (by omega), ?_⟩
            have : shOffer (true, .half s[0]) s[1] = ((true, .none), [(12288 : Int) + (94 : Int) * (nb s[0] - (33 : Int)) + nb s[1] - 33], false) := by simp only [shOffer]; unfold secondSh; rw [if_pos a1]
            rw [hd, hl1, decS_once _ this, hg]; rfl
          have sec : secondSh s[0] s[1] = ([-1], decide (nb s[1] = 27)) := by unfold secondSh; rw [if_neg a1]
          by_cases a2 : nb s[1] = 27
          · refine ⟨[-1], 1, 1, Or.inr rfl, by omega, by omega, Nat.le_refl 1, fun w => pieceS_i1 s w hs p1 p2 f27 f10 c2.1 c2.2 (by omega), ?_⟩
            have : shOffer (true, .half s[0]) s[1] = ((true, .none), [-1], true) := by simp only [shOffer]; rw [sec]; simp [a2]
            rw [hd, hl1, decS_refuse _ hok this]; rfl
          · refine ⟨[-1], 2, 1, Or.inr rfl, by omega, by omega, Nat.le_refl 1, fun w => pieceS_j s w hs p1 p2 f27 f10 c2.1 c2.2 (by omega) (by rw [hg]; simpa using a2) (by omega), ?_⟩
            have : shOffer (true, .half s[0]) s[1] = ((true, .none), [-1], false) := by simp only [shOffer]; rw [sec]; simp [a2]
            rw [hd, hl1, decS_once _ this]; rfl
        · have hg := gl_off s 1 (by omega)
          refine ⟨[-1], 1, 1, Or.inr rfl, by omega, by omega, Nat.le_refl 1, fun w => pieceS_i2 s w hs p1 p2 f27 f10 c2.1 c2.2 (by omega), ?_⟩
          rw [hd, list_end s 1 (by omega), decS_nil, decS_nil]; rfl
      · refine ⟨[-1], 1, 1, Or.inr rfl, by omega, by omega, Nat.le_refl 1, fun w => pieceS_g s w hs p1 p2 f27 f10 c2, ?_⟩
        have : firstSh true s[0] = ((true, .none), [-1]) := by unfold firstSh firstD; rw [if_neg b27, if_pos rfl, if_neg c1, if_neg c2]
        conv => lhs; rw [hl, sh_first, this]
        rfl
end Go.Proofs.YtmdnpgcnbpppfaaGreatDoor

/- Plain mathematics: the pieces of Utf. -/
namespace Go.Proofs.YtmdnpgcnbpppfaaGreatDoor
open Go.RowKit

theorem list_at' (s : ByteArray) (k : Nat) (h : k < s.size) : s.data.toList.drop k = s[k] :: s.data.toList.drop (k + 1) := by
  rw [List.drop_eq_getElem_cons (by simpa using h)]
  rfl
theorem decU_refuse {q q' : U} {b : UInt8} {l : List Int} (r : List UInt8) (hq : q.ok) (h : U.offer q b = (q', l, true)) : decU q (b :: r) = l ++ decU q' (b :: r) := conU.refuse r hq h
/-- What is told of a sequence is what the machine tells. -/
theorem uGo_dec (s : ByteArray) : ∀ (j k : Nat) (lo hi c : Int), 1 ≤ k → k ≤ s.size → U.ok (.seq ((j : Int) + 1) c) → lo = loU ((j : Int) + 1) c → hi = hiU ((j : Int) + 1) c →
    ∃ l n, uGo s (j + 1) k lo hi c = (l, n) ∧ l.length ≤ 1 ∧ k ≤ n ∧ n ≤ s.size ∧ decU (.seq ((j : Int) + 1) c) (s.data.toList.drop k) = l ++ decU .zero (s.data.toList.drop n) := by
  intro j
  induction j with
  | zero =>
    intro k lo hi c hk hz hok hlo hhi
    have e1 : ((0 : Nat) : Int) + 1 = 1 := rfl
    rw [e1] at hok hlo hhi ⊢
    rw [uGo]
    by_cases hs : k < s.size
    · rw [gl_at s k hs, list_at' s k hs]
      have hb := nb_lt s[k]; have hb0 := nb_nonneg s[k]
      by_cases hin : lo ≤ nb s[k] ∧ nb s[k] ≤ hi
      · rw [if_pos hin, uGo]
        refine ⟨_, _, rfl, Nat.le_refl 1, by omega, by omega, ?_⟩
        have h1 : lo = 128 := by rw [hlo]; unfold loU; rw [if_neg (by omega), if_neg (by omega)]
        have h2 : hi = 191 := by rw [hhi]; unfold hiU; rw [if_neg (by omega), if_neg (by omega)]
        rw [decU_once _ (offU_last c _ (by omega) (by omega))]
        rw [show 64 * c + nb s[k] - 128 = c * 64 + nb s[k] % 64 by omega]
      · rw [if_neg hin]
        refine ⟨_, _, rfl, Nat.le_refl 1, Nat.le_refl _, by omega, ?_⟩
        have : U.offer (.seq 1 c) s[k] = (.zero, [-1], true) := by simp only [U.offer]; rw [if_pos (by omega)]
        rw [decU_refuse _ hok this, list_at' s k hs]
    · rw [gl_off s k (by omega), list_end s k (by omega)]
      have h1 : 128 ≤ lo := by rw [hlo]; unfold loU; rw [if_neg (by omega), if_neg (by omega)]; omega
      rw [if_neg (by omega)]
      refine ⟨_, _, rfl, Nat.le_refl 1, Nat.le_refl _, by omega, ?_⟩
      rw [list_end s k (by omega), decU_nil, decU_nil]; rfl
  | succ j ih =>
    intro k lo hi c hk hz hok hlo hhi
    have hl128 : 128 ≤ lo := by rw [hlo]; unfold loU; repeat (first | omega | split)
    have hh191 : hi ≤ 191 := by rw [hhi]; unfold hiU; repeat (first | omega | split)
    rw [uGo]
    by_cases hs : k < s.size
    · rw [gl_at s k hs, list_at' s k hs]
      have hb := nb_lt s[k]; have hb0 := nb_nonneg s[k]
      by_cases hin : lo ≤ nb s[k] ∧ nb s[k] ≤ hi
      · rw [if_pos hin]
        have hoff := offU_more (((j + 1 : Nat) : Int) + 1) c s[k] (by omega) (by rw [← hlo]; exact hin.1) (by rw [← hhi]; exact hin.2)
        have hok2 := conU.law.step (.seq (((j + 1 : Nat) : Int) + 1) c) s[k] hok
        change U.ok (U.offer (.seq (((j + 1 : Nat) : Int) + 1) c) s[k]).1 at hok2
        rw [hoff] at hok2
        rw [decU_once _ hoff]
        have e2 : ((j + 1 : Nat) : Int) + 1 - 1 = (j : Int) + 1 := by omega
        have e3 : c * 64 + nb s[k] % 64 = 64 * c + nb s[k] - 128 := by omega
        rw [e2, e3] at hok2 ⊢
        change U.ok (.seq ((j : Int) + 1) (64 * c + nb s[k] - 128)) at hok2
        have hc : (j = 0) ∨ (j = 1 ∧ ¬ (64 * c + nb s[k] - 128 = 0) ∧ ¬ (64 * c + nb s[k] - 128 = 13)) := by
          simp only [U.ok] at hok
          by_cases hj : j = 0
          · exact Or.inl hj
          · refine Or.inr ⟨by omega, ?_, ?_⟩
            · intro e
              have c0 : c = 0 := by omega
              have : lo = 144 := by rw [hlo]; unfold loU; rw [if_neg (by omega), if_pos (by omega)]
              omega
            · intro e
              have c0 : c = 0 := by omega
              have : lo = 144 := by rw [hlo]; unfold loU; rw [if_neg (by omega), if_pos (by omega)]
              omega
        obtain ⟨l, n, h1, h2, h3, h4, h5⟩ := ih (k + 1) 128 191 (64 * c + nb s[k] - 128) (by omega) (by omega) hok2 (by unfold loU; rw [if_neg (by omega), if_neg (by omega)]) (by unfold hiU; rw [if_neg (by omega), if_neg (by omega)])
        exact ⟨l, n, h1, h2, by omega, h4, h5⟩
      · rw [if_neg hin]
        refine ⟨_, _, rfl, Nat.le_refl 1, Nat.le_refl _, by omega, ?_⟩
        have : U.offer (.seq (((j + 1 : Nat) : Int) + 1) c) s[k] = (.zero, [-1], true) := by simp only [U.offer]; rw [if_pos (by omega)]
        rw [decU_refuse _ hok this, list_at' s k hs]
    · rw [gl_off s k (by omega), list_end s k (by omega)]
      rw [if_neg (by omega)]
      refine ⟨_, _, rfl, Nat.le_refl 1, Nat.le_refl _, by omega, ?_⟩
      rw [list_end s k (by omega), decU_nil, decU_nil]; rfl
theorem offU_bad (b : UInt8) (h : 128 ≤ nb b) (h1 : nb b < 194 ∨ 244 < nb b) : U.offer .zero b = (.zero, [-1], false) := by
  simp only [U.offer]
  unfold firstU
  rw [if_neg (by omega), if_neg (by omega), if_neg (by omega), if_neg (by omega)]
theorem okU_step (q : U) (b : UInt8) (hq : U.ok q) : U.ok (U.offer q b).1 := conU.law.step q b hq
theorem okU_gen {b : UInt8} {p q : U} (hp : U.ok p) (h : U.offer p b = (q, [], false)) : q.ok := by
  have h1 := okU_step p b hp
  rw [h] at h1
  exact h1
theorem okU_of {b : UInt8} {q : U} (h : U.offer .zero b = (q, [], false)) : q.ok := okU_gen (p := .zero) trivial h
/-- From the first byte on. -/
theorem uPiece (s : ByteArray) (hs : 0 < s.size) (j : Nat) (lo hi c : Int) (md : Int) (hoff : U.offer .zero s[0] = (.seq ((j : Int) + 1) c, [], false)) (hok : U.ok (.seq ((j : Int) + 1) c)) (hlo : lo = loU ((j : Int) + 1) c) (hhi : hi = hiU ((j : Int) + 1) c)
    (H : ∀ (w : World) (l : List Int) (m : Nat), uGo s (j + 1) 1 lo hi c = (l, m) → Calls Tryz.prog 46 #[.int .i64 1, .string s, .int .i64 md] w (PP w l (m : Int) 0)) :
    ∃ (l : List Int) (n : Nat) (m : Int), m = 0 ∧ 0 < n ∧ n ≤ s.size ∧ l.length ≤ 1 ∧ (∀ w, Calls Tryz.prog 46 #[.int .i64 1, .string s, .int .i64 md] w (PP w l (n : Int) m)) ∧ decU .zero s.data.toList = l ++ decU .zero (s.data.toList.drop n) := by
  obtain ⟨l, n, h1, h2, h3, h4, h5⟩ := uGo_dec s j 1 lo hi c (Nat.le_refl 1) hs hok hlo hhi
  refine ⟨l, n, 0, rfl, by omega, h4, h2, fun w => H w l n h1, ?_⟩
  rw [← h5]
  conv => lhs; rw [list_of s hs, decU_once _ hoff]
  rfl
theorem piecesU : Pieces 1 mU (fun _ => .zero) (fun md => md = 0) where
  start := ⟨rfl, rfl⟩
  done := fun _ _ => rfl
  piece := fun s md hs _ _ => by
    have hl := list_of s hs
    have hb := nb_lt s[0]; have hb0 := nb_nonneg s[0]
    show ∃ (l : List Int) (n : Nat) (m : Int), m = 0 ∧ 0 < n ∧ n ≤ s.size ∧ l.length ≤ 1 ∧ _ ∧ decU .zero s.data.toList = l ++ decU .zero (s.data.toList.drop n)
    by_cases a1 : nb s[0] < (128 : Int)
    · exact ⟨[nb s[0]], 1, 0, rfl, by omega, by omega, Nat.le_refl 1, fun w => pieceU_a s md w hs a1, by conv => lhs; rw [hl, decU_once _ (offU_one _ a1)]⟩
    by_cases a2 : nb s[0] < (194 : Int) ∨ (244 : Int) < nb s[0]
    · exact ⟨[-1], 1, 0, rfl, by omega, by omega, Nat.le_refl 1, fun w => pieceU_b s md w hs (by unfold nb at a1; omega) a2, by conv => lhs; rw [hl, decU_once _ (offU_bad _ (by omega) a2)]⟩
    by_cases a3 : nb s[0] ≤ (223 : Int)
    · have ok := okU_of (offU_two s[0] (by omega) a3)
      exact uPiece s hs 0 128 191 (nb s[0] % 32) md (offU_two _ (by omega) a3) ok (by unfold loU; rw [if_neg (by omega), if_neg (by omega)]) (by unfold hiU; rw [if_neg (by omega), if_neg (by omega)]) fun w l m h => pieceU_2 s md w hs (by unfold nb at *; omega) a3 l m h
    by_cases a4 : nb s[0] ≤ (239 : Int)
    · have ok := okU_of (offU_three s[0] (by omega) a4)
      have off := offU_three s[0] (by omega) a4
      by_cases c1 : nb s[0] = (224 : Int)
      · exact uPiece s hs 1 160 191 (nb s[0] % 16) md off ok (by unfold loU; rw [if_pos (by omega)]) (by unfold hiU; rw [if_neg (by omega), if_neg (by omega)]) fun w l m h => pieceU_3a s md w hs c1 l m h
      by_cases c2 : nb s[0] = (237 : Int)
      · exact uPiece s hs 1 128 159 (nb s[0] % 16) md off ok (by unfold loU; rw [if_neg (by omega), if_neg (by omega)]) (by unfold hiU; rw [if_pos (by omega)]) fun w l m h => pieceU_3b s md w hs c2 l m h
      exact uPiece s hs 1 128 191 (nb s[0] % 16) md off ok (by unfold loU; rw [if_neg (by omega), if_neg (by omega)]) (by unfold hiU; rw [if_neg (by omega), if_neg (by omega)]) fun w l m h => pieceU_3c s md w hs (by unfold nb at *; omega) a4 (by simpa using c2) l m h
    · have ok := okU_of (offU_four s[0] (by omega) (by omega))
      have off := offU_four s[0] (by omega) (by omega)
      by_cases c1 : nb s[0] = (240 : Int)
      · exact uPiece s hs 2 144 191 (nb s[0] % 8) md off ok (by unfold loU; rw [if_neg (by omega), if_pos (by omega)]) (by unfold hiU; rw [if_neg (by omega), if_neg (by omega)]) fun w l m h => pieceU_4a s md w hs c1 l m h
      by_cases c2 : nb s[0] = (244 : Int)
      · exact uPiece s hs 2 128 143 (nb s[0] % 8) md off ok (by unfold loU; rw [if_neg (by omega), if_neg (by omega)]) (by unfold hiU; rw [if_neg (by omega), if_pos (by omega)]) fun w l m h => pieceU_4b s md w hs c2 l m h
      exact uPiece s hs 2 128 191 (nb s[0] % 8) md off ok (by unfold loU; rw [if_neg (by omega), if_neg (by omega)]) (by unfold hiU; rw [if_neg (by omega), if_neg (by omega)]) fun w l m h => pieceU_4c s md w hs (by unfold nb at *; omega) (by unfold nb at *; omega) l m h
end Go.Proofs.YtmdnpgcnbpppfaaGreatDoor

/- The walk over the law DecodeWhole: all pieces together. -/
namespace Go.Proofs.YtmdnpgcnbpppfaaGreatDoor
open Go.RowKit

theorem ref_of (e : Int) (h1 : 1 ≤ e) (h2 : e ≤ 6) : ∃ M qm okm, Full e M ∧ Pieces e M qm okm ∧ ∀ l, (M.dec M.init l).length ≤ l.length := by
  obtain h | h | h | h | h | h : e = 1 ∨ e = 2 ∨ e = 3 ∨ e = 4 ∨ e = 5 ∨ e = 6 := by omega
  all_goals subst h
  · exact ⟨_, _, _, fullU, piecesU, fun l => (fewU.dec conU l).1⟩
  · exact ⟨_, _, _, fullSh, piecesSh, fun l => (fewSh.dec conSh l).1⟩
  · exact ⟨_, _, _, fullT, piecesT, fun l => (fewT.dec conT l).1⟩
  · exact ⟨_, _, _, fullLat, piecesLat, fun l => (fewLat.dec conLat l).1⟩
  · exact ⟨_, _, _, fullLo, piecesLo, fun l => (fewLo.dec conLo l).1⟩
  · exact ⟨_, _, _, fullHi, piecesHi, fun l => (fewHi.dec conHi l).1⟩
end Go.Proofs.YtmdnpgcnbpppfaaGreatDoor

/- The reference's IsRight, out of WholeOf's contract. -/
namespace Go.Proofs.YtmdnpgcnbpppfaaGreatDoor
open Go.RowKit
attribute [local go_sem ↓] run_eqS run_neS
attribute [local go_sem] byte_at0 byte_at20 byte_at21 w64 S.v and63 and31 and15 and7 kw kw256

theorem hasBad_at (l : List Int) (k : Nat) (h : k < l.length) (e : l[k] = -1) : hasBad l = true := (hasBad_iff l).2 (e ▸ List.getElem_mem h)
theorem ext_all (s : ByteArray) : s.extract 0 s.size = s := by simp
end Go.Proofs.YtmdnpgcnbpppfaaGreatDoor

/- The walk over the law AutoAccepts. -/
namespace Go.Proofs.YtmdnpgcnbpppfaaGreatDoor
open Go.RowKit

theorem refA_of (e : Int) (h1 : 1 ≤ e) (h2 : e ≤ 6) : ∃ M qm okm, Pieces e M qm okm ∧ (∀ l, (M.dec M.init l).length ≤ l.length) ∧ ∀ l, aEnds e (aRun e 0 l) = !(hasBad (M.dec M.init l)) := by
  obtain h | h | h | h | h | h : e = 1 ∨ e = 2 ∨ e = 3 ∨ e = 4 ∨ e = 5 ∨ e = 6 := by omega
  all_goals subst h
  · exact ⟨_, _, _, piecesU, fun l => (fewU.dec conU l).1, autoU.all⟩
  · exact ⟨_, _, _, piecesSh, fun l => (fewSh.dec conSh l).1, autoSh.all⟩
  · exact ⟨_, _, _, piecesT, fun l => (fewT.dec conT l).1, autoT.all⟩
  · exact ⟨_, _, _, piecesLat, fun l => (fewLat.dec conLat l).1, autoLat.all⟩
  · exact ⟨_, _, _, piecesLo, fun l => (fewLo.dec conLo l).1, autoLo.all⟩
  · exact ⟨_, _, _, piecesHi, fun l => (fewHi.dec conHi l).1, autoHi.all⟩
end Go.Proofs.YtmdnpgcnbpppfaaGreatDoor
