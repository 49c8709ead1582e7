/- Plain mathematics: every number, coded, is told back. -/
import Derived.Test.YtloaemijhggheaaQG
import Derived.Laws.Runes
namespace Go.Proofs.Ytloaemijhggheaa

theorem Mach.once {M : Mach} {q q' : M.Q} {b : UInt8} {l : List Int} (h : M.offer q b = (q', l, false)) : M.proc q b = (q', l) := by
  unfold Mach.proc Mach.procF
  rw [h]; rfl
theorem Mach.dec_once {M : Mach} {q q' : M.Q} {b : UInt8} {l : List Int} (r : List UInt8) (h : M.offer q b = (q', l, false)) : M.dec q (b :: r) = l ++ M.dec q' r := by
  unfold Mach.dec
  simp [Mach.feed, Mach.once h]
theorem Mach.dec_nil {M : Mach} (q : M.Q) : M.dec q [] = M.fin q := by simp [Mach.dec, Mach.feed]
def decU (q : U) (l : List UInt8) : List Int := mU.dec q l
def decL (q : Int × Option UInt8) (l : List UInt8) : List Int := mLo.dec q l
def decH (q : H) (l : List UInt8) : List Int := mHi.dec q l
theorem decU_once {q q' : U} {b : UInt8} {l : List Int} (r : List UInt8) (h : U.offer q b = (q', l, false)) : decU q (b :: r) = l ++ decU q' r := Mach.dec_once (M := mU) r h
theorem decU_nil (q : U) : decU q [] = q.fin := Mach.dec_nil (M := mU) q
theorem decL_once {q q' : Int × Option UInt8} {b : UInt8} {l : List Int} (r : List UInt8) (h : loOffer q b = (q', l, false)) : decL q (b :: r) = l ++ decL q' r := Mach.dec_once (M := mLo) r h
theorem decH_once {q q' : H} {b : UInt8} {l : List Int} (r : List UInt8) (h : H.offer q b = (q', l, false)) : decH q (b :: r) = l ++ decH q' r := Mach.dec_once (M := mHi) r h
theorem nb_of (k : Nat) (h : k < 256) : nb (UInt8.ofNat k) = (k : Int) := by unfold nb; simp; omega

theorem offU_one (b : UInt8) (h : nb b < 128) : U.offer .zero b = (.zero, [nb b], false) := by
  simp only [U.offer]
  unfold firstU
  rw [if_pos h]
theorem offU_two (b : UInt8) (h1 : 194 ≤ nb b) (h2 : nb b ≤ 223) : U.offer .zero b = (.seq 1 (nb b % 32), [], false) := by
  simp only [U.offer]
  unfold firstU
  rw [if_neg (by omega), if_pos ⟨h1, h2⟩]
theorem offU_three (b : UInt8) (h1 : 224 ≤ nb b) (h2 : nb b ≤ 239) : U.offer .zero b = (.seq 2 (nb b % 16), [], false) := by
  simp only [U.offer]
  unfold firstU
  rw [if_neg (by omega), if_neg (by omega), if_pos ⟨h1, h2⟩]
theorem offU_four (b : UInt8) (h1 : 240 ≤ nb b) (h2 : nb b ≤ 244) : U.offer .zero b = (.seq 3 (nb b % 8), [], false) := by
  simp only [U.offer]
  unfold firstU
  rw [if_neg (by omega), if_neg (by omega), if_neg (by omega), if_pos ⟨h1, h2⟩]
theorem offU_last (c : Int) (b : UInt8) (h1 : 128 ≤ nb b) (h2 : nb b ≤ 191) : U.offer (.seq 1 c) b = (.zero, [c * 64 + nb b % 64], false) := by
  simp only [U.offer]
  rw [if_neg (by unfold loU hiU; rw [if_neg (by omega), if_neg (by omega), if_neg (by omega), if_neg (by omega)]; omega), if_pos trivial]
theorem offU_more (n c : Int) (b : UInt8) (hn : n ≠ 1) (h1 : loU n c ≤ nb b) (h2 : nb b ≤ hiU n c) : U.offer (.seq n c) b = (.seq (n - 1) (c * 64 + nb b % 64), [], false) := by
  simp only [U.offer]
  rw [if_neg (by omega), if_neg hn]
theorem dec_encode (n : Int) (h0 : 0 ≤ n) (h1 : n ≤ 1114111) (h2 : ¬ (55296 ≤ n ∧ n ≤ 57343)) : mU.dec mU.init (Utf8.encode n).data.toList = [n] := by
  show decU .zero (Utf8.encode n).data.toList = [n]
  have hv : Utf8.valid n = true := by simp [Utf8.valid]; omega
  obtain ⟨c, rfl⟩ := Int.eq_ofNat_of_zero_le h0
  unfold Utf8.encode
  simp only [hv, if_true, Int.toNat_natCast]
  by_cases a1 : c < 128
  · rw [if_pos a1]
    have e := nb_of c (by omega)
    show decU .zero [UInt8.ofNat c] = _
    rw [decU_once _ (offU_one _ (by omega)), decU_nil, e]; rfl
  rw [if_neg a1]
  by_cases a2 : c < 2048
  · rw [if_pos a2]
    have e0 := nb_of (192 + c / 64) (by omega)
    have e1 := nb_of (128 + c % 64) (by omega)
    show decU .zero [UInt8.ofNat (192 + c / 64), UInt8.ofNat (128 + c % 64)] = _
    rw [decU_once _ (offU_two _ (by omega) (by omega)), decU_once _ (offU_last _ _ (by omega) (by omega)), decU_nil, e0, e1]
    simp only [U.fin, List.nil_append, List.append_nil, List.cons.injEq, and_true]
    omega
  rw [if_neg a2]
  by_cases a3 : c < 65536
  · rw [if_pos a3]
    have e0 := nb_of (224 + c / 4096) (by omega)
    have e1 := nb_of (128 + c / 64 % 64) (by omega)
    have e2 := nb_of (128 + c % 64) (by omega)
    show decU .zero [UInt8.ofNat (224 + c / 4096), UInt8.ofNat (128 + c / 64 % 64), UInt8.ofNat (128 + c % 64)] = _
    rw [decU_once _ (offU_three _ (by omega) (by omega)), decU_once _ (offU_more _ _ _ (by omega) (by unfold loU; rw [e0, e1]; split <;> (try split) <;> omega) (by unfold hiU; rw [e0, e1]; split <;> (try split) <;> omega)),
      show (2 : Int) - 1 = 1 from rfl, decU_once _ (offU_last _ _ (by omega) (by omega)), decU_nil, e0, e1, e2]
    simp only [U.fin, List.nil_append, List.append_nil, List.cons.injEq, and_true]
    omega
  rw [if_neg a3]
  have e0 := nb_of (240 + c / 262144) (by omega)
  have e1 := nb_of (128 + c / 4096 % 64) (by omega)
  have e2 := nb_of (128 + c / 64 % 64) (by omega)
  have e3 := nb_of (128 + c % 64) (by omega)
  show decU .zero [UInt8.ofNat (240 + c / 262144), UInt8.ofNat (128 + c / 4096 % 64), UInt8.ofNat (128 + c / 64 % 64), UInt8.ofNat (128 + c % 64)] = _
  rw [decU_once _ (offU_four _ (by omega) (by omega)), decU_once _ (offU_more _ _ _ (by omega) (by unfold loU; rw [e0, e1]; split <;> (try split) <;> omega) (by unfold hiU; rw [e0, e1]; split <;> (try split) <;> omega)),
    show (3 : Int) - 1 = 2 from rfl, decU_once _ (offU_more _ _ _ (by omega) (by unfold loU; rw [e0, e1, e2]; split <;> (try split) <;> omega) (by unfold hiU; rw [e0, e1, e2]; split <;> (try split) <;> omega)),
    show (2 : Int) - 1 = 1 from rfl, decU_once _ (offU_last _ _ (by omega) (by omega)), decU_nil, e0, e1, e2, e3]
  simp only [U.fin, List.nil_append, List.append_nil, List.cons.injEq, and_true]
  omega

/- pairs of bytes -/
theorem lo_unit (x y : UInt8) (r : List UInt8) (u : Int) (hu : nb y * 256 + nb x = u) (h1 : leadsB u = false) (h2 : trailsB u = false) : decL (0, none) (x :: y :: r) = u :: decL (0, none) r := by
  have a : loOffer (0, none) x = ((0, some x), [], false) := rfl
  have b : loOffer (0, some x) y = ((0, none), [u], false) := by
    simp [loOffer, unitO, hu, h1, h2]
  rw [decL_once _ a, decL_once _ b]; rfl
theorem lo_pair (x y z t : UInt8) (r : List UInt8) (u v : Int) (hu : nb y * 256 + nb x = u) (hv : nb t * 256 + nb z = v) (h1 : leadsB u = true) (h2 : trailsB v = true) (h0 : u ≠ 0) : decL (0, none) (x :: y :: z :: t :: r) = (65536 + (u % 1024) * 1024 + v % 1024) :: decL (0, none) r := by
  have a : loOffer (0, none) x = ((0, some x), [], false) := rfl
  have b : loOffer (0, some x) y = ((u, none), [], false) := by
    simp [loOffer, unitO, hu, h1]
  have c : loOffer (u, none) z = ((u, some z), [], false) := rfl
  have d : loOffer (u, some z) t = ((0, none), [65536 + (u % 1024) * 1024 + v % 1024], false) := by
    simp [loOffer, unitO, hv, h2, h0]
  rw [decL_once _ a, decL_once _ b, decL_once _ c, decL_once _ d]; rfl
theorem hi_unit (x y : UInt8) (r : List UInt8) (u : Int) (hu : nb y * 256 + nb x = u) (h1 : leadsB u = false) (h2 : trailsB u = false) : decH (.unit 0) (y :: x :: r) = u :: decH (.unit 0) r := by
  have ht : trB y = false := by
    have := nb_lt x; have := nb_nonneg x
    unfold trailsB at h2; unfold trB
    simp at h2 ⊢; omega
  have a : H.offer (.unit 0) y = (.mid 0 y, [], false) := by
    simp [H.offer, ht]
  have b : H.offer (.mid 0 y) x = (.unit 0, [u], false) := by
    simp [H.offer, unitO, hu, h1, h2]
  rw [decH_once _ a, decH_once _ b]; rfl
theorem hi_pair (x y z t : UInt8) (r : List UInt8) (u v : Int) (hu : nb y * 256 + nb x = u) (hv : nb t * 256 + nb z = v) (h1 : leadsB u = true) (h2 : trailsB v = true) (h0 : u ≠ 0) : decH (.unit 0) (y :: x :: t :: z :: r) = (65536 + (u % 1024) * 1024 + v % 1024) :: decH (.unit 0) r := by
  have hy : trB y = false := by
    have := nb_lt x; have := nb_nonneg x
    unfold leadsB at h1; unfold trB
    simp at h1 ⊢; omega
  have ht : trB t = true := by
    have := nb_lt z; have := nb_nonneg z
    unfold trailsB at h2; unfold trB
    simp at h2 ⊢; omega
  have a : H.offer (.unit 0) y = (.mid 0 y, [], false) := by
    simp [H.offer, hy]
  have b : H.offer (.mid 0 y) x = (.unit u, [], false) := by
    simp [H.offer, unitO, hu, h1]
  have c : H.offer (.unit u) t = (.mid u t, [], false) := by
    simp [H.offer, ht, h0]
  have d : H.offer (.mid u t) z = (.unit 0, [65536 + (u % 1024) * 1024 + v % 1024], false) := by
    simp [H.offer, unitO, hv, h0]
  rw [decH_once _ a, decH_once _ b, decH_once _ c, decH_once _ d]; rfl
end Go.Proofs.Ytloaemijhggheaa
