/- 4 texts of this proof in one file: Kit0, Mod, AutoM, ScM. -/
import Derived.Below
import Derived.Laws.Strings
/- A fact laid aside, so that the walk does not use it. -/
namespace Go.Proofs.Ytloaemijhggheaa
theorem hid {p : Prop} (h : p) : RowKit.Hid p := h
end Go.Proofs.Ytloaemijhggheaa

/- The decoders as small machines: plain definitions, nothing of the program. -/
namespace Go.Proofs.Ytloaemijhggheaa

/-- A decoder's state, field by field. -/
structure S where
  need : Int
  code : Int
  lo : Int
  hi : Int
  kept : ByteArray
  half : Int
  mode : Int
def S.zero : S := ⟨0, 0, 0, 0, ⟨#[]⟩, 0, 0⟩
/-- Two states are alike, field by field. -/
def sEq (a b : S) : Bool := a.need == b.need && (a.code == b.code && (a.lo == b.lo && (a.hi == b.hi && (a.kept.toList == b.kept.toList && (a.half == b.half && a.mode == b.mode)))))
theorem sEq_self (a : S) : sEq a a = true := by simp [sEq]
theorem bytes_eq {a b : ByteArray} (h : a.toList = b.toList) : a = b := by
  have := ByteArray.ext (Array.ext' (by simpa [ByteArray.toList_eq] using h) : a.data = b.data)
  exact this
theorem sEq_eq {a b : S} (h : sEq a b = true) : a = b := by
  cases a; cases b
  simp [sEq] at h
  obtain ⟨h1, h2, h3, h4, h5, h6, h7⟩ := h
  subst h1 h2 h3 h4 h6 h7
  have := bytes_eq h5
  subst this
  rfl
theorem sEq_ne {a b : S} (h : a ≠ b) : sEq a b = false := by
  cases e : sEq a b with
  | false => rfl
  | true => exact (h (sEq_eq e)).elim

/-- A byte's number. -/
abbrev nb (b : UInt8) : Int := (b.toNat : Int)

/- Utf -/
inductive U where
  | zero
  | seq (need code : Int)
def loU (n c : Int) : Int := if n = 2 ∧ c = 0 then 160 else if n = 3 ∧ c = 0 then 144 else 128
def hiU (n c : Int) : Int := if n = 2 ∧ c = 13 then 159 else if n = 3 ∧ c = 4 then 143 else 191
def seqS (n c : Int) : S := ⟨n, c, loU n c, hiU n c, ⟨#[]⟩, 0, 0⟩
def U.toS : U → S
  | .zero => .zero
  | .seq n c => seqS n c
def U.ok : U → Prop
  | .zero => True
  | .seq n c => (n = 1 ∧ 2 ≤ c ∧ c ≤ 17407 ∧ c / 32 ≠ 27) ∨ (n = 2 ∧ 0 ≤ c ∧ c ≤ 271) ∨ (n = 3 ∧ 0 ≤ c ∧ c ≤ 4)
def firstU (b : UInt8) : U × List Int :=
  if nb b < 128 then (.zero, [nb b])
  else if 194 ≤ nb b ∧ nb b ≤ 223 then (.seq 1 (nb b % 32), [])
  else if 224 ≤ nb b ∧ nb b ≤ 239 then (.seq 2 (nb b % 16), [])
  else if 240 ≤ nb b ∧ nb b ≤ 244 then (.seq 3 (nb b % 8), [])
  else (.zero, [-1])
def U.offer : U → UInt8 → U × List Int × Bool
  | .zero, b => ((firstU b).1, (firstU b).2, false)
  | .seq n c, b =>
    if nb b < loU n c ∨ hiU n c < nb b then (.zero, [-1], true)
    else if n = 1 then (.zero, [c * 64 + nb b % 64], false)
    else (.seq (n - 1) (c * 64 + nb b % 64), [], false)
def U.fin : U → List Int
  | .zero => []
  | .seq _ _ => [-1]
def U.rank : U → Nat
  | .zero => 0
  | .seq _ _ => 1

/- Twin -/
def keptO : Option UInt8 → ByteArray
  | none => ⟨#[]⟩
  | some b => ⟨#[b]⟩
def twS (k : Option UInt8) : S := ⟨0, 0, 0, 0, keptO k, 0, 0⟩
def twOk : Option UInt8 → Prop
  | none => True
  | some b => 129 ≤ nb b ∧ nb b ≤ 159
def firstT (b : UInt8) : Option UInt8 × List Int :=
  if nb b < 128 then (none, [nb b])
  else if 161 ≤ nb b ∧ nb b ≤ 223 then (none, [65377 + nb b - 161])
  else if 129 ≤ nb b ∧ nb b ≤ 159 then (some b, [])
  else (none, [-1])
def secondT (b c : UInt8) : List Int × Bool :=
  if 64 ≤ nb c ∧ nb c ≤ 126 then ([19968 + 188 * (nb b - 129) + nb c - 64], false)
  else if 128 ≤ nb c ∧ nb c ≤ 252 then ([19968 + 188 * (nb b - 129) + nb c - 65], false)
  else ([-1], decide (nb c ≤ 127))
def twOffer : Option UInt8 → UInt8 → Option UInt8 × List Int × Bool
  | none, b => ((firstT b).1, (firstT b).2, false)
  | some k, b => (none, (secondT k b).1, (secondT k b).2)
def optFin : Option UInt8 → List Int
  | none => []
  | some _ => [-1]
def optRank : Option UInt8 → Nat
  | none => 0
  | some _ => 1

/- Latin -/
def latinL (b : UInt8) : List Int :=
  if nb b < 128 ∨ 160 ≤ nb b then [nb b]
  else if nb b = 129 ∨ nb b = 141 ∨ nb b = 143 ∨ nb b = 144 ∨ nb b = 157 then [-1]
  else [8192 + nb b]

/- Shift -/
inductive K where
  | none
  | esc
  | par
  | dol
  | half (c : UInt8)
def K.kept : K → ByteArray
  | .none => ⟨#[]⟩
  | .esc => ⟨#[27]⟩
  | .par => ⟨#[27, 40]⟩
  | .dol => ⟨#[27, 36]⟩
  | .half c => ⟨#[c]⟩
def modeI (d : Bool) : Int := if d then 1 else 0
def shS (q : Bool × K) : S := ⟨0, 0, 0, 0, q.2.kept, 0, modeI q.1⟩
def shOk : Bool × K → Prop
  | (d, .half c) => d = true ∧ 33 ≤ nb c ∧ nb c ≤ 126
  | _ => True
def firstD (b : UInt8) : (Bool × K) × List Int :=
  if nb b = 10 then ((false, .none), [nb b])
  else if 33 ≤ nb b ∧ nb b ≤ 126 then ((true, .half b), [])
  else ((true, .none), [-1])
def firstSh (d : Bool) (b : UInt8) : (Bool × K) × List Int :=
  if nb b = 27 then ((d, .esc), [])
  else if d then firstD b
  else if nb b = 14 ∨ nb b = 15 ∨ 127 < nb b then ((false, .none), [-1])
  else ((false, .none), [nb b])
def dropSh (d : Bool) : K → (Bool × K) × List Int
  | .par => ((firstSh d 40).1, -1 :: (firstSh d 40).2)
  | .dol => ((firstSh d 36).1, -1 :: (firstSh d 36).2)
  | _ => ((d, .none), [-1])
def secondSh (b c : UInt8) : List Int × Bool :=
  if 33 ≤ nb c ∧ nb c ≤ 126 then ([12288 + 94 * (nb b - 33) + nb c - 33], false) else ([-1], decide (nb c = 27))
def shOffer : Bool × K → UInt8 → (Bool × K) × List Int × Bool
  | (d, .none), b => ((firstSh d b).1, (firstSh d b).2, false)
  | (d, .esc), b => if nb b = 40 then ((d, .par), [], false) else if nb b = 36 then ((d, .dol), [], false) else ((dropSh d .esc).1, (dropSh d .esc).2, true)
  | (d, .par), b => if nb b = 66 then ((false, .none), [], false) else ((dropSh d .par).1, (dropSh d .par).2, true)
  | (d, .dol), b => if nb b = 66 then ((true, .none), [], false) else ((dropSh d .dol).1, (dropSh d .dol).2, true)
  | (d, .half k), b => ((d, .none), (secondSh k b).1, (secondSh k b).2)
def shFin : Bool × K → List Int
  | (_, .none) => []
  | (_, .esc) => [-1]
  | (d, .par) => if d then [-1, -1] else [-1, 40]
  | (d, .dol) => if d then [-1, -1] else [-1, 36]
  | (_, .half _) => [-1]
def shRank : Bool × K → Nat
  | (_, .none) => 0
  | (_, .esc) => 1
  | (_, .half _) => 1
  | _ => 2

/- Low -/
def leadsB (u : Int) : Bool := u / 1024 == 54
def trailsB (u : Int) : Bool := u / 1024 == 55
def loS (q : Int × Option UInt8) : S := ⟨0, 0, 0, 0, keptO q.2, q.1, 0⟩
def halfOk (h : Int) : Prop := h = 0 ∨ leadsB h = true
def loOk (q : Int × Option UInt8) : Prop := halfOk q.1
/-- A unit behind a half (0: none). -/
def unitO (h : Int) (u : Int) : Int × List Int :=
  if h ≠ 0 then (0, [65536 + (h % 1024) * 1024 + u % 1024])
  else if leadsB u then (u, []) else if trailsB u then (0, [-1]) else (0, [u])
def loOffer : Int × Option UInt8 → UInt8 → (Int × Option UInt8) × List Int × Bool
  | (h, none), b => ((h, some b), [], false)
  | (h, some k), b =>
    if h ≠ 0 ∧ trailsB (nb b * 256 + nb k) = false then ((0, some k), [-1], true)
    else (((unitO h (nb b * 256 + nb k)).1, none), (unitO h (nb b * 256 + nb k)).2, false)
def loFin : Int × Option UInt8 → List Int
  | (h, none) => if h = 0 then [] else [-1]
  | (_, some _) => [-1]
def loRank : Int × Option UInt8 → Nat
  | (h, _) => if h = 0 then 0 else 1

/- High -/
inductive H where
  | unit (h : Int)
  | mid (h : Int) (k : UInt8)
  | told (k : UInt8)
def trB (b : UInt8) : Bool := nb b / 4 == 55
def H.toS : H → S
  | .unit h => ⟨0, 0, 0, 0, ⟨#[]⟩, h, 0⟩
  | .mid h k => ⟨0, 0, 0, 0, ⟨#[k]⟩, h, 0⟩
  | .told k => ⟨0, 0, 0, 0, ⟨#[k]⟩, 0, 1⟩
def H.ok : H → Prop
  | .unit h => halfOk h
  | .mid h k => halfOk h ∧ (trB k = true ↔ h ≠ 0)
  | .told _ => True
def H.offer : H → UInt8 → H × List Int × Bool
  | .unit h, b => if trB b = true ↔ h ≠ 0 then (.mid h b, [], false) else (.told b, [-1], false)
  | .mid h k, b => (.unit (unitO h (nb k * 256 + nb b)).1, (unitO h (nb k * 256 + nb b)).2, false)
  | .told k, b => if trB k then (.unit 0, [], false) else (.unit (unitO 0 (nb k * 256 + nb b)).1, (unitO 0 (nb k * 256 + nb b)).2, false)
def H.fin : H → List Int
  | .unit h => if h = 0 then [] else [-1]
  | .mid _ _ => [-1]
  | .told _ => []

/-- A decoder as a machine: states, how they are kept, what a byte does, what is told at the end. -/
structure Mach where
  Q : Type
  init : Q
  toS : Q → S
  ok : Q → Prop
  offer : Q → UInt8 → Q × List Int × Bool
  fin : Q → List Int
  rank : Q → Nat
def mU : Mach := ⟨U, .zero, U.toS, U.ok, U.offer, U.fin, U.rank⟩
def mSh : Mach := ⟨Bool × K, (false, .none), shS, shOk, shOffer, shFin, shRank⟩
def mT : Mach := ⟨Option UInt8, none, twS, twOk, twOffer, optFin, optRank⟩
def mLat : Mach := ⟨Unit, (), fun _ => .zero, fun _ => True, fun _ b => ((), latinL b, false), fun _ => [], fun _ => 0⟩
def mLo : Mach := ⟨Int × Option UInt8, (0, none), loS, loOk, loOffer, loFin, loRank⟩
def mHi : Mach := ⟨H, .unit 0, H.toS, H.ok, H.offer, H.fin, fun _ => 0⟩

/-- The byte is offered until it is used up. -/
def Mach.procF (M : Mach) : Nat → M.Q → UInt8 → M.Q × List Int
  | 0, q, _ => (q, [])
  | n + 1, q, b => if (M.offer q b).2.2 then ((procF M n (M.offer q b).1 b).1, (M.offer q b).2.1 ++ (procF M n (M.offer q b).1 b).2) else ((M.offer q b).1, (M.offer q b).2.1)
def Mach.proc (M : Mach) (q : M.Q) (b : UInt8) : M.Q × List Int := M.procF (M.rank q + 1) q b
/-- Bytes one by one. -/
def Mach.feed (M : Mach) : M.Q → List UInt8 → M.Q × List Int
  | q, [] => (q, [])
  | q, b :: r => ((feed M (M.proc q b).1 r).1, (M.proc q b).2 ++ (feed M (M.proc q b).1 r).2)
/-- Bytes and their end. -/
def Mach.dec (M : Mach) (q : M.Q) (l : List UInt8) : List Int := (M.feed q l).2 ++ M.fin (M.feed q l).1
/-- What every machine here keeps. -/
structure Mach.Law (M : Mach) : Prop where
  zero : M.toS M.init = .zero
  init : M.ok M.init
  step : ∀ q b, M.ok q → M.ok (M.offer q b).1
  drop : ∀ q b, M.ok q → (M.offer q b).2.2 = true → M.rank (M.offer q b).1 < M.rank q
end Go.Proofs.Ytloaemijhggheaa

/- The automata as plain functions. -/
namespace Go.Proofs.Ytloaemijhggheaa

def aW (b lo hi nx : Int) : Int := if lo ≤ b then (if b ≤ hi then nx else 9) else 9
def aU1 (b : Int) : Int :=
  if b < 128 then 0 else if b < 194 then 9 else if b < 224 then 1 else if b = 224 then 4 else if b = 237 then 5
  else if b < 240 then 2 else if b = 240 then 6 else if b < 244 then 3 else if b = 244 then 7 else 9
def aU (s b : Int) : Int :=
  if s = 0 then aU1 b else if s = 1 then aW b 128 191 0 else if s = 2 then aW b 128 191 1 else if s = 3 then aW b 128 191 2
  else if s = 4 then aW b 160 191 1 else if s = 5 then aW b 128 159 1 else if s = 6 then aW b 144 191 2 else if s = 7 then aW b 128 143 2 else 9
def aS1 (b : Int) : Int := if b = 27 then 3 else if b = 14 then 9 else if b = 15 then 9 else if 127 < b then 9 else 0
def aS2 (b : Int) : Int := if b = 27 then 3 else if b = 10 then 0 else aW b 33 126 2
def aS3 (b : Int) : Int := if b = 40 then 4 else if b = 36 then 5 else 9
def aS (s b : Int) : Int :=
  if s = 0 then aS1 b else if s = 1 then aS2 b else if s = 2 then aW b 33 126 1 else if s = 3 then aS3 b
  else if s = 4 then aW b 66 66 0 else if s = 5 then aW b 66 66 1 else 9
def aT1 (b : Int) : Int := if b < 128 then 0 else if 129 ≤ b then (if b ≤ 159 then 1 else aW b 161 223 0) else aW b 161 223 0
def aT (s b : Int) : Int := if s = 0 then aT1 b else if s = 1 then (if b = 127 then 9 else aW b 64 252 0) else 9
def aL (s b : Int) : Int :=
  if s = 0 then (if b = 129 then 9 else if b = 141 then 9 else if b = 143 then 9 else if b = 144 then 9 else if b = 157 then 9 else 0) else 9
def aWU (b wh hf : Int) : Int := if b < 216 then wh else if 223 < b then wh else if b < 220 then hf else 9
def aLo (s b : Int) : Int := if s = 0 then 1 else if s = 1 then aWU b 0 2 else if s = 2 then 3 else if s = 3 then aW b 220 223 0 else 9
def aHi (s b : Int) : Int := if s = 0 then aWU b 1 2 else if s = 1 then 0 else if s = 2 then 3 else if s = 3 then aW b 220 223 1 else 9
/-- The state behind a byte. -/
def aStep (e s b : Int) : Int :=
  if e = 1 then aU s b else if e = 2 then aS s b else if e = 3 then aT s b else if e = 4 then aL s b else if e = 5 then aLo s b else if e = 6 then aHi s b else 9
/-- Whether bytes may end in a state. -/
def aEnds (e s : Int) : Bool :=
  if e = 2 then (s == 0 || s == 1) else if 1 ≤ e ∧ e ≤ 6 then s == 0 else false
/-- The state behind bytes. -/
def aRun (e : Int) : Int → List UInt8 → Int
  | s, [] => s
  | s, b :: r => aRun e (aStep e s (nb b)) r
end Go.Proofs.Ytloaemijhggheaa

/- Scores as plain functions; what the best one is. -/
namespace Go.Proofs.Ytloaemijhggheaa

/-- A byte's class. -/
def claN (b : Int) : Int :=
  if 192 ≤ b then 6 else if 128 ≤ b then 5 else if b = 9 ∨ b = 10 ∨ b = 13 ∨ b = 32 then 1 else if b < 32 ∨ b = 127 then 4
  else if 48 ≤ b ∧ b ≤ 57 then 2 else if (65 ≤ b ∧ b ≤ 90) ∨ (97 ≤ b ∧ b ≤ 122) then 0 else 3
def plainN (a b : Int) : Int := if claN a < 4 ∧ claN b < 4 then 1 else 0
/-- The weight of a pair. -/
def weiN (e a b : Int) : Int :=
  if e = 1 then (if claN a = 6 ∧ claN b = 5 then 6 else 2 * plainN a b)
  else if e = 2 then (if a = 27 ∨ b = 27 then 8 else plainN a b)
  else if e = 3 then (if claN a = 5 ∧ claN b ≠ 4 then 4 else 2 * plainN a b)
  else if e = 4 then (if (claN a = 0 ∧ claN b = 6) ∨ (claN a = 6 ∧ claN b = 0) then 5 else 3 * plainN a b - 1)
  else if e = 5 then (if claN b = 4 ∧ claN a < 4 then 4 else 0)
  else if e = 6 then (if claN a = 4 ∧ claN b < 4 then 4 else 0) else 0
theorem claN_in (b : Int) : 0 ≤ claN b ∧ claN b ≤ 6 := by unfold claN; repeat (first | omega | split)
theorem plainN_in (a b : Int) : 0 ≤ plainN a b ∧ plainN a b ≤ 1 := by unfold plainN; split <;> omega
theorem weiN_in (e a b : Int) : -1 ≤ weiN e a b ∧ weiN e a b ≤ 8 := by
  have := plainN_in a b
  unfold weiN
  repeat (first | omega | split)
/-- The sum over the pairs of adjacent bytes. -/
def sumN (e : Int) : List UInt8 → Int
  | a :: b :: r => weiN e (nb a) (nb b) + sumN e (b :: r)
  | _ => 0
theorem sumN_snoc (e : Int) (a b : UInt8) : ∀ l : List UInt8, sumN e (l ++ [a, b]) = sumN e (l ++ [a]) + weiN e (nb a) (nb b)
  | [] => by simp [sumN]
  | [c] => by simp [sumN]
  | c :: d :: r => by
    have := sumN_snoc e a b (d :: r)
    simp only [List.cons_append, sumN] at this ⊢
    omega
theorem sumN_in (e : Int) : ∀ l : List UInt8, -(l.length : Int) ≤ sumN e l ∧ sumN e l ≤ 8 * (l.length : Int)
  | [] => by simp [sumN]
  | [a] => by simp [sumN]
  | a :: b :: r => by
    have h1 := sumN_in e (b :: r)
    have h2 := weiN_in e (nb a) (nb b)
    simp only [sumN, List.length_cons] at h1 ⊢
    omega
/-- The best of some encodings, in their order: the first with the greatest sum among those that are right. -/
def bestN (ok : Int → Bool) (sm : Int → Int) : List Int → Int × Int → Int × Int
  | [], p => p
  | e :: r, p => bestN ok sm r (if ok e = true ∧ (p.1 = 0 ∨ p.2 < sm e) then (e, sm e) else p)
/-- What is known of the best one of those that were looked at. -/
def BestOk (ok : Int → Bool) (sm : Int → Int) (P : Int → Prop) (p : Int × Int) : Prop :=
  (p.1 = 0 → ∀ e, P e → ok e = false) ∧ (p.1 ≠ 0 → P p.1 ∧ ok p.1 = true ∧ p.2 = sm p.1 ∧ ∀ e, P e → ok e = true → sm e ≤ p.2 ∧ (e < p.1 → sm e < p.2))
theorem bestN_ok (ok : Int → Bool) (sm : Int → Int) : ∀ (l : List Int) (P : Int → Prop) (p : Int × Int), (∀ e ∈ l, e ≠ 0) → l.Pairwise (· < ·) → (∀ e ∈ l, ∀ x, P x → x < e) → BestOk ok sm P p → BestOk ok sm (fun x => P x ∨ x ∈ l) (bestN ok sm l p)
  | [], P, p, _, _, _, h => by
    refine ⟨fun h0 e he => h.1 h0 e (he.resolve_right (by simp)), fun h0 => ?_⟩
    obtain ⟨h1, h2, h3, h4⟩ := h.2 h0
    exact ⟨Or.inl h1, h2, h3, fun e he => h4 e (he.resolve_right (by simp))⟩
  | a :: r, P, p, hn, hs, hP, h => by
    have ha : a ≠ 0 := hn a (by simp)
    have hlt : ∀ x, P x → x < a := hP a (by simp)
    have key : BestOk ok sm (fun x => P x ∨ x = a) (if ok a = true ∧ (p.1 = 0 ∨ p.2 < sm a) then (a, sm a) else p) := by
      by_cases hc : ok a = true ∧ (p.1 = 0 ∨ p.2 < sm a)
      · rw [if_pos hc]
        refine ⟨fun h0 => absurd h0 ha, fun _ => ⟨Or.inr rfl, hc.1, rfl, fun e he hk => ?_⟩⟩
        rcases he with he | rfl
        · by_cases h0 : p.1 = 0
          · rw [h.1 h0 e he] at hk; cases hk
          · have := (h.2 h0).2.2.2 e he hk
            have h5 := hc.2.resolve_left h0
            exact ⟨by omega, fun _ => by omega⟩
        · exact ⟨Int.le_refl _, fun x => absurd x (Int.lt_irrefl _)⟩
      · rw [if_neg hc]
        refine ⟨fun h0 e he => ?_, fun h0 => ?_⟩
        · rcases he with he | rfl
          · exact h.1 h0 e he
          · cases hk : ok e with
            | false => rfl
            | true => exact absurd ⟨hk, Or.inl h0⟩ hc
        · obtain ⟨h1, h2, h3, h4⟩ := h.2 h0
          refine ⟨Or.inl h1, h2, h3, fun e he hk => ?_⟩
          rcases he with he | rfl
          · exact h4 e he hk
          · have h5 : ¬ p.2 < sm e := fun x => hc ⟨hk, Or.inr x⟩
            have := hlt p.1 h1
            exact ⟨by omega, fun x => by omega⟩
    have h6 := bestN_ok ok sm r (fun x => P x ∨ x = a) _ (fun e he => hn e (by simp [he])) (List.pairwise_cons.1 hs).2 (fun e he x hx => by
      have hae : a < e := (List.pairwise_cons.1 hs).1 e he
      rcases hx with hx | rfl
      · have := hlt x hx; omega
      · exact hae) key
    simp only [bestN]
    have e1 : (fun x => (P x ∨ x = a) ∨ x ∈ r) = fun x => P x ∨ x ∈ a :: r := by
      funext x
      simp only [List.mem_cons, or_assoc]
    rw [e1] at h6
    exact h6
/-- The best encoding of all. -/
def bestE (ok : Int → Bool) (sm : Int → Int) : Int := (bestN ok sm [1, 2, 3, 4, 5, 6] (0, 0)).1
theorem bestE_ok (ok : Int → Bool) (sm : Int → Int) (h : ∀ e, ok e = true → 1 ≤ e ∧ e ≤ 6) :
    (bestE ok sm = 0 → ∀ e, ok e = false) ∧ (bestE ok sm ≠ 0 → 1 ≤ bestE ok sm ∧ bestE ok sm ≤ 6 ∧ ok (bestE ok sm) = true ∧ ∀ e, ok e = true → sm e ≤ sm (bestE ok sm) ∧ (e < bestE ok sm → sm e < sm (bestE ok sm))) := by
  have hb := bestN_ok ok sm [1, 2, 3, 4, 5, 6] (fun _ => False) (0, 0) (by simp) (by decide) (fun _ _ _ hx => hx.elim) ⟨fun _ _ hx => hx.elim, fun h0 => absurd rfl h0⟩
  have mem : ∀ e, ok e = true → (False ∨ e ∈ [1, 2, 3, 4, 5, 6]) := fun e he => Or.inr (by have := h e he; simp; omega)
  unfold bestE
  refine ⟨fun h0 e => ?_, fun h0 => ?_⟩
  · cases hk : ok e with
    | false => rfl
    | true => rw [hb.1 h0 e (mem e hk)] at hk; cases hk
  · obtain ⟨h1, h2, h3, h4⟩ := hb.2 h0
    have h5 := h _ h2
    exact ⟨h5.1, h5.2, h2, fun e he => by have := h4 e (mem e he) he; rw [h3] at this; exact this⟩
end Go.Proofs.Ytloaemijhggheaa
