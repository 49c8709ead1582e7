/- 5 texts of this proof in one file: ScM, ScW, ScW2, ScS, ScS2. -/
import Derived.Test.YtpkifomoffhpdaaMod
import Derived.Test.YtpkifomoffhpdaaAutoW
import Derived.Test.YtpkifomoffhpdaaAutoX
import Derived.Deep.RegionWith
/- Scores as plain functions; what the best one is. -/
namespace Go.Proofs.Ytpkifomoffhpdaa

/-- A byte's class. -/
def claN (b : Int) : Int :=
  if 192 ≤ b then 6 else if 128 ≤ b then 5 else if b = 9 ∨ b = 10 ∨ b = 13 ∨ b = 32 then 1 else if b < 32 ∨ b = 127 then 4
  else if 48 ≤ b ∧ b ≤ 57 then 2 else if (65 ≤ b ∧ b ≤ 90) ∨ (97 ≤ b ∧ b ≤ 122) then 0 else 3
def plainN (a b : Int) : Int := if claN a < 4 ∧ claN b < 4 then 1 else 0
/-- The weight of a pair. -/
def weiN (e a b : Int) : Int :=
  if e = 1 then (if claN a = 6 ∧ claN b = 5 then 6 else 2 * plainN a b)
  else if e = 2 then (if a = 27 ∨ b = 27 then 8 else plainN a b)
  else if e = 3 then (if claN a = 5 ∧ claN b ≠ 4 then 4 else 2 * plainN a b)
  else if e = 4 then (if (claN a = 0 ∧ claN b = 6) ∨ (claN a = 6 ∧ claN b = 0) then 5 else 3 * plainN a b - 1)
  else if e = 5 then (if claN b = 4 ∧ claN a < 4 then 4 else 0)
  else if e = 6 then (if claN a = 4 ∧ claN b < 4 then 4 else 0) else 0
theorem claN_in (b : Int) : 0 ≤ claN b ∧ claN b ≤ 6 := by unfold claN; repeat (first | omega | split)
theorem plainN_in (a b : Int) : 0 ≤ plainN a b ∧ plainN a b ≤ 1 := by unfold plainN; split <;> omega
theorem weiN_in (e a b : Int) : -1 ≤ weiN e a b ∧ weiN e a b ≤ 8 := by
  have := plainN_in a b
  unfold weiN
  repeat (first | omega | split)
/-- The sum over the pairs of adjacent bytes. -/
def sumN (e : Int) : List UInt8 → Int
  | a :: b :: r => weiN e (nb a) (nb b) + sumN e (b :: r)
  | _ => 0
theorem sumN_snoc (e : Int) (a b : UInt8) : ∀ l : List UInt8, sumN e (l ++ [a, b]) = sumN e (l ++ [a]) + weiN e (nb a) (nb b)
  | [] => by simp [sumN]
  | [c] => by simp [sumN]
  | c :: d :: r => by
    have := sumN_snoc e a b (d :: r)
    simp only [List.cons_append, sumN] at this ⊢
    omega
theorem sumN_in (e : Int) : ∀ l : List UInt8, -(l.length : Int) ≤ sumN e l ∧ sumN e l ≤ 8 * (l.length : Int)
  | [] => by simp [sumN]
  | [a] => by simp [sumN]
  | a :: b :: r => by
    have h1 := sumN_in e (b :: r)
    have h2 := weiN_in e (nb a) (nb b)
    simp only [sumN, List.length_cons] at h1 ⊢
    omega
/-- The best of some encodings, in their order: the first with the greatest sum among those that are right. -/
def bestN (ok : Int → Bool) (sm : Int → Int) : List Int → Int × Int → Int × Int
  | [], p => p
  | e :: r, p => bestN ok sm r (if ok e = true ∧ (p.1 = 0 ∨ p.2 < sm e) then (e, sm e) else p)
/-- What is known of the best one of those that were looked at. -/
def BestOk (ok : Int → Bool) (sm : Int → Int) (P : Int → Prop) (p : Int × Int) : Prop :=
  (p.1 = 0 → ∀ e, P e → ok e = false) ∧ (p.1 ≠ 0 → P p.1 ∧ ok p.1 = true ∧ p.2 = sm p.1 ∧ ∀ e, P e → ok e = true → sm e ≤ p.2 ∧ (e < p.1 → sm e < p.2))
theorem bestN_ok (ok : Int → Bool) (sm : Int → Int) : ∀ (l : List Int) (P : Int → Prop) (p : Int × Int), (∀ e ∈ l, e ≠ 0) → l.Pairwise (· < ·) → (∀ e ∈ l, ∀ x, P x → x < e) → BestOk ok sm P p → BestOk ok sm (fun x => P x ∨ x ∈ l) (bestN ok sm l p)
  | [], P, p, _, _, _, h => by
    refine ⟨fun h0 e he => h.1 h0 e (he.resolve_right (by simp)), fun h0 => ?_⟩
    obtain ⟨h1, h2, h3, h4⟩ := h.2 h0
    exact ⟨Or.inl h1, h2, h3, fun e he => h4 e (he.resolve_right (by simp))⟩
  | a :: r, P, p, hn, hs, hP, h => by
    have ha : a ≠ 0 := hn a (by simp)
    have hlt : ∀ x, P x → x < a := hP a (by simp)
    have key : BestOk ok sm (fun x => P x ∨ x = a) (if ok a = true ∧ (p.1 = 0 ∨ p.2 < sm a) then (a, sm a) else p) := by
      by_cases hc : ok a = true ∧ (p.1 = 0 ∨ p.2 < sm a)
      · rw [if_pos hc]
        refine ⟨fun h0 => absurd h0 ha, fun _ => ⟨Or.inr rfl, hc.1, rfl, fun e he hk => ?_⟩⟩
        rcases he with he | rfl
        · by_cases h0 : p.1 = 0
          · rw [h.1 h0 e he] at hk; cases hk
          · have := (h.2 h0).2.2.2 e he hk
            have h5 := hc.2.resolve_left h0
            exact ⟨by omega, fun _ => by omega⟩
        · exact ⟨Int.le_refl _, fun x => absurd x (Int.lt_irrefl _)⟩
      · rw [if_neg hc]
        refine ⟨fun h0 e he => ?_, fun h0 => ?_⟩
        · rcases he with he | rfl
          · exact h.1 h0 e he
          · cases hk : ok e with
            | false => rfl
            | true => exact absurd ⟨hk, Or.inl h0⟩ hc
        · obtain ⟨h1, h2, h3, h4⟩ := h.2 h0
          refine ⟨Or.inl h1, h2, h3, fun e he hk => ?_⟩
          rcases he with he | rfl
          · exact h4 e he hk
          · have h5 : ¬ p.2 < sm e := fun x => hc ⟨hk, Or.inr x⟩
            have := hlt p.1 h1
            exact ⟨by omega, fun x => by omega⟩
    have h6 := bestN_ok ok sm r (fun x => P x ∨ x = a) _ (fun e he => hn e (by simp [he])) (List.pairwise_cons.1 hs).2 (fun e he x hx => by
      have hae : a < e := (List.pairwise_cons.1 hs).1 e he
      rcases hx with hx | rfl
      · have := hlt x hx; omega
      · exact hae) key
    simp only [bestN]
    have e1 : (fun x => (P x ∨ x = a) ∨ x ∈ r) = fun x => P x ∨ x ∈ a :: r := by
      funext x
      simp only [List.mem_cons, or_assoc]
    rw [e1] at h6
    exact h6
/-- The best encoding of all. -/
def bestE (ok : Int → Bool) (sm : Int → Int) : Int := (bestN ok sm [1, 2, 3, 4, 5, 6] (0, 0)).1
theorem bestE_ok (ok : Int → Bool) (sm : Int → Int) (h : ∀ e, ok e = true → 1 ≤ e ∧ e ≤ 6) :
    (bestE ok sm = 0 → ∀ e, ok e = false) ∧ (bestE ok sm ≠ 0 → 1 ≤ bestE ok sm ∧ bestE ok sm ≤ 6 ∧ ok (bestE ok sm) = true ∧ ∀ e, ok e = true → sm e ≤ sm (bestE ok sm) ∧ (e < bestE ok sm → sm e < sm (bestE ok sm))) := by
  have hb := bestN_ok ok sm [1, 2, 3, 4, 5, 6] (fun _ => False) (0, 0) (by simp) (by decide) (fun _ _ _ hx => hx.elim) ⟨fun _ _ hx => hx.elim, fun h0 => absurd rfl h0⟩
  have mem : ∀ e, ok e = true → (False ∨ e ∈ [1, 2, 3, 4, 5, 6]) := fun e he => Or.inr (by have := h e he; simp; omega)
  unfold bestE
  refine ⟨fun h0 e => ?_, fun h0 => ?_⟩
  · cases hk : ok e with
    | false => rfl
    | true => rw [hb.1 h0 e (mem e hk)] at hk; cases hk
  · obtain ⟨h1, h2, h3, h4⟩ := hb.2 h0
    have h5 := h _ h2
    exact ⟨h5.1, h5.2, h2, fun e he => by have := h4 e (mem e he) he; rw [h3] at this; exact this⟩
end Go.Proofs.Ytpkifomoffhpdaa

/- The walks over score's functions of plain numbers. -/
namespace Go.Proofs.Ytpkifomoffhpdaa
open Go.RowKit

/-- A call hands back a truth value and changes nothing. -/
def PB (w : World) (n : Bool) (e : Ending) (w' : World) : Prop := e = .returned (.bool n) ∧ w = w'
def cPl (x y : Int) : Bool := decide (x < 4 ∧ y < 4)
def cIf (x y n : Int) : Int := if x < 4 ∧ y < 4 then n else 0
def cUtf (x y : Int) : Int := if x = 6 ∧ y = 5 then 6 else cIf x y 2
def cTwin (x y : Int) : Int := if x = 5 ∧ y ≠ 4 then 4 else cIf x y 2
def cLatin (x y : Int) : Int := if (x = 0 ∧ y = 6) ∨ (x = 6 ∧ y = 0) then 5 else if x < 4 ∧ y < 4 then 2 else -1
def cTac (x y : Int) : Int := if x < 4 ∧ y = 4 then 4 else 0
def cWei (e a b x y : Int) : Int :=
  if e = 1 then cUtf x y else if e = 2 then (if a = 27 ∨ b = 27 then 8 else cIf x y 1) else if e = 3 then cTwin x y
  else if e = 4 then cLatin x y else if e = 5 then cTac x y else if e = 6 then cTac y x else 0
theorem cWei_eq (e a b : Int) : cWei e a b (claN a) (claN b) = weiN e a b := by
  unfold weiN cWei plainN cUtf cTwin cLatin cTac cIf
  generalize claN a = x
  generalize claN b = y
  repeat (first | rfl | omega | split)
set_option maxRecDepth 100000 in
set_option maxHeartbeats 1000000 in
theorem class_any (b : Int) (w : World) (h : 0 ≤ b) : Calls Try.prog 22 #[.int .i64 b] w (PI w (claN b)) := by
  go_enter Try.func22, Try.ntmps22
  go_wp2_with fail
  all_goals (go_ret; refine ⟨?_, rfl⟩; (try simp only [beq_iff_eq, beq_eq_false_iff_ne, ne_eq] at *); (try subst_vars); first | (exfalso; omega) | (unfold claN; (repeat (first | rw [if_pos (by omega)] | rw [if_neg (by omega)])); (first | done | rfl)))
set_option maxRecDepth 100000 in
set_option maxHeartbeats 1000000 in
theorem isPlain_any (x y : Int) (w : World) : Calls Try.prog 66 #[.int .i64 x, .int .i64 y] w (PB w (cPl x y)) := by
  go_enter Try.func66, Try.ntmps66
  go_wp2_with fail
  all_goals (go_ret; refine ⟨?_, rfl⟩; unfold cPl; (first | done | rfl | (simp [*]; done) | (simp; omega)))
set_option maxRecDepth 100000 in
set_option maxHeartbeats 1000000 in
theorem ifPlain_any (x y n : Int) (w : World) : Calls Try.prog 40 #[.int .i64 x, .int .i64 y, .int .i64 n] w (PI w (cIf x y n)) := by
  unfold cIf
  by_cases h : x < 4 ∧ y < 4
  · rw [if_pos h]
    have H := fun w1 => isPlain_any x y w1
    rw [show cPl x y = true from by simp [cPl, h]] at H
    replace H := hid H
    clear h
    go_enter Try.func40, Try.ntmps40
    go_wp2_with fail
    refine (H.out _).mono ?_
    rintro r w1 ⟨rfl, rfl⟩
    go_wp2_with fail
    go_ret
    exact ⟨rfl, rfl⟩
  · rw [if_neg h]
    have H := fun w1 => isPlain_any x y w1
    rw [show cPl x y = false from by simp only [cPl, decide_eq_false_iff_not]; exact h] at H
    replace H := hid H
    clear h
    go_enter Try.func40, Try.ntmps40
    go_wp2_with fail
    refine (H.out _).mono ?_
    rintro r w1 ⟨rfl, rfl⟩
    go_wp2_with fail
    go_ret
    exact ⟨rfl, rfl⟩
set_option maxRecDepth 100000 in
set_option maxHeartbeats 1000000 in
theorem utfW_any (x y : Int) (w : World) : Calls Try.prog 39 #[.int .i64 x, .int .i64 y] w (PI w (cUtf x y)) := by
  go_enter Try.func39, Try.ntmps39
  go_wp2_with (first | (go_at_call 40; refine (ifPlain_any _ _ _ _).mono ?_; rintro r w1 ⟨rfl, rfl⟩))
  all_goals (go_ret; refine ⟨?_, rfl⟩; (try simp only [beq_iff_eq, beq_eq_false_iff_ne, ne_eq] at *); (try subst_vars); unfold cUtf; (repeat (first | rw [if_pos (by omega)] | rw [if_neg (by omega)])); (first | done | rfl))
set_option maxRecDepth 100000 in
set_option maxHeartbeats 1000000 in
theorem twinW_any (x y : Int) (w : World) : Calls Try.prog 41 #[.int .i64 x, .int .i64 y] w (PI w (cTwin x y)) := by
  go_enter Try.func41, Try.ntmps41
  go_wp2_with (first | (go_at_call 40; refine (ifPlain_any _ _ _ _).mono ?_; rintro r w1 ⟨rfl, rfl⟩))
  all_goals (go_ret; refine ⟨?_, rfl⟩; (try simp only [bne_iff_ne, bne_eq_false_iff_eq, ne_eq] at *); (try subst_vars); unfold cTwin; (repeat (first | rw [if_pos (by omega)] | rw [if_neg (by omega)])); (first | done | rfl))
set_option maxRecDepth 100000 in
set_option maxHeartbeats 1000000 in
theorem tac_any (x y : Int) (w : World) : Calls Try.prog 43 #[.int .i64 x, .int .i64 y] w (PI w (cTac x y)) := by
  go_enter Try.func43, Try.ntmps43
  go_wp2_with fail
  all_goals (go_ret; refine ⟨?_, rfl⟩; (try simp only [beq_iff_eq, beq_eq_false_iff_ne, ne_eq] at *); (try subst_vars); unfold cTac; (repeat (first | rw [if_pos (by omega)] | rw [if_neg (by omega)])); (first | done | rfl))
end Go.Proofs.Ytpkifomoffhpdaa

/- The walks over score's weights. -/
namespace Go.Proofs.Ytpkifomoffhpdaa
open Go.RowKit

set_option maxRecDepth 100000 in
set_option maxHeartbeats 1000000 in
theorem latinW_of (x y : Int) (w : World) (v a b c d : Bool) (ha : (x == 0) = a) (hb : (y == 6) = b) (hc : (x == 6) = c) (hd : (y == 0) = d) (H : Hid (∀ w1, Calls Try.prog 66 #[.int .i64 x, .int .i64 y] w1 (PB w1 v))) : Calls Try.prog 42 #[.int .i64 x, .int .i64 y] w (PI w (if ((a && b) || (c && d)) = true then 5 else if v = true then 2 else -1)) := by
  cases a <;> cases b <;> cases c <;> cases d <;> cases v
  all_goals
    go_enter Try.func42, Try.ntmps42
    go_wp2_with (first | (go_at_call 66; refine (H.out _).mono ?_; rintro r w1 ⟨rfl, rfl⟩))
    go_ret
    exact ⟨rfl, rfl⟩
theorem latinW_any (x y : Int) (w : World) : Calls Try.prog 42 #[.int .i64 x, .int .i64 y] w (PI w (cLatin x y)) := by
  have h := latinW_of x y w _ _ _ _ _ rfl rfl rfl rfl (hid fun w1 => isPlain_any x y w1)
  have e : (if ((x == 0 && y == 6) || (x == 6 && y == 0)) = true then 5 else if cPl x y = true then 2 else -1) = cLatin x y := by
    unfold cLatin cPl
    simp only [Bool.or_eq_true, Bool.and_eq_true, beq_iff_eq, decide_eq_true_eq]
  rw [e] at h
  exact h
set_option maxRecDepth 100000 in
set_option maxHeartbeats 1000000 in
theorem weight_any (e a b : Int) (w : World) (ha : 0 ≤ a) (hb : 0 ≤ b) : Calls Try.prog 24 #[.int .i64 e, .int .i64 a, .int .i64 b] w (PI w (weiN e a b)) := by
  have H1 := fun w1 => class_any a w1 ha
  have H2 := fun w1 => class_any b w1 hb
  rw [← cWei_eq]
  clear ha hb
  generalize claN a = x at *
  generalize claN b = y at *
  replace H1 := hid H1
  replace H2 := hid H2
  go_enter Try.func24, Try.ntmps24
  go_wp2_with fail
  refine (H1.out _).mono ?_
  rintro r w1 ⟨rfl, rfl⟩
  go_wp2_with fail
  refine (H2.out _).mono ?_
  rintro r w1 ⟨rfl, rfl⟩
  go_wp2_with (first | (go_at_call 40; refine (ifPlain_any _ _ _ _).mono ?_; rintro r w1 ⟨rfl, rfl⟩) | (go_at_call 39; refine (utfW_any _ _ _).mono ?_; rintro r w1 ⟨rfl, rfl⟩) | (go_at_call 41; refine (twinW_any _ _ _).mono ?_; rintro r w1 ⟨rfl, rfl⟩) | (go_at_call 42; refine (latinW_any _ _ _).mono ?_; rintro r w1 ⟨rfl, rfl⟩) | (go_at_call 43; refine (tac_any _ _ _).mono ?_; rintro r w1 ⟨rfl, rfl⟩))
  all_goals (go_ret; refine ⟨?_, rfl⟩; (try simp only [beq_iff_eq, beq_eq_false_iff_ne, ne_eq] at *); (try subst_vars); unfold cWei; (repeat (first | rw [if_pos (by omega)] | rw [if_neg (by omega)])); (first | done | rfl))
end Go.Proofs.Ytpkifomoffhpdaa

/- The walks over score's lists of scores. -/
namespace Go.Proofs.Ytpkifomoffhpdaa
open Go.RowKit

/-- A list of scores, as numbers. -/
def scL (f g : Int → Int) : List Int := [0, 0, f 1, g 1, f 2, g 2, f 3, g 3, f 4, g 4, f 5, g 5, f 6, g 6]
/-- Numbers lie in a block. -/
structure HasL (w : World) (blk : Nat) (l : List Int) : Prop where
  cell : ∀ i (h : i < l.length), w.cell? ⟨blk, i, none⟩ = some (.int .i64 l[i])
  fz : ∀ i, w.frozen? ⟨blk, i, none⟩ = false
theorem HasL.lt {w : World} {blk : Nat} {l : List Int} (h : HasL w blk l) (h0 : 0 < l.length) : blk < w.heap.size := World.block_lt_of_cell? w _ (h.cell 0 h0)
theorem HasL.keep {w w' : World} {blk : Nat} {l : List Int} (h : HasL w blk l) (hk : w'.heap[blk]? = w.heap[blk]?) : HasL w' blk l :=
  ⟨fun i hi => (World.cell?_of_block (a := ⟨blk, i, none⟩) hk).trans (h.cell i hi), fun i => (World.frozen?_of_block (a := ⟨blk, i, none⟩) hk).trans (h.fz i)⟩
theorem HasL.below {w w' : World} {blk B : Nat} {l : List Int} (h : HasL w blk l) (hb : Below B w w') (hB : blk < B) : HasL w' blk l := h.keep (hb.block blk hB)
theorem HasL.alloc {w : World} {blk : Nat} {l : List Int} (h : HasL w blk l) (h0 : 0 < l.length) (o : Obj) : HasL (w.alloc o) blk l := h.keep (Below.heap_alloc w o blk (h.lt h0))
theorem HasL.drew {w : World} {blk : Nat} {l : List Int} (h : HasL w blk l) : HasL w.drew blk l := h.keep rfl
theorem HasL.far {w : World} {blk g : Nat} {l : List Int} (h : HasL w g l) (hne : g ≠ blk) (i : Nat) (u : Value) : HasL (w.setCell ⟨blk, i, none⟩ u) g l := h.keep (Below.heap_setCell w _ u g hne)
theorem HasL.put {w : World} {blk : Nat} {l : List Int} (h : HasL w blk l) (i : Nat) (x : Int) (hi : i < l.length) : HasL (w.setCell ⟨blk, i, none⟩ (.int .i64 x)) blk (l.set i x) := by
  refine ⟨fun j hj => ?_, fun j => ?_⟩
  · by_cases e : i = j
    · subst e
      rw [World.cell?_setCell_same (w := w) (h := h.cell i hi)]
      simp
    · rw [World.cell?_setCell_other (w := w) (h := by intro x; injection x; contradiction), h.cell j (by simpa using hj), List.getElem_set_ne e]
  · simp only [World.frozen?_setCell]
    exact h.fz j
theorem HasL.new (w : World) (c : Array Value) (t : TypeId) (l : List Int) (hc : c.toList = l.map (Value.int .i64)) : HasL (w.alloc (.cells c t)) w.heap.size l := by
  refine ⟨fun i hi => ?_, fun i => by simp [go_sem]⟩
  have h1 : c[i]? = some (.int .i64 l[i]) := by rw [← Array.getElem?_toList, hc, List.getElem?_map, List.getElem?_eq_getElem hi]; rfl
  simp [go_sem, h1]
set_option maxRecDepth 100000 in
set_option maxHeartbeats 1000000 in
theorem HasL.sc {w : World} {blk : Nat} {f g : Int → Int} (h : HasL w blk (scL f g)) : w.cell? ⟨blk, 0, none⟩ = some (.int .i64 0) ∧ w.cell? ⟨blk, 1, none⟩ = some (.int .i64 0) ∧ w.cell? ⟨blk, 2, none⟩ = some (.int .i64 (f 1)) ∧ w.cell? ⟨blk, 3, none⟩ = some (.int .i64 (g 1)) ∧ w.cell? ⟨blk, 4, none⟩ = some (.int .i64 (f 2)) ∧ w.cell? ⟨blk, 5, none⟩ = some (.int .i64 (g 2)) ∧ w.cell? ⟨blk, 6, none⟩ = some (.int .i64 (f 3)) ∧ w.cell? ⟨blk, 7, none⟩ = some (.int .i64 (g 3)) ∧ w.cell? ⟨blk, 8, none⟩ = some (.int .i64 (f 4)) ∧ w.cell? ⟨blk, 9, none⟩ = some (.int .i64 (g 4)) ∧ w.cell? ⟨blk, 10, none⟩ = some (.int .i64 (f 5)) ∧ w.cell? ⟨blk, 11, none⟩ = some (.int .i64 (g 5)) ∧ w.cell? ⟨blk, 12, none⟩ = some (.int .i64 (f 6)) ∧ w.cell? ⟨blk, 13, none⟩ = some (.int .i64 (g 6)) ∧ ∀ i, w.frozen? ⟨blk, i, none⟩ = false :=
  ⟨h.cell 0 (by simp [scL]), h.cell 1 (by simp [scL]), h.cell 2 (by simp [scL]), h.cell 3 (by simp [scL]), h.cell 4 (by simp [scL]), h.cell 5 (by simp [scL]), h.cell 6 (by simp [scL]), h.cell 7 (by simp [scL]), h.cell 8 (by simp [scL]), h.cell 9 (by simp [scL]), h.cell 10 (by simp [scL]), h.cell 11 (by simp [scL]), h.cell 12 (by simp [scL]), h.cell 13 (by simp [scL]), h.fz⟩
theorem load14 {w : World} {blk : Nat} {f g : Int → Int} (h : HasL w blk (scL f g)) : (loadVar 46 ⟨blk, 0, none⟩).run Try.prog w = .ok (.agg #[.int .i64 0, .int .i64 0, .int .i64 (f 1), .int .i64 (g 1), .int .i64 (f 2), .int .i64 (g 2), .int .i64 (f 3), .int .i64 (g 3), .int .i64 (f 4), .int .i64 (g 4), .int .i64 (f 5), .int .i64 (g 5), .int .i64 (f 6), .int .i64 (g 6)]) w := by
  obtain ⟨h0, h1, h2, h3, h4, h5, h6, h7, h8, h9, h10, h11, h12, h13, _⟩ := h.sc
  simp [go_sem, h0, h1, h2, h3, h4, h5, h6, h7, h8, h9, h10, h11, h12, h13]
theorem ret_L {fn : Func} {p : Tmp} (h : fn.results = #[.cell p 46]) {tmps : Array Value} {w : World} {blk : Nat} {f g : Int → Int} (hp : tmps.getD p undef = .pointer (some ⟨blk, 0, none⟩)) (hW : HasL w blk (scL f g)) :
    (results fn tmps).run Try.prog w = .ok (.agg #[.int .i64 0, .int .i64 0, .int .i64 (f 1), .int .i64 (g 1), .int .i64 (f 2), .int .i64 (g 2), .int .i64 (f 3), .int .i64 (g 3), .int .i64 (f 4), .int .i64 (g 4), .int .i64 (f 5), .int .i64 (g 5), .int .i64 (f 6), .int .i64 (g 6)]) w := by
  have hp' : tmps[p]?.getD undef = .pointer (some ⟨blk, 0, none⟩) := by simpa using hp
  simp only [results, h]
  simp [hp', load14 hW, asAddr]
/-- A call hands back a value and changes nothing of what was there. -/
def PV (w : World) (v : Value) (r : Ending) (w' : World) : Prop := r = .returned v ∧ Below w.heap.size w w'
set_option maxRecDepth 100000 in
set_option maxHeartbeats 1000000 in
theorem new_any (w : World) : Calls Try.prog 44 #[] w (PV w (.agg #[.int .i64 0, .int .i64 0, .int .i64 0, .int .i64 0, .int .i64 0, .int .i64 0, .int .i64 0, .int .i64 0, .int .i64 0, .int .i64 0, .int .i64 0, .int .i64 0, .int .i64 0, .int .i64 0])) := by
  go_enter Try.func44, Try.ntmps44
  go_wp2_with fail
  refine bodyPost_ret (ret_L (f := fun _ => 0) (g := fun _ => 0) rfl rfl (HasL.new w _ _ _ rfl)) rfl ⟨rfl, (Below.refl _ _).alloc (Nat.le_refl _) _⟩
end Go.Proofs.Ytpkifomoffhpdaa

/- score.Step. -/
namespace Go.Proofs.Ytpkifomoffhpdaa
open Go.RowKit

/-- The numbers that are there behind k rounds. -/
def upK (k : Int) (f : Int → Int) (e : Int) : Int := if e < k then f e else 0
/-- What holds at the head of Step's loop. -/
def StepR (f g st gg : Int → Int) (w : World) (n : Nat) (i : Value) (wr : World) : Prop :=
  ∃ k : Int, 1 ≤ k ∧ k ≤ 7 ∧ i = .int .i64 k ∧ HasL wr w.heap.size (scL f g) ∧ HasL wr (w.heap.size + 1) (scL (fun _ => 0) (fun _ => 0)) ∧ HasL wr n (scL (upK k st) (upK k gg)) ∧ Below w.heap.size w wr
theorem upL (k : Int) (h1 : 1 ≤ k) (h2 : k ≤ 6) (st gg : Int → Int) : ((scL (upK k st) (upK k gg)).set (2 * k.toNat) (st k)).set (2 * k.toNat + 1) (gg k) = scL (upK (k + 1) st) (upK (k + 1) gg) := by
  have : k = 1 ∨ k = 2 ∨ k = 3 ∨ k = 4 ∨ k = 5 ∨ k = 6 := by omega
  rcases this with rfl | rfl | rfl | rfl | rfl | rfl <;> simp [scL, upK]
theorem upStart (st gg : Int → Int) : scL (upK 1 st) (upK 1 gg) = scL (fun _ => 0) (fun _ => 0) := by simp [scL, upK]
theorem upEnd (st gg : Int → Int) : scL (upK 7 st) (upK 7 gg) = scL st gg := by simp [scL, upK]
theorem HasL.put14 {w : World} {blk : Nat} {f' g' : Int → Int} (h : HasL w blk (scL f' g')) (f g : Int → Int) : HasL ((((((((((((((w.setCell ⟨blk, 0, none⟩ (.int .i64 0)).setCell ⟨blk, 1, none⟩ (.int .i64 0)).setCell ⟨blk, 2, none⟩ (.int .i64 (f 1))).setCell ⟨blk, 3, none⟩ (.int .i64 (g 1))).setCell ⟨blk, 4, none⟩ (.int .i64 (f 2))).setCell ⟨blk, 5, none⟩ (.int .i64 (g 2))).setCell ⟨blk, 6, none⟩ (.int .i64 (f 3))).setCell ⟨blk, 7, none⟩ (.int .i64 (g 3))).setCell ⟨blk, 8, none⟩ (.int .i64 (f 4))).setCell ⟨blk, 9, none⟩ (.int .i64 (g 4))).setCell ⟨blk, 10, none⟩ (.int .i64 (f 5))).setCell ⟨blk, 11, none⟩ (.int .i64 (g 5))).setCell ⟨blk, 12, none⟩ (.int .i64 (f 6))).setCell ⟨blk, 13, none⟩ (.int .i64 (g 6))) blk (scL f g) := by
  have h := ((((((((((((((h.put 0 (0) (by simp [scL])).put 1 (0) (by simp [scL])).put 2 (f 1) (by simp [scL])).put 3 (g 1) (by simp [scL])).put 4 (f 2) (by simp [scL])).put 5 (g 2) (by simp [scL])).put 6 (f 3) (by simp [scL])).put 7 (g 3) (by simp [scL])).put 8 (f 4) (by simp [scL])).put 9 (g 4) (by simp [scL])).put 10 (f 5) (by simp [scL])).put 11 (g 5) (by simp [scL])).put 12 (f 6) (by simp [scL])).put 13 (g 6) (by simp [scL]))
  simpa [scL] using h
theorem put14 {B blk : Nat} {a w : World} (h : Below B a w) (hB : B ≤ blk) (f g : Int → Int) : Below B a ((((((((((((((w.setCell ⟨blk, 0, none⟩ (.int .i64 0)).setCell ⟨blk, 1, none⟩ (.int .i64 0)).setCell ⟨blk, 2, none⟩ (.int .i64 (f 1))).setCell ⟨blk, 3, none⟩ (.int .i64 (g 1))).setCell ⟨blk, 4, none⟩ (.int .i64 (f 2))).setCell ⟨blk, 5, none⟩ (.int .i64 (g 2))).setCell ⟨blk, 6, none⟩ (.int .i64 (f 3))).setCell ⟨blk, 7, none⟩ (.int .i64 (g 3))).setCell ⟨blk, 8, none⟩ (.int .i64 (f 4))).setCell ⟨blk, 9, none⟩ (.int .i64 (g 4))).setCell ⟨blk, 10, none⟩ (.int .i64 (f 5))).setCell ⟨blk, 11, none⟩ (.int .i64 (g 5))).setCell ⟨blk, 12, none⟩ (.int .i64 (f 6))).setCell ⟨blk, 13, none⟩ (.int .i64 (g 6))) := ((((((((((((((h.setCell (p := ⟨blk, 0, none⟩) hB (.int .i64 0)).setCell (p := ⟨blk, 1, none⟩) hB (.int .i64 0)).setCell (p := ⟨blk, 2, none⟩) hB (.int .i64 (f 1))).setCell (p := ⟨blk, 3, none⟩) hB (.int .i64 (g 1))).setCell (p := ⟨blk, 4, none⟩) hB (.int .i64 (f 2))).setCell (p := ⟨blk, 5, none⟩) hB (.int .i64 (g 2))).setCell (p := ⟨blk, 6, none⟩) hB (.int .i64 (f 3))).setCell (p := ⟨blk, 7, none⟩) hB (.int .i64 (g 3))).setCell (p := ⟨blk, 8, none⟩) hB (.int .i64 (f 4))).setCell (p := ⟨blk, 9, none⟩) hB (.int .i64 (g 4))).setCell (p := ⟨blk, 10, none⟩) hB (.int .i64 (f 5))).setCell (p := ⟨blk, 11, none⟩) hB (.int .i64 (g 5))).setCell (p := ⟨blk, 12, none⟩) hB (.int .i64 (f 6))).setCell (p := ⟨blk, 13, none⟩) hB (.int .i64 (g 6)))
theorem StepR.next2 {f g st gg : Int → Int} {w wr : World} {n : Nat} (k : Int) (h1 : 1 ≤ k) (h2 : k ≤ 6) (hn : w.heap.size + 1 < n) (hA : HasL wr w.heap.size (scL f g)) (hE : HasL wr (w.heap.size + 1) (scL (fun _ => 0) (fun _ => 0))) (hN : HasL wr n (scL (upK k st) (upK k gg))) (hb : Below w.heap.size w wr) :
    StepR f g st gg w n (.int .i64 (k + 1)) ((wr.setCell ⟨n, 2 * k.toNat, none⟩ (.int .i64 (st k))).setCell ⟨n, 2 * k.toNat + 1, none⟩ (.int .i64 (gg k))) := by
  refine ⟨k + 1, by omega, by omega, rfl, (hA.far (by omega) _ _).far (by omega) _ _, (hE.far (by omega) _ _).far (by omega) _ _, ?_, (hb.setCell (p := ⟨n, _, none⟩) (by show w.heap.size ≤ n; omega) _).setCell (p := ⟨n, _, none⟩) (by show w.heap.size ≤ n; omega) _⟩
  rw [← upL k h1 h2]
  exact (hN.put _ _ (by simp [scL]; omega)).put _ _ (by simp [scL]; omega)
theorem StepR.next3 {f g st gg : Int → Int} {w wr : World} {n : Nat} (k x : Int) (h1 : 1 ≤ k) (h2 : k ≤ 6) (hn : w.heap.size + 1 < n) (hA : HasL wr w.heap.size (scL f g)) (hE : HasL wr (w.heap.size + 1) (scL (fun _ => 0) (fun _ => 0))) (hN : HasL wr n (scL (upK k st) (upK k gg))) (hb : Below w.heap.size w wr) :
    StepR f g st gg w n (.int .i64 (k + 1)) (((wr.setCell ⟨n, 2 * k.toNat, none⟩ (.int .i64 (st k))).setCell ⟨n, 2 * k.toNat + 1, none⟩ (.int .i64 x)).setCell ⟨n, 2 * k.toNat + 1, none⟩ (.int .i64 (gg k))).drew := by
  refine ⟨k + 1, by omega, by omega, rfl, (((hA.far (by omega) _ _).far (by omega) _ _).far (by omega) _ _).drew, (((hE.far (by omega) _ _).far (by omega) _ _).far (by omega) _ _).drew, ?_, (((hb.setCell (p := ⟨n, _, none⟩) (by show w.heap.size ≤ n; omega) _).setCell (p := ⟨n, _, none⟩) (by show w.heap.size ≤ n; omega) _).setCell (p := ⟨n, _, none⟩) (by show w.heap.size ≤ n; omega) _).drew⟩
  have h := ((hN.put (2 * k.toNat) (st k) (by simp [scL]; omega)).put (2 * k.toNat + 1) x (by simp [scL]; omega)).put (2 * k.toNat + 1) (gg k) (by simp [scL]; omega)
  rw [List.set_set, upL k h1 h2] at h
  exact h.drew
set_option maxRecDepth 100000 in
set_option maxHeartbeats 2000000 in
theorem scStep_first (f g st : Int → Int) (b : Int) (w : World) (HS : Hid (∀ e w1, Calls Try.prog 18 #[.int .i64 e, .int .i64 (f e), .int .i64 b] w1 (PI w1 (st e)))) : Calls Try.prog 45 #[(.agg #[.int .i64 0, .int .i64 0, .int .i64 (f 1), .int .i64 (g 1), .int .i64 (f 2), .int .i64 (g 2), .int .i64 (f 3), .int .i64 (g 3), .int .i64 (f 4), .int .i64 (g 4), .int .i64 (f 5), .int .i64 (g 5), .int .i64 (f 6), .int .i64 (g 6)]), .int .i64 (-1), .int .i64 b] w (PV w (.agg #[.int .i64 0, .int .i64 0, .int .i64 (st 1), .int .i64 (g 1), .int .i64 (st 2), .int .i64 (g 2), .int .i64 (st 3), .int .i64 (g 3), .int .i64 (st 4), .int .i64 (g 4), .int .i64 (st 5), .int .i64 (g 5), .int .i64 (st 6), .int .i64 (g 6)])) := by
  go_enter Try.func45, Try.ntmps45
  go_wp2_with fail
  refine (new_any _).mono ?_
  rintro r w1 ⟨rfl, hb⟩
  have hsz : w.heap.size + 1 < w1.heap.size := by have := hb.size; simp at this; omega
  have hL0 : HasL w1 w.heap.size (scL f g) := HasL.below ((HasL.new w _ _ (scL f g) rfl).alloc (by simp [scL]) _) hb (by simp; omega)
  have hL1 : HasL w1 (w.heap.size + 1) (scL (fun _ => 0) (fun _ => 0)) := by
    have := HasL.below (HasL.new (w.alloc (.cells #[.int .i64 0, .int .i64 0, .int .i64 (f 1), .int .i64 (g 1), .int .i64 (f 2), .int .i64 (g 2), .int .i64 (f 3), .int .i64 (g 3), .int .i64 (f 4), .int .i64 (g 4), .int .i64 (f 5), .int .i64 (g 5), .int .i64 (f 6), .int .i64 (g 6)] 46)) #[.int .i64 0, .int .i64 0, .int .i64 0, .int .i64 0, .int .i64 0, .int .i64 0, .int .i64 0, .int .i64 0, .int .i64 0, .int .i64 0, .int .i64 0, .int .i64 0, .int .i64 0, .int .i64 0] 46 (scL (fun _ => 0) (fun _ => 0)) rfl) hb (by simp)
    simpa using this
  have hB : Below w.heap.size w w1 := two_boxes hb
  have hR : StepR f g st g w w1.heap.size (.int .i64 1) (w1.alloc (.cells #[.int .i64 0, .int .i64 0, .int .i64 0, .int .i64 0, .int .i64 0, .int .i64 0, .int .i64 0, .int .i64 0, .int .i64 0, .int .i64 0, .int .i64 0, .int .i64 0, .int .i64 0, .int .i64 0] 46)) :=
    ⟨1, by omega, by omega, rfl, hL0.alloc (by simp [scL]) _, hL1.alloc (by simp [scL]) _, by rw [upStart]; exact HasL.new _ _ _ _ rfl, hB.alloc (by omega) _⟩
  replace hR := hid hR
  clear hL0 hL1 hB hb
  go_wp2_with fail
  generalize w1.heap.size = n at *
  go_loopw [8] (fun i wr => StepR f g st g w n i wr) (fun i _ => (7 - intOf i).toNat)
  case atStart => exact hR.out
  case round =>
    clear hR
    obtain ⟨k, hk1, hk2, rfl, hA, hE, hN, hb⟩ := hrel
    have : k = 7 ∨ k = 1 ∨ k = 2 ∨ k = 3 ∨ k = 4 ∨ k = 5 ∨ k = 6 := by omega
    rcases this with rfl | this
    · rw [upEnd] at hN
      obtain ⟨n0, n1, n2, n3, n4, n5, n6, n7, n8, n9, n10, n11, n12, n13, nz⟩ := hN.sc
      obtain ⟨p0, p1, p2, p3, p4, p5, p6, p7, p8, p9, p10, p11, p12, p13, pz⟩ := hE.sc
      go_wp2_with fail
      exact bodyPost_ret (ret_L rfl rfl (hE.put14 st g)) rfl ⟨rfl, put14 hb (by omega) st g⟩
    · rcases this with rfl | rfl | rfl | rfl | rfl | rfl
      all_goals
        obtain ⟨p0, p1, p2, p3, p4, p5, p6, p7, p8, p9, p10, p11, p12, p13, pz⟩ := hA.sc
        obtain ⟨n0, n1, n2, n3, n4, n5, n6, n7, n8, n9, n10, n11, n12, n13, nz⟩ := hN.sc
        go_wp2_with (first | (go_at_call 18; refine (HS.out _ _).mono ?_; rintro r w2 ⟨rfl, rfl⟩))
        exact ⟨StepR.next2 _ hk1 (by omega) hsz hA hE hN hb, by simp [intOf]⟩
end Go.Proofs.Ytpkifomoffhpdaa
