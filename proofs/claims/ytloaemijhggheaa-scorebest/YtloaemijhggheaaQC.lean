/- 2 texts of this proof in one file: ScW2, ScS. -/
import Derived.Test.YtloaemijhggheaaScW
import Derived.Test.YtloaemijhggheaaAutoX
/- The walks over score's weights. -/
namespace Go.Proofs.Ytloaemijhggheaa
open Go.RowKit

set_option maxRecDepth 100000 in
set_option maxHeartbeats 1000000 in
theorem latinW_of (x y : Int) (w : World) (v a b c d : Bool) (ha : (x == 0) = a) (hb : (y == 6) = b) (hc : (x == 6) = c) (hd : (y == 0) = d) (H : Hid (∀ w1, Calls Try.prog 88 #[.int .i64 x, .int .i64 y] w1 (PB w1 v))) : Calls Try.prog 60 #[.int .i64 x, .int .i64 y] w (PI w (if ((a && b) || (c && d)) = true then 5 else if v = true then 2 else -1)) := by
  cases a <;> cases b <;> cases c <;> cases d <;> cases v
  all_goals
    go_enter Try.func60, Try.ntmps60
    go_wp2_with (first | (go_at_call 88; refine (H.out _).mono ?_; rintro r w1 ⟨rfl, rfl⟩))
    go_ret
    exact ⟨rfl, rfl⟩
theorem latinW_any (x y : Int) (w : World) : Calls Try.prog 60 #[.int .i64 x, .int .i64 y] w (PI w (cLatin x y)) := by
  have h := latinW_of x y w _ _ _ _ _ rfl rfl rfl rfl (hid fun w1 => isPlain_any x y w1)
  have e : (if ((x == 0 && y == 6) || (x == 6 && y == 0)) = true then 5 else if cPl x y = true then 2 else -1) = cLatin x y := by
    unfold cLatin cPl
    simp only [Bool.or_eq_true, Bool.and_eq_true, beq_iff_eq, decide_eq_true_eq]
  rw [e] at h
  exact h
set_option maxRecDepth 100000 in
set_option maxHeartbeats 1000000 in
theorem weight_any (e a b : Int) (w : World) (ha : 0 ≤ a) (hb : 0 ≤ b) : Calls Try.prog 36 #[.int .i64 e, .int .i64 a, .int .i64 b] w (PI w (weiN e a b)) := by
  have H1 := fun w1 => class_any a w1 ha
  have H2 := fun w1 => class_any b w1 hb
  rw [← cWei_eq]
  clear ha hb
  generalize claN a = x at *
  generalize claN b = y at *
  replace H1 := hid H1
  replace H2 := hid H2
  go_enter Try.func36, Try.ntmps36
  go_wp2_with fail
  refine (H1.out _).mono ?_
  rintro r w1 ⟨rfl, rfl⟩
  go_wp2_with fail
  refine (H2.out _).mono ?_
  rintro r w1 ⟨rfl, rfl⟩
  go_wp2_with (first | (go_at_call 58; refine (ifPlain_any _ _ _ _).mono ?_; rintro r w1 ⟨rfl, rfl⟩) | (go_at_call 57; refine (utfW_any _ _ _).mono ?_; rintro r w1 ⟨rfl, rfl⟩) | (go_at_call 59; refine (twinW_any _ _ _).mono ?_; rintro r w1 ⟨rfl, rfl⟩) | (go_at_call 60; refine (latinW_any _ _ _).mono ?_; rintro r w1 ⟨rfl, rfl⟩) | (go_at_call 61; refine (tac_any _ _ _).mono ?_; rintro r w1 ⟨rfl, rfl⟩))
  all_goals (go_ret; refine ⟨?_, rfl⟩; (try simp only [beq_iff_eq, beq_eq_false_iff_ne, ne_eq] at *); (try subst_vars); unfold cWei; (repeat (first | rw [if_pos (by omega)] | rw [if_neg (by omega)])); (first | done | rfl))
end Go.Proofs.Ytloaemijhggheaa

/- The walks over score's lists of scores. -/
namespace Go.Proofs.Ytloaemijhggheaa
open Go.RowKit

/-- A list of scores, as numbers. -/
def scL (f g : Int → Int) : List Int := [0, 0, f 1, g 1, f 2, g 2, f 3, g 3, f 4, g 4, f 5, g 5, f 6, g 6]
/-- Numbers lie in a block. -/
structure HasL (w : World) (blk : Nat) (l : List Int) : Prop where
  cell : ∀ i (h : i < l.length), w.cell? ⟨blk, i, none⟩ = some (.int .i64 l[i])
  fz : ∀ i, w.frozen? ⟨blk, i, none⟩ = false
theorem HasL.lt {w : World} {blk : Nat} {l : List Int} (h : HasL w blk l) (h0 : 0 < l.length) : blk < w.heap.size := World.block_lt_of_cell? w _ (h.cell 0 h0)
theorem HasL.keep {w w' : World} {blk : Nat} {l : List Int} (h : HasL w blk l) (hk : w'.heap[blk]? = w.heap[blk]?) : HasL w' blk l :=
  ⟨fun i hi => (World.cell?_of_block (a := ⟨blk, i, none⟩) hk).trans (h.cell i hi), fun i => (World.frozen?_of_block (a := ⟨blk, i, none⟩) hk).trans (h.fz i)⟩
theorem HasL.below {w w' : World} {blk B : Nat} {l : List Int} (h : HasL w blk l) (hb : Below B w w') (hB : blk < B) : HasL w' blk l := h.keep (hb.block blk hB)
theorem HasL.alloc {w : World} {blk : Nat} {l : List Int} (h : HasL w blk l) (h0 : 0 < l.length) (o : Obj) : HasL (w.alloc o) blk l := h.keep (Below.heap_alloc w o blk (h.lt h0))
theorem HasL.drew {w : World} {blk : Nat} {l : List Int} (h : HasL w blk l) : HasL w.drew blk l := h.keep rfl
theorem HasL.far {w : World} {blk g : Nat} {l : List Int} (h : HasL w g l) (hne : g ≠ blk) (i : Nat) (u : Value) : HasL (w.setCell ⟨blk, i, none⟩ u) g l := h.keep (Below.heap_setCell w _ u g hne)
theorem HasL.put {w : World} {blk : Nat} {l : List Int} (h : HasL w blk l) (i : Nat) (x : Int) (hi : i < l.length) : HasL (w.setCell ⟨blk, i, none⟩ (.int .i64 x)) blk (l.set i x) := by
  refine ⟨fun j hj => ?_, fun j => ?_⟩
  · by_cases e : i = j
    · subst e
      rw [World.cell?_setCell_same (w := w) (h := h.cell i hi)]
      simp
    · rw [World.cell?_setCell_other (w := w) (h := by intro x; injection x; contradiction), h.cell j (by simpa using hj), List.getElem_set_ne e]
  · simp only [World.frozen?_setCell]
    exact h.fz j
theorem HasL.new (w : World) (c : Array Value) (t : TypeId) (l : List Int) (hc : c.toList = l.map (Value.int .i64)) : HasL (w.alloc (.cells c t)) w.heap.size l := by
  refine ⟨fun i hi => ?_, fun i => by simp [go_sem]⟩
  have h1 : c[i]? = some (.int .i64 l[i]) := by rw [← Array.getElem?_toList, hc, List.getElem?_map, List.getElem?_eq_getElem hi]; rfl
  simp [go_sem, h1]
set_option maxRecDepth 100000 in
set_option maxHeartbeats 1000000 in
theorem HasL.sc {w : World} {blk : Nat} {f g : Int → Int} (h : HasL w blk (scL f g)) : w.cell? ⟨blk, 0, none⟩ = some (.int .i64 0) ∧ w.cell? ⟨blk, 1, none⟩ = some (.int .i64 0) ∧ w.cell? ⟨blk, 2, none⟩ = some (.int .i64 (f 1)) ∧ w.cell? ⟨blk, 3, none⟩ = some (.int .i64 (g 1)) ∧ w.cell? ⟨blk, 4, none⟩ = some (.int .i64 (f 2)) ∧ w.cell? ⟨blk, 5, none⟩ = some (.int .i64 (g 2)) ∧ w.cell? ⟨blk, 6, none⟩ = some (.int .i64 (f 3)) ∧ w.cell? ⟨blk, 7, none⟩ = some (.int .i64 (g 3)) ∧ w.cell? ⟨blk, 8, none⟩ = some (.int .i64 (f 4)) ∧ w.cell? ⟨blk, 9, none⟩ = some (.int .i64 (g 4)) ∧ w.cell? ⟨blk, 10, none⟩ = some (.int .i64 (f 5)) ∧ w.cell? ⟨blk, 11, none⟩ = some (.int .i64 (g 5)) ∧ w.cell? ⟨blk, 12, none⟩ = some (.int .i64 (f 6)) ∧ w.cell? ⟨blk, 13, none⟩ = some (.int .i64 (g 6)) ∧ ∀ i, w.frozen? ⟨blk, i, none⟩ = false :=
  ⟨h.cell 0 (by simp [scL]), h.cell 1 (by simp [scL]), h.cell 2 (by simp [scL]), h.cell 3 (by simp [scL]), h.cell 4 (by simp [scL]), h.cell 5 (by simp [scL]), h.cell 6 (by simp [scL]), h.cell 7 (by simp [scL]), h.cell 8 (by simp [scL]), h.cell 9 (by simp [scL]), h.cell 10 (by simp [scL]), h.cell 11 (by simp [scL]), h.cell 12 (by simp [scL]), h.cell 13 (by simp [scL]), h.fz⟩
theorem load14 {w : World} {blk : Nat} {f g : Int → Int} (h : HasL w blk (scL f g)) : (loadVar 59 ⟨blk, 0, none⟩).run Try.prog w = .ok (.agg #[.int .i64 0, .int .i64 0, .int .i64 (f 1), .int .i64 (g 1), .int .i64 (f 2), .int .i64 (g 2), .int .i64 (f 3), .int .i64 (g 3), .int .i64 (f 4), .int .i64 (g 4), .int .i64 (f 5), .int .i64 (g 5), .int .i64 (f 6), .int .i64 (g 6)]) w := by
  obtain ⟨h0, h1, h2, h3, h4, h5, h6, h7, h8, h9, h10, h11, h12, h13, _⟩ := h.sc
  simp [go_sem, h0, h1, h2, h3, h4, h5, h6, h7, h8, h9, h10, h11, h12, h13]
theorem ret_L {fn : Func} {p : Tmp} (h : fn.results = #[.cell p 59]) {tmps : Array Value} {w : World} {blk : Nat} {f g : Int → Int} (hp : tmps.getD p undef = .pointer (some ⟨blk, 0, none⟩)) (hW : HasL w blk (scL f g)) :
    (results fn tmps).run Try.prog w = .ok (.agg #[.int .i64 0, .int .i64 0, .int .i64 (f 1), .int .i64 (g 1), .int .i64 (f 2), .int .i64 (g 2), .int .i64 (f 3), .int .i64 (g 3), .int .i64 (f 4), .int .i64 (g 4), .int .i64 (f 5), .int .i64 (g 5), .int .i64 (f 6), .int .i64 (g 6)]) w := by
  have hp' : tmps[p]?.getD undef = .pointer (some ⟨blk, 0, none⟩) := by simpa using hp
  simp only [results, h]
  simp [hp', load14 hW, asAddr]
/-- A call hands back a value and changes nothing of what was there. -/
def PV (w : World) (v : Value) (r : Ending) (w' : World) : Prop := r = .returned v ∧ Below w.heap.size w w'
set_option maxRecDepth 100000 in
set_option maxHeartbeats 1000000 in
theorem new_any (w : World) : Calls Try.prog 62 #[] w (PV w (.agg #[.int .i64 0, .int .i64 0, .int .i64 0, .int .i64 0, .int .i64 0, .int .i64 0, .int .i64 0, .int .i64 0, .int .i64 0, .int .i64 0, .int .i64 0, .int .i64 0, .int .i64 0, .int .i64 0])) := by
  go_enter Try.func62, Try.ntmps62
  go_wp2_with fail
  refine bodyPost_ret (ret_L (f := fun _ => 0) (g := fun _ => 0) rfl rfl (HasL.new w _ _ _ rfl)) rfl ⟨rfl, (Below.refl _ _).alloc (Nat.le_refl _) _⟩
end Go.Proofs.Ytloaemijhggheaa
