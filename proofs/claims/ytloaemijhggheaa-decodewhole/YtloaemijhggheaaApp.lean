/- append of one list of numbers to another, both of the call's own or nil. -/
import Derived.Test.YtloaemijhggheaaBase
import Derived.Maps.AppendAt
import Derived.Deep.AppendLies
import Derived.OwnWalk
namespace Go.Proofs.Ytloaemijhggheaa
open Go.RowKit

theorem int_parts : (Try.prog.info? 3).map (fun i => (i.zero, i.size, i.bytes)) = some (some (.int .i64 0), 1, 8) := by kernel_rfl
theorem ints_one (m : List Int) : ∀ u ∈ m.map (Value.int .i64), u.oneCell' = true := fun u hu => by
  obtain ⟨x, _, rfl⟩ := List.mem_map.1 hu
  rfl
theorem Out.shape {w : World} {B : Nat} {v : Value} {l : List Int} (h : Out w B v l) : ∃ a c, v = .slice a l.length c := by
  rcases h.2 with ⟨rfl, hn⟩ | ⟨g, cap, cur, rfl, _⟩
  · exact ⟨none, 0, by rw [hn]⟩
  · exact ⟨_, _, rfl⟩
theorem Out.rows {w : World} {B : Nat} {v : Value} {l : List Int} (h : Out w B v l) (hl : 0 < l.length) :
    ∃ g cap, v = .slice (some ⟨g, 0, none⟩) l.length cap ∧ g < w.heap.size ∧ ∀ j (hj : j < l.length), w.cell? ⟨g, j, none⟩ = some (.int .i64 l[j]) := by
  have h' := h
  rcases h'.2 with ⟨_, h0⟩ | ⟨g, cap, cur, rfl, _⟩
  · omega
  · refine ⟨g, cap, rfl, (World.ownsRow.lt h g rfl).2, fun j hj => ?_⟩
    rw [World.ownsRow.cellAt h j (by omega)]
    simp [hj]
theorem Out.far {w : World} {B : Nat} {v : Value} {l : List Int} (h : Out w B v l) : ∀ k, v.ownBlock = some k → B ≤ k := fun k hk => (World.ownsRow.lt h k hk).1
theorem Out.alloc {w : World} {B : Nat} {v : Value} {l : List Int} (h : Out w B v l) (o : Obj) : Out (w.alloc o) B v l := World.ownsRow.alloc h o
theorem run_appO {w : World} {B B2 : Nat} {v v2 : Value} {l m : List Int} (ty : TypeId) (h : Out w B v l) (h2 : Out w B2 v2 m) (hB : B ≤ w.heap.size) (hn : l.length + m.length ≤ 100000) :
    ∃ v' w', (Builtin.append_ #[22, 22] ty #[v, v2]).run Try.prog w = .ok v' w' ∧ Out w' B v' (l ++ m) ∧ Below B w w' := by
  obtain ⟨i, hi, hz, hs, hby⟩ := info_parts int_parts
  rcases h2.2 with ⟨rfl, h0⟩ | ⟨g, cap, cur, rfl, _⟩
  · have hm : m = [] := List.eq_nil_of_length_eq_zero h0
    subst hm
    refine ⟨v, w, ?_, by simpa using h, Below.refl _ _⟩
    rcases h.2 with ⟨rfl, _⟩ | ⟨g, cap, cur, rfl, _, _, hnc, _⟩
    · simp [Builtin.append_, run_underlying Try.underlying22, sizeOf, typeInfo, hi, Builtin.lenOf, Builtin.firstCells]
    · simp [Builtin.append_, run_underlying Try.underlying22, sizeOf, typeInfo, hi, Builtin.lenOf, Builtin.firstCells, hnc, storeCells]
  · obtain ⟨v', w', hr, ho, hg, _, _⟩ := run_append_own_at (P := Try.prog) w B 22 ty 3 i _ 1 8 Try.underlying22 hi hz hs hby rfl (by omega) v l.length _ h ⟨g, 0, none⟩ m.length cap (m.map (Value.int .i64)) (by simp)
      (World.ownsRow.cells h2 (g := g) rfl) (ints_one m) (by simp only [maxLen]; omega) (by omega) hB
    refine ⟨v', w', hr, ?_, (Below.refl B w).grown hg hB h.far⟩
    unfold Out
    rw [List.length_append, List.map_append]
    exact ho
theorem wp_appO {o : Oper} {a : Act} {w : World} {K : Act → World → Prop} {Q : Exit → Act → World → Prop} (s x : Operand)
    (ho : o.op = .call { callee := .builtin .append, args := #[s, x], argTypes := #[22, 22] }) {B B2 : Nat} {v v2 : Value} {l m : List Int}
    (hs : a.eval s = v) (hx : a.eval x = v2) (h : Out w B v l) (h2 : Out w B2 v2 m) (hB : B ≤ w.heap.size) (hn : l.length + m.length ≤ 100000)
    (hk : ∀ v' w', Out w' B v' (l ++ m) → Below B w w' → K (a.put o.dst v') w') : o.wp Try.prog a w K Q := by
  obtain ⟨v', w', hr, h3, h4⟩ := run_appO o.type h h2 hB hn
  unfold Oper.wp execOp
  simp only [ho, resolve, invoke, builtin, Sem.run_bind, Sem.run_pure, Result.andThen_ok, List.map_toArray, List.map_cons, List.map_nil, hs, hx, hr]
  exact hk v' w' h3 h4
theorem list_appO {ops : Array Oper} {rest : List Oper} {o : Oper} {a : Act} {w : World} {Q : Exit → Act → World → Prop} (hgd : o.guard = none) (s x : Operand)
    (ho : o.op = .call { callee := .builtin .append, args := #[s, x], argTypes := #[22, 22] }) {B B2 : Nat} {v v2 : Value} {l m : List Int}
    (hs : a.eval s = v) (hx : a.eval x = v2) (h : Out w B v l) (h2 : Out w B2 v2 m) (hB : B ≤ w.heap.size) (hn : l.length + m.length ≤ 100000)
    (hk : ∀ v' w', Out w' B v' (l ++ m) → Below B w w' → wpList Try.prog ops Q rest (a.put o.dst v') w') : wpList Try.prog ops Q (o :: rest) a w :=
  wpList_plain hgd fun _ hK => wp_appO s x ho hs hx h h2 hB hn fun v' w' h3 h4 => hK _ _ (hk v' w' h3 h4)
theorem step_appO {ops : Array Oper} {o : Oper} {a : Act} {w : World} {K : Act → World → Prop} {Q : Exit → Act → World → Prop} {E : Prop} (hgd : o.guard = none) (s x : Operand)
    (ho : o.op = .call { callee := .builtin .append, args := #[s, x], argTypes := #[22, 22] }) {B B2 : Nat} {v v2 : Value} {l m : List Int}
    (hs : a.eval s = v) (hx : a.eval x = v2) (h : Out w B v l) (h2 : Out w B2 v2 m) (hB : B ≤ w.heap.size) (hn : l.length + m.length ≤ 100000)
    (hk : ∀ v' w', Out w' B v' (l ++ m) → Below B w w' → K (a.put o.dst v') w') :
    if Region.wanted o (yielded ops a.tmps) = true then Oper.wp Try.prog o a w K Q else E := by
  rw [if_pos (by simp [Region.wanted, hgd])]
  exact wp_appO s x ho hs hx h h2 hB hn hk
/-- The same, and what else stays: every block but the list's own. -/
theorem run_appG {w : World} {B B2 : Nat} {v v2 : Value} {l m : List Int} (ty : TypeId) (h : Out w B v l) (h2 : Out w B2 v2 m) (hB : B ≤ w.heap.size) (hn : l.length + m.length ≤ 100000) :
    ∃ v' w', (Builtin.append_ #[22, 22] ty #[v, v2]).run Try.prog w = .ok v' w' ∧ Out w' B v' (l ++ m) ∧ w.grownBy w' v.ownBlock := by
  obtain ⟨i, hi, hz, hs, hby⟩ := info_parts int_parts
  rcases h2.2 with ⟨rfl, h0⟩ | ⟨g, cap, cur, rfl, _⟩
  · have hm : m = [] := List.eq_nil_of_length_eq_zero h0
    subst hm
    refine ⟨v, w, ?_, by simpa using h, World.grownBy.refl w _⟩
    rcases h.2 with ⟨rfl, _⟩ | ⟨g, cap, cur, rfl, _, _, hnc, _⟩
    · simp [Builtin.append_, run_underlying Try.underlying22, sizeOf, typeInfo, hi, Builtin.lenOf, Builtin.firstCells]
    · simp [Builtin.append_, run_underlying Try.underlying22, sizeOf, typeInfo, hi, Builtin.lenOf, Builtin.firstCells, hnc, storeCells]
  · obtain ⟨v', w', hr, ho, hg, _, _⟩ := run_append_own_at (P := Try.prog) w B 22 ty 3 i _ 1 8 Try.underlying22 hi hz hs hby rfl (by omega) v l.length _ h ⟨g, 0, none⟩ m.length cap (m.map (Value.int .i64)) (by simp)
      (World.ownsRow.cells h2 (g := g) rfl) (ints_one m) (by simp only [maxLen]; omega) (by omega) hB
    refine ⟨v', w', hr, ?_, hg⟩
    unfold Out
    rw [List.length_append, List.map_append]
    exact ho
theorem step_appG {ops : Array Oper} {o : Oper} {a : Act} {w : World} {K : Act → World → Prop} {Q : Exit → Act → World → Prop} {E : Prop} (hgd : o.guard = none) (s x : Operand)
    (ho : o.op = .call { callee := .builtin .append, args := #[s, x], argTypes := #[22, 22] }) {B B2 : Nat} {v v2 : Value} {l m : List Int}
    (hs : a.eval s = v) (hx : a.eval x = v2) (h : Out w B v l) (h2 : Out w B2 v2 m) (hB : B ≤ w.heap.size) (hn : l.length + m.length ≤ 100000)
    (hk : ∀ v' w', Out w' B v' (l ++ m) → w.grownBy w' v.ownBlock → K (a.put o.dst v') w') :
    if Region.wanted o (yielded ops a.tmps) = true then Oper.wp Try.prog o a w K Q else E := by
  rw [if_pos (by simp [Region.wanted, hgd])]
  obtain ⟨v', w', hr, h3, h4⟩ := run_appG o.type h h2 hB hn
  unfold Oper.wp execOp
  simp only [ho, resolve, invoke, builtin, Sem.run_bind, Sem.run_pure, Result.andThen_ok, List.map_toArray, List.map_cons, List.map_nil, hs, hx, hr]
  exact hk v' w' h3 h4
theorem HasS.grown {w w' : World} {g : Nat} {s : S} {row : Option Nat} (h : HasS w g s) (hg : w.grownBy w' row) (hne : some g ≠ row) : HasS w' g s := h.keep (hg.block g h.lt hne)
theorem Out.far7 {w : World} {B blk : Nat} {v : Value} {l : List Int} (h : Out w B v l) (hne : some blk ≠ v.ownBlock) (u0 u1 u2 u3 u4 u5 u6 : Value) :
    Out (((((((w.setCell ⟨blk, 0, none⟩ u0).setCell ⟨blk, 1, none⟩ u1).setCell ⟨blk, 2, none⟩ u2).setCell ⟨blk, 3, none⟩ u3).setCell ⟨blk, 4, none⟩ u4).setCell ⟨blk, 5, none⟩ u5).setCell ⟨blk, 6, none⟩ u6) B v l := by
  have one : ∀ (w : World) (i : Nat) (u : Value), Out w B v l → Out (w.setCell ⟨blk, i, none⟩ u) B v l := fun w i u h =>
    World.ownsRow.kept (row := some blk) h ⟨rfl, rfl, rfl, by simp [World.setCell], fun k _ hne => Below.heap_setCell w _ u k (fun e => hne (by rw [e]))⟩ (.inr (Ne.symm hne))
  exact one _ _ _ (one _ _ _ (one _ _ _ (one _ _ _ (one _ _ _ (one _ _ _ (one _ _ _ h))))))
theorem Out.apart {w : World} {B g : Nat} {v : Value} {l : List Int} (h : Out w B v l) (hg : w.heap.size ≤ g) : some g ≠ v.ownBlock := fun e => by
  have := (World.ownsRow.lt h g e.symm).2
  omega
end Go.Proofs.Ytloaemijhggheaa
