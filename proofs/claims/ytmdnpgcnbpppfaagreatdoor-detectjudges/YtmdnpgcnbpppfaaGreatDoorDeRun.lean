/- The landed Run out of a detector's contracts; a list of acts that is copied. -/
import Derived.Test.YtmdnpgcnbpppfaaGreatDoorQH
import Derived.Deep.RegionWith
namespace Go.Proofs.YtmdnpgcnbpppfaaGreatDoor
open Go.RowKit

theorem flat_at {α β : Type} (f : α → List β) (n : Nat) (hf : ∀ x, (f x).length = n) : ∀ (l : List α) (i : Nat) (h : i < l.length) (r : Nat), r < n → (l.flatMap f)[i * n + r]? = (f l[i])[r]?
  | x :: t, 0, _, r, hr => by
    rw [List.flatMap_cons, Nat.zero_mul, Nat.zero_add, List.getElem?_append_left (by rw [hf]; exact hr)]
    rfl
  | x :: t, i + 1, h, r, hr => by
    rw [List.flatMap_cons, List.getElem?_append_right (by rw [hf, Nat.succ_mul]; omega), hf, show (i + 1) * n + r - n = i * n + r from by rw [Nat.succ_mul]; omega]
    exact flat_at f n hf t i (by simpa using h) r hr
theorem flat_len {α β : Type} (f : α → List β) (n : Nat) (hf : ∀ x, (f x).length = n) : ∀ (l : List α), (l.flatMap f).length = l.length * n
  | [] => by simp
  | x :: t => by rw [List.flatMap_cons, List.length_append, hf, flat_len f n hf t, List.length_cons, Nat.succ_mul]; omega
/-- An act's cells; a reply's cells. -/
def cells2 (p : Int × ByteArray) : List Value := [.int .i64 p.1, .string p.2]
def cells5 (p : Rp × Option Addr × Nat) : List Value := [.int .i64 p.1.code, .int .i64 p.1.vd.enc, .int .i64 p.1.vd.why, .bool p.1.vd.fin, .slice p.2.1 p.1.out.length p.2.2]
theorem cells2_len (p : Int × ByteArray) : (cells2 p).length = 2 := rfl
theorem cells5_len (p : Rp × Option Addr × Nat) : (cells5 p).length = 5 := rfl
theorem act_parts : (Tryz.prog.info? 31).map (fun i => (i.zero, i.size, i.bytes)) = some (some (.agg #[.int .i64 0, .string ⟨#[]⟩]), 2, 24) := by kernel_rfl
theorem rep_parts : (Tryz.prog.info? 36).map (fun i => (i.zero, i.size, i.bytes)) = some (some (.agg #[.int .i64 0, .int .i64 0, .int .i64 0, .bool false, .slice none 0 0]), 5, 56) := by kernel_rfl
theorem flat2_at {w : World} {lb lo : Nat} {l : List (Int × ByteArray)} (hc : ∀ i (h : i < l.length), w.cell? ⟨lb, lo + i * 2, none⟩ = some (.int .i64 l[i].1) ∧ w.cell? ⟨lb, lo + i * 2 + 1, none⟩ = some (.string l[i].2)) :
    ∀ j u, (l.flatMap cells2)[j]? = some u → w.cell? ((⟨lb, lo, none⟩ : Addr).add j) = some u := by
  intro j u hj
  have hlt : j < l.length * 2 := by
    have := (List.getElem?_eq_some_iff.1 hj).1
    rw [flat_len cells2 2 cells2_len] at this
    exact this
  have hi : j / 2 < l.length := by omega
  have hm : j % 2 < 2 := Nat.mod_lt _ (by decide)
  have e : j = j / 2 * 2 + j % 2 := by omega
  rw [e, flat_at cells2 2 cells2_len l (j / 2) hi (j % 2) hm] at hj
  obtain ⟨c0, c1⟩ := hc (j / 2) hi
  rw [Addr.add_lit]
  rcases Nat.mod_two_eq_zero_or_one j with h0 | h0
  · rw [h0] at hj e
    simp only [cells2, List.getElem?_cons_zero, Option.some.injEq] at hj
    rw [e, ← hj]
    exact c0
  · rw [h0] at hj e
    simp only [cells2, List.getElem?_cons_succ, List.getElem?_cons_zero, Option.some.injEq] at hj
    rw [e, ← hj]
    exact c1
/-- append([]api.Act(nil), l...). -/
theorem run_copy {w : World} (ty : TypeId) (lb lo cap : Nat) (l : List (Int × ByteArray)) (hc : ∀ i (h : i < l.length), w.cell? ⟨lb, lo + i * 2, none⟩ = some (.int .i64 l[i].1) ∧ w.cell? ⟨lb, lo + i * 2 + 1, none⟩ = some (.string l[i].2)) (hn : l.length * 24 ≤ 140737488355328) :
    ∃ v' w', (Builtin.append_ #[40, 40] ty #[.slice none 0 0, .slice (some ⟨lb, lo, none⟩) l.length cap]).run Tryz.prog w = .ok v' w' ∧ ActsIn w' v' l ∧ Below w.heap.size w w' := by
  obtain ⟨i, hi, hz, hs, hby⟩ := info_parts act_parts
  obtain ⟨v', w', hr, ho, hg, hnil, _⟩ := run_append_own_at (P := Tryz.prog) w w.heap.size 40 ty 31 i _ 2 24 Tryz.underlying40 hi hz hs hby rfl (by decide) (.slice none 0 0) 0 [] (World.ownsRow_nil _ _ _ _) ⟨lb, lo, none⟩ l.length cap (l.flatMap cells2) (flat_len cells2 2 cells2_len l)
    (flat2_at hc) (fun u hu => by
      obtain ⟨p, _, hp⟩ := List.mem_flatMap.1 hu
      simp only [cells2, List.mem_cons, List.not_mem_nil, or_false] at hp
      rcases hp with rfl | rfl <;> rfl) (by simp only [maxLen]; omega) (by omega) (Nat.le_refl _)
  rw [Nat.zero_add, List.nil_append] at ho
  refine ⟨v', w', hr, ?_, (Below.refl _ _).grown hg (Nat.le_refl _) (fun k hk => by simp [Value.ownBlock] at hk)⟩
  have hcell := fun g (hv : v'.ownBlock = some g) => World.ownsRow.cells ho hv
  rcases ho.2 with ⟨rfl, h0⟩ | ⟨g, cap', cur, rfl, _, hgo, _⟩
  · exact Or.inl ⟨rfl, List.eq_nil_of_length_eq_zero h0⟩
  · refine Or.inr ⟨g, 0, cap', rfl, by simp only [maxLen]; omega, fun _ => (Array.getElem?_eq_some_iff.1 hgo).1, fun j hj => ?_⟩
    have a0 := flat_at cells2 2 cells2_len l j hj 0 (by decide)
    have a1 := flat_at cells2 2 cells2_len l j hj 1 (by decide)
    have c0 := hcell g rfl (j * 2 + 0) (.int .i64 l[j].1) (by rw [a0]; rfl)
    have c1 := hcell g rfl (j * 2 + 1) (.string l[j].2) (by rw [a1]; rfl)
    rw [Addr.add_lit] at c0 c1
    exact ⟨c0, c1⟩
theorem run_copy_nil {w : World} (ty : TypeId) : (Builtin.append_ #[40, 40] ty #[.slice none 0 0, .slice none 0 0]).run Tryz.prog w = .ok (.slice none 0 0) w := by
  obtain ⟨i, hi, hz, hs, hby⟩ := info_parts act_parts
  simp [Builtin.append_, run_underlying Tryz.underlying40, sizeOf, typeInfo, hi, Builtin.lenOf, Builtin.firstCells]
theorem run_copy_any {w : World} (ty : TypeId) (v : Value) (l : List (Int × ByteArray)) (hA : ActsIn w v l) (hn : l.length * 24 ≤ 140737488355328) :
    ∃ v' w', (Builtin.append_ #[40, 40] ty #[.slice none 0 0, v]).run Tryz.prog w = .ok v' w' ∧ ActsIn w' v' l ∧ Below w.heap.size w w' := by
  rcases hA with ⟨rfl, rfl⟩ | ⟨lb, lo, cap, rfl, _, _, hc⟩
  · exact ⟨_, _, run_copy_nil ty, Or.inl ⟨rfl, rfl⟩, Below.refl _ _⟩
  · exact run_copy ty lb lo cap l hc hn
theorem list_copy {ops : Array Oper} {rest : List Oper} {o : Oper} {a : Act} {w : World} {Q : Exit → Act → World → Prop} (hgd : o.guard = none) (s x : Operand)
    (ho : o.op = .call { callee := .builtin .append, args := #[s, x], argTypes := #[40, 40] }) {v : Value} {l : List (Int × ByteArray)}
    (hs : a.eval s = .slice none 0 0) (hx : a.eval x = v) (hA : ActsIn w v l) (hn : l.length * 24 ≤ 140737488355328)
    (hk : ∀ v' w', ActsIn w' v' l → Below w.heap.size w w' → wpList Tryz.prog ops Q rest (a.put o.dst v') w') : wpList Tryz.prog ops Q (o :: rest) a w :=
  wpList_plain hgd fun _ hK => by
    obtain ⟨v', w', hr, h3, h4⟩ := run_copy_any o.type v l hA hn
    unfold Oper.wp execOp
    simp only [ho, resolve, invoke, builtin, Sem.run_bind, Sem.run_pure, Result.andThen_ok, List.map_toArray, List.map_cons, List.map_nil, hs, hx, hr]
    exact hK _ _ (hk v' w' h3 h4)
/-- Replies that lie in a row of one's own. -/
structure Reps (w : World) (B g n k : Nat) (rs : List (Rp × Option Addr × Nat)) : Prop where
  own : w.ownsRow B 36 5 (.slice (some ⟨g, 0, none⟩) k n) k (rs.flatMap cells5)
  outs : ∀ p ∈ rs, Out w B (.slice p.2.1 p.1.out.length p.2.2) p.1.out
theorem Reps.len {w : World} {B g n k : Nat} {rs : List (Rp × Option Addr × Nat)} (h : Reps w B g n k rs) : rs.length = k := by
  have := h.own.1
  rw [flat_len cells5 5 cells5_len] at this
  omega
theorem Reps.lt {w : World} {B g n k : Nat} {rs : List (Rp × Option Addr × Nat)} (h : Reps w B g n k rs) : B ≤ g ∧ g < w.heap.size := World.ownsRow.lt h.own g rfl
theorem Reps.keep {w w' : World} {B g n k : Nat} {rs : List (Rp × Option Addr × Nat)} (h : Reps w B g n k rs) (hg : w'.heap[g]? = w.heap[g]?) (ho : ∀ p ∈ rs, Out w' B (.slice p.2.1 p.1.out.length p.2.2) p.1.out) : Reps w' B g n k rs := by
  refine ⟨⟨h.own.1, ?_⟩, ho⟩
  rcases h.own.2 with ⟨h1, _⟩ | ⟨g', cap, cur, e, hb, hh, hr⟩
  · cases h1
  · obtain rfl : g = g' := by injection e with e _ _; injection e with e; injection e
    exact Or.inr ⟨g, cap, cur, e, hb, hg.trans hh, hr⟩
theorem Reps.only {F : Nat → Prop} {w w' : World} {B g n k : Nat} {rs : List (Rp × Option Addr × Nat)} (h : Reps w B g n k rs) (ho : Only F w w') (hg : ¬ F g) (hF : ∀ p ∈ rs, ∀ x, (Value.slice p.2.1 p.1.out.length p.2.2).ownBlock = some x → ¬ F x) : Reps w' B g n k rs :=
  h.keep (ho.block g h.lt.2 hg) fun p hp => (h.outs p hp).only ho (hF p hp)
theorem Reps.below {w w' : World} {B g n k : Nat} {rs : List (Rp × Option Addr × Nat)} (h : Reps w B g n k rs) (hb : Below w.heap.size w w') : Reps w' B g n k rs :=
  h.keep (hb.block g h.lt.2) fun p hp => (h.outs p hp).below hb
theorem Reps.cells {w : World} {B g n k : Nat} {rs : List (Rp × Option Addr × Nat)} (h : Reps w B g n k rs) (i : Nat) (hi : i < rs.length) :
    w.cell? ⟨g, i * 5, none⟩ = some (.int .i64 rs[i].1.code) ∧ w.cell? ⟨g, i * 5 + 1, none⟩ = some (.int .i64 rs[i].1.vd.enc) ∧ w.cell? ⟨g, i * 5 + 2, none⟩ = some (.int .i64 rs[i].1.vd.why) ∧ w.cell? ⟨g, i * 5 + 3, none⟩ = some (.bool rs[i].1.vd.fin) ∧ w.cell? ⟨g, i * 5 + 4, none⟩ = some (.slice rs[i].2.1 rs[i].1.out.length rs[i].2.2) := by
  have hc : ∀ r (hr : r < 5) u, (cells5 rs[i])[r]? = some u → w.cell? ⟨g, i * 5 + r, none⟩ = some u := fun r hr u hu => by
    have := World.ownsRow.cells h.own (g := g) rfl (i * 5 + r) u (by rw [flat_at cells5 5 cells5_len rs i hi r hr]; exact hu)
    rw [Addr.add_lit, Nat.zero_add] at this
    exact this
  exact ⟨hc 0 (by decide) _ rfl, hc 1 (by decide) _ rfl, hc 2 (by decide) _ rfl, hc 3 (by decide) _ rfl, hc 4 (by decide) _ rfl⟩
/-- A row of numbers is no row of replies. -/
theorem Reps.apart {w : World} {B B' g n k : Nat} {rs : List (Rp × Option Addr × Nat)} {v : Value} {l : List Int} (h : Reps w B g n k rs) (ho : Out w B' v l) : v.ownBlock = none ∨ v.ownBlock ≠ some g := by
  rcases ho.2 with ⟨rfl, _⟩ | ⟨g', cap, cur, rfl, _, hh, _⟩
  · exact Or.inl rfl
  · right
    intro e
    simp only [Value.ownBlock, Option.some.injEq] at e
    subst e
    rcases h.own.2 with ⟨h1, _⟩ | ⟨g2, cap2, cur2, e2, _, hh2, _⟩
    · cases h1
    · obtain rfl : g' = g2 := by injection e2 with e _ _; injection e with e; injection e
      rw [hh] at hh2
      injection hh2 with hh2
      injection hh2 with _ ht _
      exact absurd ht (by decide)
variable {W : World} {best : List UInt8 → Int} {dec : Int → List UInt8 → List Int}
/-- An act, whose reply shares no memory with the detector. -/
def ActR (C : DetC W best dec) : Prop := ∀ (w : World) (F : Nat → Prop) (a : Addr) (d : Dt) (k : Int) (b : ByteArray), Below W.heap.size W w → C.IsD w F a d →
    Calls Tryz.prog 14 #[.pointer (some a), .agg #[.int .i64 k, .string b]] w fun e w' =>
    ∃ A c F', e = .returned (rpV (Dt.act best dec d k b.data.toList).1 A c) ∧ Out w' w.heap.size (.slice A (Dt.act best dec d k b.data.toList).1.out.length c) (Dt.act best dec d k b.data.toList).1.out ∧ C.IsD w' F' a (Dt.act best dec d k b.data.toList).2 ∧ (∀ k, F' k → F k ∨ w.heap.size ≤ k) ∧ Only F w w' ∧ Below W.heap.size W w' ∧
      ∀ x, (Value.slice A (Dt.act best dec d k b.data.toList).1.out.length c).ownBlock = some x → ¬ F' x
/-- What holds at the head of Run's loop. -/
def RunR (C : DetC W best dec) (l : List (Int × ByteArray)) (h0 : Int) (a : Addr) (g : Nat) (w : World) (v i : Value) (wr : World) : Prop :=
  ∃ (k : Nat) (F : Nat → Prop) (rs : List (Rp × Option Addr × Nat)), k ≤ l.length ∧ i = .int .i64 k ∧ v = .slice (some ⟨g, 0, none⟩) k l.length ∧ C.IsD wr F a (dtAt best dec h0 l k) ∧ (∀ b, F b → w.heap.size ≤ b) ∧ ¬ F g ∧
    (∀ p ∈ rs, ∀ x, (Value.slice p.2.1 p.1.out.length p.2.2).ownBlock = some x → ¬ F x) ∧ Reps wr w.heap.size g l.length k rs ∧ rs.map (·.1) = Dt.run best dec ⟨h0, [], false, 0⟩ (plainA (l.take k)) ∧ Below w.heap.size w wr
/-- What Run hands back. -/
def RunP (best : List UInt8 → Int) (dec : Int → List UInt8 → List Int) (l : List (Int × ByteArray)) (h0 : Int) (w : World) (e : Ending) (w' : World) : Prop :=
  ∃ g rs, e = .returned (.tuple #[.slice (some ⟨g, 0, none⟩) l.length l.length, .int .i64 0]) ∧ Reps w' w.heap.size g l.length l.length rs ∧ rs.map (·.1) = Dt.run best dec ⟨h0, [], false, 0⟩ (plainA l) ∧ Below w.heap.size w w'
theorem run_next (h0 : Int) (l : List (Int × ByteArray)) (k : Nat) (h : k < l.length) : Dt.run best dec ⟨h0, [], false, 0⟩ (plainA (l.take (k + 1))) = Dt.run best dec ⟨h0, [], false, 0⟩ (plainA (l.take k)) ++ [(Dt.act best dec (dtAt best dec h0 l k) l[k].1 l[k].2.data.toList).1] := by
  unfold dtAt plainA
  rw [List.take_add_one, List.getElem?_eq_getElem h, Option.toList_some, List.map_append, List.map_cons, List.map_nil]
  exact run_snoc best dec _ _ _ _
/-- One reply more. -/
theorem Reps.snoc {w1 w2 : World} {B g n k : Nat} {rs : List (Rp × Option Addr × Nat)} {p : Rp × Option Addr × Nat} (h : Reps w1 B g n k rs) (ho : Out w1 B (.slice p.2.1 p.1.out.length p.2.2) p.1.out) (hown : w2.ownsRow B 36 5 (.slice (some ⟨g, 0, none⟩) (k + 1) n) (k + 1) (rs.flatMap cells5 ++ cells5 p)) (hg : w1.grownBy w2 (some g)) : Reps w2 B g n (k + 1) (rs ++ [p]) := by
  refine ⟨by rw [List.flatMap_append, List.flatMap_cons, List.flatMap_nil, List.append_nil]; exact hown, fun q hq => ?_⟩
  have key : ∀ q : Rp × Option Addr × Nat, Out w1 B (.slice q.2.1 q.1.out.length q.2.2) q.1.out → Out w2 B (.slice q.2.1 q.1.out.length q.2.2) q.1.out := fun q hq => World.ownsRow.kept hq hg (h.apart hq)
  rcases List.mem_append.1 hq with hq | hq
  · exact key q (h.outs q hq)
  · rw [List.mem_singleton] at hq
    subst hq
    exact key _ ho
set_option maxRecDepth 100000 in
set_option maxHeartbeats 1000000 in
theorem run_some (C : DetC W best dec) (HR : ActR C) (s : ByteArray) (lb lo cap : Nat) (l : List (Int × ByteArray)) (w : World) (hs : s.size ≤ 140737488355328) (hw : Below W.heap.size W w) (hn : l.length ≤ 300) (hlb : l ≠ [] → lb < w.heap.size)
    (hc : ∀ i (h : i < l.length), w.cell? ⟨lb, lo + i * 2, none⟩ = some (.int .i64 l[i].1) ∧ w.cell? ⟨lb, lo + i * 2 + 1, none⟩ = some (.string l[i].2)) (h0 : Int) (hh : Hid (findL s.data.toList = h0)) :
    Calls Tryz.prog 19 #[.string s, .slice (some ⟨lb, lo, none⟩) l.length cap] w (RunP best dec l h0 w) := by
  have HN := hid (fun w1 h => C.new s w1 hs h)
  replace hc := hid hc
  have hn' : (l.length : Int) ≤ 300 := by omega
  obtain ⟨i0, hi, hz0, hz1, hz2⟩ := info_parts rep_parts
  go_enter Tryz.func19, Tryz.ntmps19
  go_wp2_with fail
  refine (HN.out _ hw).mono ?_
  rintro r w1 ⟨a, F, rfl, hD, hF, hb1⟩
  rw [hh.out] at hD
  go_wp2_with (at_make; refine wpList_make_own _ rfl _ _ 47 rfl w.heap.size 36 i0 _ 5 Tryz.underlying47 hi hz0 hz1 .i64 .i64 _ l.length rfl rfl rfl (by rw [hz2]; omega) (by unfold maxLen; omega) hb1.size ?_; intro w2 hown2 hgrow2)
  have hb12 : Below w1.heap.size w1 w2 := (Below.refl _ _).grown hgrow2 (Nat.le_refl _) (fun k hk => by cases hk)
  have hb02 := hb1.trans (hb12.mono hb1.size)
  have hR0 : RunR C l h0 a w1.heap.size w (.slice (some ⟨w1.heap.size, 0, none⟩) 0 l.length) (.int .i64 0) w2 :=
    ⟨0, F, [], Nat.zero_le _, rfl, rfl, C.below hD hb12, hF, C.nF hD (Nat.le_refl _), (fun p hp => by cases hp), ⟨hown2, (fun p hp => by cases hp)⟩, rfl, hb02⟩
  replace hR0 := hid hR0
  clear hD hF hb1 hb12 hb02 hown2 hgrow2 HN
  generalize w1.heap.size = g at *
  go_loopw [7, 20] (fun v i wr => RunR C l h0 a g w v i wr) (fun _ i _ => l.length - (intOf i).toNat)
  case atStart => exact hR0.out
  case round =>
    clear hR0
    obtain ⟨k, F, rs, hk, rfl, rfl, hD, hF, hng, hnF, hRp, hrun, hb⟩ := hrel
    by_cases hlt : k < l.length
    · have b0 : (0 : Int) ≤ (k : Int) := by omega
      have b1 : (k : Int) < (l.length : Int) := by omega
      have hlb' := hlb (by intro x; simp [x] at hlt)
      have e0 : wr.cell? ⟨lb, lo + k * 2, none⟩ = some (.int .i64 l[k].1) := (World.cell?_of_block (a := ⟨lb, lo + k * 2, none⟩) (hb.block lb hlb')).trans (hc.out k hlt).1
      have e1 : wr.cell? ⟨lb, lo + k * 2 + 1, none⟩ = some (.string l[k].2) := (World.cell?_of_block (a := ⟨lb, lo + k * 2 + 1, none⟩) (hb.block lb hlb')).trans (hc.out k hlt).2
      have hww := hw.trans (hb.mono hw.size)
      have hD1 := C.alloc hD (.cells #[.int .i64 l[k].1, .string l[k].2] 31)
      have hw1 := hww.alloc hww.size (.cells #[.int .i64 l[k].1, .string l[k].2] 31)
      have H1 := HR _ F a _ l[k].1 l[k].2 hw1 hD1
      have hrn := run_next (best := best) (dec := dec) h0 l k hlt
      have hdn := dtAt_next (best := best) (dec := dec) h0 l k hlt
      have hRp1 := hRp.below ((Below.refl wr.heap.size wr).alloc (Nat.le_refl _) (.cells #[.int .i64 l[k].1, .string l[k].2] 31))
      have hb1 := hb.alloc hb.size (.cells #[.int .i64 l[k].1, .string l[k].2] 31)
      have hlw : lb < wr.heap.size := Nat.lt_of_lt_of_le hlb' hb.size
      generalize Dt.act best dec (dtAt best dec h0 l k) l[k].1 l[k].2.data.toList = RP at *
      obtain ⟨⟨rc, ⟨re, ry, rf⟩, ro⟩, d1⟩ := RP
      simp only [rpV] at H1 hrn hdn
      replace H1 := hid H1
      replace hrn := hid hrn
      replace hdn := hid hdn
      generalize l[k].1 = kk at *
      generalize l[k].2 = tt at *
      go_wp2_with fail
      generalize wr.alloc (.cells #[.int .i64 kk, .string tt] 31) = u1 at *
      refine (H1.out).mono ?_
      rintro r u2 ⟨A2, c2, F2, rfl, hO2, hD2, hF2, ho2, hw2, hx2⟩
      have hRp2 := hRp1.only ho2 hng hnF
      have hg1 := hRp1.lt.2
      have hng2 := nF_next hng hF2 hg1
      have hb2 := hb1.trans (ho2.below hb1.size hF)
      have hRp3 := hRp2.below ((Below.refl u2.heap.size u2).alloc (Nat.le_refl _) (.cells #[.int .i64 rc, .int .i64 re, .int .i64 ry, .bool rf, .slice A2 ro.length c2] 36))
      have hD3 := C.alloc hD2 (.cells #[.int .i64 rc, .int .i64 re, .int .i64 ry, .bool rf, .slice A2 ro.length c2] 36)
      have hO3 := (hO2.base hb1.size).alloc (.cells #[.int .i64 rc, .int .i64 re, .int .i64 ry, .bool rf, .slice A2 ro.length c2] 36)
      have hb3 := hb2.alloc hb2.size (.cells #[.int .i64 rc, .int .i64 re, .int .i64 ry, .bool rf, .slice A2 ro.length c2] 36)
      have hcs : ∀ j u, (cells5 (⟨rc, ⟨re, ry, rf⟩, ro⟩, A2, c2))[j]? = some u → (u2.alloc (.cells #[.int .i64 rc, .int .i64 re, .int .i64 ry, .bool rf, .slice A2 ro.length c2] 36)).cell? ((⟨u2.heap.size, 0, none⟩ : Addr).add j) = some u := fun j u hj => by
        rw [Addr.add_lit, Nat.zero_add, World.cell?_alloc_mark]
        simpa [cells5] using hj
      have h1c : ∀ u ∈ cells5 (⟨rc, ⟨re, ry, rf⟩, ro⟩, A2, c2), u.oneCell' = true := fun u hu => by
        simp only [cells5, List.mem_cons, List.not_mem_nil, or_false] at hu
        rcases hu with rfl | rfl | rfl | rfl | rfl <;> rfl
      go_wp2_with (at_builtin; refine wpList_append_fits _ rfl (.tmp 24) (.tmp 28) 47 rfl w.heap.size 36 i0 5 Tryz.underlying47 hi hz1 g k l.length _ rfl hRp3.own ⟨u2.heap.size, 0, none⟩ 1 1 (cells5 (⟨rc, ⟨re, ry, rf⟩, ro⟩, A2, c2)) rfl rfl hcs h1c (by omega) ?_; intro u4 hown4 hg4)
      go_roundw
      case rel =>
        have hdn := hdn.out
        have hrn := hrn.out
        have hD4 : C.IsD u4 F2 a d1 := C.keep hD3 (fun x hx => hg4.block x (C.lt hD3 x hx).2 (fun e => hng2 (by injection e with e; exact e ▸ hx)))
        rw [← hdn] at hD4
        refine ⟨k + 1, F2, rs ++ [(⟨rc, ⟨re, ry, rf⟩, ro⟩, A2, c2)], by omega, by go_num, rfl, hD4, fun b hb' => ?_, hng2, fun p hp x hx => ?_, hRp3.snoc hO3 hown4 hg4, ?_, hb3.grown hg4 hb3.size (fun x e => by injection e with e; exact e ▸ hRp.lt.1)⟩
        · rcases hF2 b hb' with y | y
          · exact hF b y
          · exact Nat.le_trans hb1.size y
        · rcases List.mem_append.1 hp with hp | hp
          · exact nF_next (hnF p hp x hx) hF2 ((hRp1.outs p hp).own x hx).2
          · rw [List.mem_singleton] at hp
            subst hp
            exact hx2 x hx
        · rw [List.map_append, hrun, hrn]; rfl
      case measure => simp [intOf]; omega
    · have b1 : ¬ (k : Int) < (l.length : Int) := by omega
      obtain rfl : k = l.length := by omega
      go_wp2_with fail
      go_ret2
      exact ⟨g, rs, rfl, hRp, by rw [List.take_of_length_le (Nat.le_refl _)] at hrun; exact hrun, hb⟩
set_option maxRecDepth 100000 in
set_option maxHeartbeats 1000000 in
theorem run_none (C : DetC W best dec) (s : ByteArray) (w : World) (hs : s.size ≤ 140737488355328) (hw : Below W.heap.size W w) (h0 : Int) :
    Calls Tryz.prog 19 #[.string s, .slice none 0 0] w (RunP best dec [] h0 w) := by
  have HN := hid (fun w1 h => C.new s w1 hs h)
  obtain ⟨i0, hi, hz0, hz1, hz2⟩ := info_parts rep_parts
  go_enter Tryz.func19, Tryz.ntmps19
  go_wp2_with fail
  refine (HN.out _ hw).mono ?_
  rintro r w1 ⟨a, F, rfl, hD, hF, hb1⟩
  go_wp2_with (at_make; refine wpList_make_own _ rfl _ _ 47 rfl w.heap.size 36 i0 _ 5 Tryz.underlying47 hi hz0 hz1 .i64 .i64 _ 0 rfl rfl rfl (by omega) (by unfold maxLen; omega) hb1.size ?_; intro w2 hown2 hgrow2)
  have hb12 : Below w1.heap.size w1 w2 := (Below.refl _ _).grown hgrow2 (Nat.le_refl _) (fun k hk => by cases hk)
  have hb02 := hb1.trans (hb12.mono hb1.size)
  clear hgrow2 hb12
  go_loopw [7, 20] (fun v i wr => v = .slice (some ⟨w1.heap.size, 0, none⟩) 0 0 ∧ i = .int .i64 0 ∧ wr = w2) (fun _ _ _ => 0)
  case atStart => exact ⟨rfl, rfl, rfl⟩
  case round =>
    obtain ⟨rfl, rfl, rfl⟩ := hrel
    go_wp2_with fail
    go_ret2
    exact ⟨w1.heap.size, [], rfl, ⟨hown2, (fun p hp => by cases hp)⟩, rfl, hb02⟩
theorem run_any (C : DetC W best dec) (HR : ActR C) (s : ByteArray) (v : Value) (l : List (Int × ByteArray)) (w : World) (hs : s.size ≤ 140737488355328) (hw : Below W.heap.size W w) (hn : l.length ≤ 300) (hA : ActsIn w v l) :
    Calls Tryz.prog 19 #[.string s, v] w (RunP best dec l (findL s.data.toList) w) := by
  rcases hA with ⟨rfl, rfl⟩ | ⟨lb, lo, cap, rfl, _, hlb, hc⟩
  · exact run_none C s w hs hw _
  · exact run_some C HR s lb lo cap l w hs hw hn hlb hc _ (hid rfl)
/-- More acts than may be done. -/
theorem run_full (s : ByteArray) (A : Option Addr) (n cap : Nat) (w : World) (hn : 300 < (n : Int)) :
    Calls Tryz.prog 19 #[.string s, .slice A n cap] w fun e w' => e = .returned (.tuple #[.slice none 0 0, .int .i64 5]) ∧ w' = w := by
  go_enter Tryz.func19, Tryz.ntmps19
  go_wp2_with fail
  go_ret2
  exact ⟨rfl, rfl⟩
theorem act_out (hbest : ∀ l, 0 ≤ best l ∧ best l ≤ 6) (hdl : ∀ e l, 1 ≤ e → e ≤ 6 → (dec e l).length ≤ l.length) (d : Dt) (k : Int) (b : List UInt8) : (Dt.act best dec d k b).1.out.length ≤ d.l.length := by
  have hin := judgeP_in best hbest d.hint d.l
  unfold Dt.act
  repeat' split
  all_goals first
    | exact Nat.zero_le _
    | (simp only
       unfold tellP
       split
       · have := hdl (judgeP best d.hint d.l).1 (d.l.drop (markL d.l).2.toNat) hin.1 hin.2.1
         simp at this; omega
       · exact hdl (judgeP best d.hint d.l).1 d.l hin.1 hin.2.1)
theorem run_out (hbest : ∀ l, 0 ≤ best l ∧ best l ≤ 6) (hdl : ∀ e l, 1 ≤ e → e ≤ 6 → (dec e l).length ≤ l.length) : ∀ (d : Dt) (l : List (Int × List UInt8)), d.l.length ≤ 4000 → ∀ r ∈ d.run best dec l, r.out.length ≤ 4000
  | _, [], _, _, h => by cases h
  | d, (k, b) :: t, hd, r, h => by
    rcases List.mem_cons.1 h with rfl | h
    · have := act_out hbest hdl d k b; omega
    · exact run_out hbest hdl _ t (act_long best dec d k b hd) r h
end Go.Proofs.YtmdnpgcnbpppfaaGreatDoor
