/- The walk over the law DecodeParts. -/
import Derived.Test.YtloaemijhggheaaLaw
import Derived.Deep.RegionHeld3
import Derived.Deep.DeepCutAuto
namespace Go.Proofs.Ytloaemijhggheaa
open Go.RowKit
attribute [local go_sem ↓] run_eqS run_neS
attribute [local go_sem] byte_at0 byte_at20 byte_at21 w64 S.v and63 and31 and15 and7 kw kw256

/-- append once more, with where the new row lies. -/
theorem run_appH {w : World} {B B2 : Nat} {v v2 : Value} {l m : List Int} (ty : TypeId) (h : Out w B v l) (h2 : Out w B2 v2 m) (hB : B ≤ w.heap.size) (hn : l.length + m.length ≤ 100000) :
    ∃ v' w', (Builtin.append_ #[22, 22] ty #[v, v2]).run Try.prog w = .ok v' w' ∧ Out w' B v' (l ++ m) ∧ w.grownBy w' v.ownBlock ∧ (v'.ownBlock = v.ownBlock ∨ v'.ownBlock = some w.heap.size) := by
  obtain ⟨i, hi, hz, hs, hby⟩ := info_parts int_parts
  rcases h2.2 with ⟨rfl, h0⟩ | ⟨g, cap, cur, rfl, _⟩
  · obtain ⟨v', w', hr, ho, hg⟩ := run_appG ty h h2 hB hn
    have hm : m = [] := List.eq_nil_of_length_eq_zero h0
    subst hm
    have hr2 : (Builtin.append_ #[22, 22] ty #[v, .slice none 0 0]).run Try.prog w = .ok v w := by
      rcases h.2 with ⟨rfl, _⟩ | ⟨g, cap, cur, rfl, _, _, hnc, _⟩
      · simp [Builtin.append_, run_underlying Try.underlying22, sizeOf, typeInfo, hi, Builtin.lenOf, Builtin.firstCells]
      · simp [Builtin.append_, run_underlying Try.underlying22, sizeOf, typeInfo, hi, Builtin.lenOf, Builtin.firstCells, hnc, storeCells]
    exact ⟨v, w, hr2, by simpa using h, World.grownBy.refl w _, .inl rfl⟩
  · obtain ⟨v', w', hr, ho, hg, _, hat⟩ := run_append_own_at (P := Try.prog) w B 22 ty 3 i _ 1 8 Try.underlying22 hi hz hs hby rfl (by omega) v l.length _ h ⟨g, 0, none⟩ m.length cap (m.map (Value.int .i64)) (by simp)
      (World.ownsRow.cells h2 (g := g) rfl) (ints_one m) (by simp only [maxLen]; omega) (by omega) hB
    refine ⟨v', w', hr, ?_, hg, hat⟩
    unfold Out
    rw [List.length_append, List.map_append]
    exact ho
theorem list_appg {ops : Array Oper} {rest : List Oper} {o : Oper} {a : Act} {w : World} {Q : Exit → Act → World → Prop} (hgd : Region.wanted o (yielded ops a.tmps) = true) (s x : Operand)
    (ho : o.op = .call { callee := .builtin .append, args := #[s, x], argTypes := #[22, 22] }) {B B2 : Nat} {v v2 : Value} {l m : List Int}
    (hs : a.eval s = v) (hx : a.eval x = v2) (h : Out w B v l) (h2 : Out w B2 v2 m) (hB : B ≤ w.heap.size) (hn : l.length + m.length ≤ 100000)
    (hk : ∀ v' w', Out w' B v' (l ++ m) → w.grownBy w' v.ownBlock → (v'.ownBlock = v.ownBlock ∨ v'.ownBlock = some w.heap.size) → wpList Try.prog ops Q rest (a.put o.dst v') w') : wpList Try.prog ops Q (o :: rest) a w :=
  wpList_step fun K hK => by
    rw [if_pos hgd]
    obtain ⟨v', w', hr, h3, h4, h5⟩ := run_appH o.type h h2 hB hn
    unfold Oper.wp execOp
    simp only [ho, resolve, invoke, builtin, Sem.run_bind, Sem.run_pure, Result.andThen_ok, List.map_toArray, List.map_cons, List.map_nil, hs, hx, hr]
    exact hK _ _ (hk v' w' h3 h4 h5)
theorem Out.grown {w w' : World} {B : Nat} {v : Value} {l : List Int} {row : Option Nat} (h : Out w B v l) (hg : w.grownBy w' row) (hne : v.ownBlock = none ∨ v.ownBlock ≠ row) : Out w' B v l := World.ownsRow.kept h hg hne
/-- Two rows of which one is younger lie apart. -/
theorem Out.young {w w' : World} {B B' : Nat} {v v' : Value} {l l' : List Int} (h : Out w B v l) (h' : Out w' B' v' l') (hB : w.heap.size ≤ B') : v'.ownBlock = none ∨ v'.ownBlock ≠ v.ownBlock := by
  cases hv : v'.ownBlock with
  | none => exact .inl rfl
  | some k =>
    refine .inr fun e => ?_
    have h1 := (World.ownsRow.lt h k e.symm).2
    have h2 := (World.ownsRow.lt h' k hv).1
    omega
/-- What lies there when the second part has been fed. -/
def PartR (w : World) (gx : Nat) (s1 s2 : S) (v1 : Value) (l1 l2 : List Int) (s10 s11 s12 : Value) (wx : World) : Prop :=
  ∃ g B : Nat, s10 = .pointer (some ⟨g, 0, none⟩) ∧ s12 = .int .i64 0 ∧ HasS wx g s2 ∧ HasS wx gx s1 ∧ Out wx w.heap.size v1 l1 ∧ Out wx B s11 l2 ∧ Below w.heap.size w wx
/-- A number from 0 to n - 1. -/
def Picked (n : Nat) (w : World) (e : Ending) (w' : World) : Prop := ∃ m : Nat, m < n ∧ e = .returned (.int .i64 (m : Int)) ∧ w = w'
set_option maxRecDepth 100000 in
set_option maxHeartbeats 400000 in
theorem pick_pos (k : Int) (n : Nat) (w : World) (hn : 0 < n) (hn2 : n ≤ 4001) (hk : 0 ≤ k) : Calls Try.prog 24 #[.int .i64 k, .int .i64 (n : Int)] w (Picked n w) := by
  have h1 : 0 ≤ k % (n : Int) := Int.emod_nonneg _ (by omega)
  have h2 : k % (n : Int) < (n : Int) := Int.emod_lt_of_pos _ (by omega)
  have h0 : (n : Int) ≠ 0 := by omega
  have h0b : ((n : Int) == 0) = false := by simp; omega
  have hf : Picked n w (.returned (.int .i64 (k % (n : Int)))) w := ⟨(k % (n : Int)).toNat, by omega, by rw [show ((k % (n : Int)).toNat : Int) = k % (n : Int) from by omega], rfl⟩
  replace hf := hid hf
  go_enter Try.func24, Try.ntmps24
  go_wp2_with fail
  go_ret
  exact hf.out
set_option maxRecDepth 100000 in
set_option maxHeartbeats 400000 in
theorem pick_neg (k : Int) (n : Nat) (w : World) (hn : 0 < n) (hn2 : n ≤ 4001) (hk : k < 0) : Calls Try.prog 24 #[.int .i64 k, .int .i64 (n : Int)] w (Picked n w) := by
  have h0 : (n : Int) ≠ 0 := by omega
  have h0b : ((n : Int) == 0) = false := by simp; omega
  have hr : k.tmod (n : Int) ≤ 0 ∧ -(n : Int) < k.tmod (n : Int) := by
    have e : k.tmod (n : Int) = -((-k) % (n : Int)) := by
      rw [← Int.tmod_eq_emod_of_nonneg (by omega), Int.neg_tmod, Int.neg_neg]
    have h1 : 0 ≤ (-k) % (n : Int) := Int.emod_nonneg _ (by omega)
    have h2 : (-k) % (n : Int) < (n : Int) := Int.emod_lt_of_pos _ (by omega)
    omega
  obtain ⟨r1, r2⟩ := hr
  have f1 : k.tmod (n : Int) < 0 → Picked n w (.returned (.int .i64 (k.tmod (n : Int) + (n : Int)))) w := fun h => ⟨(k.tmod (n : Int) + (n : Int)).toNat, by omega, by rw [show ((k.tmod (n : Int) + (n : Int)).toNat : Int) = k.tmod (n : Int) + (n : Int) from by omega], rfl⟩
  have f2 : 0 ≤ k.tmod (n : Int) → Picked n w (.returned (.int .i64 (k.tmod (n : Int)))) w := fun h => ⟨(k.tmod (n : Int)).toNat, by omega, by rw [show ((k.tmod (n : Int)).toNat : Int) = k.tmod (n : Int) from by omega], rfl⟩
  replace f1 := hid f1
  replace f2 := hid f2
  go_enter Try.func24, Try.ntmps24
  go_wp2_with fail
  · go_ret
    exact f1.out ‹_›
  · go_ret
    exact f2.out ‹_›

set_option maxRecDepth 100000 in
set_option maxHeartbeats 400000 in
theorem parts_long (e k : Int) (s : ByteArray) (w : World) (hd : decide ((4000 : Int) < (s.size : Int)) = true) : Calls Try.prog 5 #[.int .i64 e, .string s, .int .i64 k] w fun r w' => r = .returned (.bool true) ∧ Below w.heap.size w w' := by
  go_enter Try.func5, Try.ntmps5
  go_wp2_with fail
  refine (decodes_keep _).mono ?_
  rintro r w1 ⟨rfl, hb⟩
  go_wp2_with fail
  go_ret
  exact ⟨rfl, hb⟩
set_option maxRecDepth 100000 in
set_option maxHeartbeats 400000 in
theorem parts_none (e k : Int) (s : ByteArray) (w : World) (hd : decide ((4000 : Int) < (s.size : Int)) = false) (he : ¬ (1 ≤ e ∧ e ≤ 6)) : Calls Try.prog 5 #[.int .i64 e, .string s, .int .i64 k] w fun r w' => r = .returned (.bool true) ∧ Below w.heap.size w w' := by
  have H := hid (fun w1 => in_no e w1 he)
  clear he
  go_enter Try.func5, Try.ntmps5
  go_wp2_with fail
  refine (H.out _).mono ?_
  rintro r w1 ⟨rfl, rfl⟩
  go_wp2_with fail
  refine (decodes_keep _).mono ?_
  rintro r w1 ⟨rfl, hb⟩
  go_wp2_with fail
  go_ret
  exact ⟨rfl, hb⟩
set_option maxRecDepth 100000 in
set_option maxHeartbeats 1000000 in
theorem parts_main (e k : Int) (s : ByteArray) (w : World) (hd : decide ((4000 : Int) < (s.size : Int)) = false) (h1 : 1 ≤ e) (h2 : e ≤ 6) : Calls Try.prog 5 #[.int .i64 e, .string s, .int .i64 k] w fun r w' => r = .returned (.bool true) ∧ Below w.heap.size w w' := by
  obtain ⟨M, F⟩ := full_of e h1 h2
  have hs : s.size ≤ 4000 := by simp at hd; omega
  have HP : ∀ w1, Calls Try.prog 24 #[.int .i64 k, .int .i64 ((s.size : Int) + 1)] w1 (Picked (s.size + 1) w1) := fun w1 => by
    rcases Int.lt_or_le k 0 with h | h
    · exact pick_neg k (s.size + 1) w1 (by omega) (by omega) h
    · exact pick_pos k (s.size + 1) w1 (by omega) (by omega) h
  replace HP := hid HP
  go_enter Try.func5, Try.ntmps5
  go_wp2_with fail
  refine (in_yes _ _ h1 h2).mono ?_
  rintro r w1 ⟨rfl, rfl⟩
  go_wp2_with fail
  refine (HP.out _).mono ?_
  rintro r w1 ⟨m, hm, rfl, rfl⟩
  have b0 : (0 : Int) ≤ (m : Int) := by omega
  have b1 : (m : Int) ≤ (s.size : Int) := by omega
  have e1 : (s.extract 0 m).data.toList = s.data.toList.take m := by simp
  have e2 : (s.extract m s.size).data.toList = s.data.toList.drop m := by simp [List.take_of_length_le]
  have z1 : (s.extract 0 m).size ≤ 4000 := by simp; omega
  have z2 : (s.extract m s.size).size ≤ 4000 := by simp; omega
  have C := F.con
  have G := F.goods
  have H1 := fun w1 => feed_any C G M.init C.law.init (s.extract 0 m) z1 w1
  rw [C.law.zero] at H1
  simp only [S.zero, e1] at H1
  have k1 := C.feed_ok (s.data.toList.take m) M.init C.law.init
  have H2 := fun w1 => feed_any C G _ k1.1 (s.extract m s.size) z2 w1
  rw [e2] at H2
  have k2 := C.feed_ok (s.data.toList.drop m) _ k1.1
  have H3 := hid (fun w1 => end_any C G _ k2.1 w1)
  have H4 := fun w1 => whole_any C G s hs w1
  have H5 := hid (fun w1 => G _ w1 k1.1)
  have hall : M.dec M.init s.data.toList = (M.feed M.init (s.data.toList.take m)).2 ++ (M.feed (M.feed M.init (s.data.toList.take m)).1 (s.data.toList.drop m)).2 ++ M.fin (M.feed (M.feed M.init (s.data.toList.take m)).1 (s.data.toList.drop m)).1 := by
    have := M.feed_append (s.data.toList.take m) (s.data.toList.drop m) M.init
    rw [List.take_append_drop] at this
    unfold Mach.dec
    rw [this]
  rw [hall] at H4
  have y1 : (M.feed M.init (s.data.toList.take m)).2.length ≤ 24000 := by have := k1.2; simp at this; omega
  have y2 : (M.feed (M.feed M.init (s.data.toList.take m)).1 (s.data.toList.drop m)).2.length ≤ 24000 := by have := k2.2; simp at this; omega
  have y3 := C.end_ (M.feed (M.feed M.init (s.data.toList.take m)).1 (s.data.toList.drop m)).1
  clear hall e1 e2 z1 z2 k1 k2 C G F
  replace H1 := hid H1
  replace H2 := hid H2
  replace H4 := hid H4
  generalize M.fin (M.feed (M.feed M.init (s.data.toList.take m)).1 (s.data.toList.drop m)).1 = l3 at *
  generalize M.toS (M.feed (M.feed M.init (s.data.toList.take m)).1 (s.data.toList.drop m)).1 = t2 at *
  generalize (M.feed (M.feed M.init (s.data.toList.take m)).1 (s.data.toList.drop m)).2 = l2 at *
  generalize M.toS (M.feed M.init (s.data.toList.take m)).1 = t1 at *
  generalize (M.feed M.init (s.data.toList.take m)).2 = l1 at *
  go_wp2_with fail
  refine (H1.out _).mono ?_
  rintro r w1 ⟨v1, rfl, ho1, hb1⟩
  have hX := HasS.new w1 t1
  have hA := ho1.alloc (.cells #[.int .i64 t1.need, .int .i64 t1.code, .int .i64 t1.lo, .int .i64 t1.hi, .string t1.kept, .int .i64 t1.half, .int .i64 t1.mode] 30)
  have hB := hb1.alloc hb1.size (.cells #[.int .i64 t1.need, .int .i64 t1.code, .int .i64 t1.lo, .int .i64 t1.hi, .string t1.kept, .int .i64 t1.half, .int .i64 t1.mode] 30)
  clear ho1 hb1 H1
  go_upto_region 5 with fail
  generalize w1.alloc (.cells #[.int .i64 t1.need, .int .i64 t1.code, .int .i64 t1.lo, .int .i64 t1.hi, .string t1.kept, .int .i64 t1.half, .int .i64 t1.mode] 30) = X at *
  generalize w1.heap.size = gx at *
  clear w1
  have hX3 := hX
  obtain ⟨c0, c1, c2, c3, c4, c5, c6, cz⟩ := hX3
  have lx := hX.lt
  go_cut [10, 11, 12] (PartR w gx t1 t2 v1 l1 l2)
  case first =>
    go_region_held3 (fun w' => w'.cell? ⟨gx, 0, none⟩ = some (.int .i64 t1.need) ∧ w'.cell? ⟨gx, 1, none⟩ = some (.int .i64 t1.code) ∧ w'.cell? ⟨gx, 2, none⟩ = some (.int .i64 t1.lo) ∧ w'.cell? ⟨gx, 3, none⟩ = some (.int .i64 t1.hi) ∧ w'.cell? ⟨gx, 4, none⟩ = some (.string t1.kept) ∧ w'.cell? ⟨gx, 5, none⟩ = some (.int .i64 t1.half) ∧ w'.cell? ⟨gx, 6, none⟩ = some (.int .i64 t1.mode))
      (first | go_keep | (with_reducible exact k1) | (with_reducible exact k2.out _) | (with_reducible exact k3.out _ _ _ _ _ _ _))
      (first
        | (go_at_call 19; refine (H2.out _).mono ?_; rintro r w2 ⟨v2, rfl, ho2, hb2⟩; have hb4 : Below X.heap.size X w2 := undrew hb2; have hb3 := hb4; have hS2 := hX.below hb3 lx; have k1 := hS2.cells; have k2 := hid (fun o => (hS2.alloc o).cells); have k3 := hid (fun u0 u1 u2 u3 u4 u5 u6 => (hS2.far7 (blk := X.heap.size) (Nat.ne_of_gt lx) u0 u1 u2 u3 u4 u5 u6).cells); replace ho2 := hid ho2)
        | (go_at_call 19; refine (H2.out _).mono ?_; rintro r w2 ⟨v2, rfl, ho2, hb2⟩; have hb3 : Below X.heap.size X w2 := one_box (undrew hb2); have hS2 := hX.below hb3 lx; have k1 := hS2.cells; have k2 := hid (fun o => (hS2.alloc o).cells); have k3 := hid (fun u0 u1 u2 u3 u4 u5 u6 => (hS2.far7 (blk := X.heap.size) (Nat.ne_of_gt lx) u0 u1 u2 u3 u4 u5 u6).cells); replace ho2 := hid ho2; have hN : HasS w2 X.heap.size .zero := HasS.box1 (undrew hb2); have hN2 := hN; obtain ⟨r0, r1, r2, r3, r4, r5, r6, rz⟩ := hN2))
    · go_wp2_with fail
      go_meet
      have hz := hb3.size
      exact ⟨_, _, rfl, rfl, HasS.new _ t2, hS2.alloc _, (hA.below hb3).alloc _, ho2.out.alloc _, Below.alloc (hB.trans (hb3.mono hB.size)) (by have := hB.size; omega) _⟩
    all_goals
      go_wp2_with fail
      go_meet
      exact ⟨_, _, rfl, rfl, hN.put7 t2, hS2.far7 (Nat.ne_of_gt lx) _ _ _ _ _ _ _, (hA.below hb3).far7 (hA.apart (Nat.le_refl _)) _ _ _ _ _ _ _, (unOut ho2.out).put7 (by simp) _ _ _ _ _ _ _, put7 (hB.trans (hb3.mono hB.size)) hB.size _ _ _ _ _ _ _⟩
  case rest =>
    clear c0 c1 c2 c3 c4 c5 c6 cz hX hA hB lx H2
    obtain ⟨g, B, rfl, rfl, hY, hX, hA, hP, hB⟩ := hcut
    have hY3 := hY
    obtain ⟨c0, c1, c2, c3, c4, c5, c6, cz⟩ := hY3
    go_wp2_with fail
    refine (H3.out _).mono ?_
    rintro r w2 ⟨v3, rfl, ho3, hb3⟩
    clear c0 c1 c2 c3 c4 c5 c6 cz
    have hX2 := hX.below hb3 hX.lt
    have hA2 := hA.below hb3
    have hP2 := hP.below hb3
    have hB2 := hB.trans (hb3.mono hB.size)
    go_wp2_with fail
    refine (H4.out _).mono ?_
    rintro r w3 ⟨v4, rfl, ho4, hb4⟩
    have hX3 := hX2.below hb4 hX2.lt
    have hA3 := hA2.below hb4
    have hP3 := hP2.below hb4
    have hE3 := ho3.below hb4
    have hB3 := hB2.trans (hb4.mono hB2.size)
    obtain ⟨c0, c1, c2, c3, c4, c5, c6, cz⟩ := hX3
    go_wp2_with fail
    refine (H5.out _).mono ?_
    rintro r w4 ⟨rfl, hb5⟩
    clear c0 c1 c2 c3 c4 c5 c6 cz
    have hA4 := hA3.below hb5
    have hP4 := hP3.below hb5
    have hE4 := hE3.below hb5
    have hW4 := ho4.below hb5
    have hB4 := hB3.trans (hb5.mono hB3.size)
    have a3 := hA.young ho3 (Nat.le_refl _)
    have a4 := hA.young ho4 hb3.size
    have lt4 : ∀ k, v4.ownBlock = some k → k < w4.heap.size := fun k hk => (World.ownsRow.lt hW4 k hk).2
    have lw := hB4.size
    clear hb3 hb4 hb5 hA hA2 hA3 hP hP2 hP3 ho3 ho4 hE3 hB hB2 hB3 hX hX2 hY H3 H4 H5
    replace hA4 := hid hA4
    replace hP4 := hid hP4
    replace hE4 := hid hE4
    replace hW4 := hid hW4
    replace lt4 := hid lt4
    go_wp2_with (first
      | (at_builtin
         refine list_appg (by rfl) (.tmp 83) (.tmp 84) rfl (v := v1) (v2 := u11) rfl rfl hA4.out hP4.out lw (by omega) ?_
         intro v5 w5 ho5 hg5 hat5
         replace ho5 := hid ho5
         have hE5 := hid (hE4.out.grown hg5 a3)
         have hW5 := hid (hW4.out.grown hg5 a4)
         have hB5 := hB4.grown hg5 lw hA4.out.far
         have a5 : v4.ownBlock = none ∨ v4.ownBlock ≠ v5.ownBlock := by
           cases hv : v4.ownBlock with
           | none => exact .inl rfl
           | some k =>
             refine .inr fun e => ?_
             rcases hat5 with h | h
             · rcases a4 with h4 | h4
               · rw [h4] at hv; cases hv
               · exact h4 (by rw [hv, e, h])
             · have := lt4.out k hv
               rw [h] at e
               injection e with e
               omega
         clear hat5 hg5
         have lw5 := hB5.size)
      | (at_builtin
         refine list_appg (by rfl) (.tmp 85) (.tmp 86) rfl (v := v5) (v2 := v3) rfl rfl ho5.out hE5.out lw5 (by simp; omega) ?_
         intro v6 w6 ho6 hg6 hat6
         have hW6 := hW5.out.grown hg6 a5
         have hB6 := hB5.grown hg6 lw5 ho5.out.far
         have hsame := hid (same_any _ v6 v4 _ _ w6 (by simp; omega) ho6 hW6)
         clear hat6 hg6 ho6 hW6)
      | fail)
    refine hsame.out.mono ?_
    rintro r w7 ⟨rfl, hb7⟩
    go_wp2_with fail
    refine (decodes_keep _).mono ?_
    rintro r w8 ⟨rfl, hb8⟩
    go_wp2_with fail
    go_ret
    have hB7 := hB6.trans (hb7.mono hB6.size)
    exact ⟨rfl, hB7.trans (hb8.mono hB7.size)⟩
theorem parts_any (e : Int) (s : ByteArray) (k : Int) (w : World) : Calls Try.prog 5 #[.int .i64 e, .string s, .int .i64 k] w fun r w' => r = .returned (.bool true) ∧ Below w.heap.size w w' := by
  cases hd : decide ((4000 : Int) < (s.size : Int)) with
  | true => exact parts_long e k s w hd
  | false =>
    by_cases he : 1 ≤ e ∧ e ≤ 6
    · exact parts_main e k s w hd he.1 he.2
    · exact parts_none e k s w hd he
end Go.Proofs.Ytloaemijhggheaa
