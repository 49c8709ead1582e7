/- 2 texts of this proof in one file: DwE, DwF. -/
import Derived.Test.YtmdnpgcnbpppfaaGreatDoorDwD
import Derived.Deep.SlicePairs
import Derived.Lib.SmallJoins
import Derived.SizedLaws
import Derived.Carry
/- The landed detector's Do: every act is Dt.act; the contracts of a detector. -/
namespace Go.Proofs.YtmdnpgcnbpppfaaGreatDoor
open Go.RowKit

set_option maxRecDepth 100000 in
set_option maxHeartbeats 1000000 in
theorem do_nil (k : Int) (b : ByteArray) (w : World) :
    Calls Tryz.prog 14 #[.pointer none, .agg #[.int .i64 k, .string b]] w fun e w' => e = .returned (.agg #[.int .i64 1, .int .i64 0, .int .i64 0, .bool false, .slice none 0 0]) ∧ Below w.heap.size w w' := by
  have HF := hid (fun w1 => fail_any 1 w1)
  have hR := Has5.new2 w (.cells #[.int .i64 k, .string b] 31) _ rfl 0 0 0 false none 0 0 36
  have hz := frozen_new (w.alloc (.cells #[.int .i64 k, .string b] 31)) #[.int .i64 0, .int .i64 0, .int .i64 0, .bool false, .slice none 0 0] 36
  simp only [World.size_alloc] at hz
  go_enter Tryz.func14, Tryz.ntmps14
  go_wp2_with fail
  refine (HF.out _).mono ?_
  rintro r w1 ⟨rfl, hb1⟩
  have hR1 := hR.below hb1
  have hz1 := frozen_below hb1 hR.lt hz
  have kk := hR1
  obtain ⟨r0, r1, r2, r3, r4⟩ := kk
  go_wp2_with fail
  exact bodyPost_ret (ret_R rfl rfl (hR1.put5 1 0 0 false none 0 0)) rfl ⟨rfl, put5 (two_boxes hb1) (by omega) _ _ _ _ _⟩
set_option maxRecDepth 100000 in
set_option maxHeartbeats 1000000 in
theorem do_full {W w : World} {F : Nat → Prop} {a : Addr} {d : Dt} (k : Int) (b : ByteArray) (h : IsDet W w F a d) (hf : d.acts = 300) :
    Calls Tryz.prog 14 #[.pointer (some a), .agg #[.int .i64 k, .string b]] w (DDo W w F a (.err 5) d) := by
  have HF := hid (fun w1 => fail_any 5 w1)
  have hR := Has5.new2 w (.cells #[.int .i64 k, .string b] 31) _ rfl 0 0 0 false none 0 0 36
  have hz := frozen_new (w.alloc (.cells #[.int .i64 k, .string b] 31)) #[.int .i64 0, .int .i64 0, .int .i64 0, .bool false, .slice none 0 0] 36
  simp only [World.size_alloc] at hz
  have h' := h
  obtain ⟨g, v, rfl, rfl, hb, hn, ⟨c0, c1, c2, c3, fz⟩, hs, hlen, ha⟩ := h'
  have hlt : g < w.heap.size := World.block_lt_of_cell? w _ c0
  rw [hf] at c2
  go_enter Tryz.func14, Tryz.ntmps14
  go_wp2_with fail
  refine (HF.out _).mono ?_
  rintro r w1 ⟨rfl, hb1⟩
  have hR1 := hR.below hb1
  have hz1 := frozen_below hb1 hR.lt hz
  have kk := hR1
  obtain ⟨r0, r1, r2, r3, r4⟩ := kk
  go_wp2_with fail
  exact bodyPost_ret (ret_R rfl rfl (hR1.put5 5 0 0 false none 0 0)) rfl (DDo.of (r := .err 5) h (Out.nil _ _) (put5 (two_boxes hb1) (by omega) _ _ _ _ _))
/-- Behind the head of Do: the act and the reply lie in new blocks, and the act is counted. -/
structure DoS (W w u : World) (F : Nat → Prop) (g : Nat) (d : Dt) : Prop where
  isd : IsDet W u F ⟨g, 0, none⟩ { d with acts := d.acts + 1 }
  rp : Has5 u (w.heap.size + 1) 0 0 0 false none 0 0
  fz : ∀ i, u.frozen? ⟨w.heap.size + 1, i, none⟩ = false
  only : Only F w u
theorem DoS.of {W w : World} {F : Nat → Prop} {g : Nat} {d : Dt} (k : Int) (b : ByteArray) (h : IsDet W w F ⟨g, 0, none⟩ d) (h3 : d.acts < 300) :
    DoS W w (((w.setCell ⟨g, 2, none⟩ (.int .i64 ((d.acts : Int) + 1))).alloc (.cells #[.int .i64 k, .string b] 31)).alloc (.cells #[.int .i64 0, .int .i64 0, .int .i64 0, .bool false, .slice none 0 0] 36)) F g d := by
  have hF : F g := by obtain ⟨g', v, e, rfl, _⟩ := h; injection e with e; exact Or.inl e
  have hsz : (w.setCell ⟨g, 2, none⟩ (.int .i64 ((d.acts : Int) + 1))).heap.size = w.heap.size := by simp [World.setCell]
  have hz := frozen_new ((w.setCell ⟨g, 2, none⟩ (.int .i64 ((d.acts : Int) + 1))).alloc (.cells #[.int .i64 k, .string b] 31)) #[.int .i64 0, .int .i64 0, .int .i64 0, .bool false, .slice none 0 0] 36
  simp only [World.size_alloc, hsz] at hz
  exact ⟨((h.count h3).alloc _).alloc _, Has5.new2 _ _ _ hsz 0 0 0 false none 0 0 36, hz, ((((Only.refl F w).set hF 2 _).alloc _).alloc _)⟩
/-- The reply of a call, handed on. -/
theorem DoS.done {W w u u1 : World} {F F1 : Nat → Prop} {g : Nat} {d d1 : Dt} {r : Rp} {A : Option Addr} {c : Nat} (hS : DoS W w u F g d) (h : IsDet W w F ⟨g, 0, none⟩ d) (hO : Out u1 u.heap.size (.slice A r.out.length c) r.out) (hD : IsDet W u1 F1 ⟨g, 0, none⟩ d1) (hF : ∀ k, F1 k → F k ∨ u.heap.size ≤ k) (ho : Only F u u1) (u0 u2 u3 u4 u5 : Value) :
    DDo W w F ⟨g, 0, none⟩ r d1 (.returned (rpV r A c)) (((((u1.setCell ⟨w.heap.size + 1, 0, none⟩ u0).setCell ⟨w.heap.size + 1, 1, none⟩ u2).setCell ⟨w.heap.size + 1, 2, none⟩ u3).setCell ⟨w.heap.size + 1, 3, none⟩ u4).setCell ⟨w.heap.size + 1, 4, none⟩ u5) := by
  have lR := hS.rp.lt
  have hnF : ¬ F (w.heap.size + 1) := fun x => by have := (h.lt _ x).2; omega
  have hsz := hS.only.size
  refine ⟨⟨A, c, rfl, ((((((hO.set1 lR 0 _).set1 lR 1 _).set1 lR 2 _).set1 lR 3 _).set1 lR 4 _).base (by omega))⟩, F1, hD.keep (fun k hk => far5 _ _ _ (fun e => ?_) _ _ _ _ _), fun k hk => ?_, (hS.only.trans ho (fun i hi => Or.inl hi)).own5 (by omega) _ _ _ _ _⟩
  · subst e
    rcases hF _ hk with x | x
    · exact hnF x
    · omega
  · rcases hF k hk with x | x
    · exact Or.inl x
    · exact Or.inr (by omega)
/-- A call that leaves the detector as it was. -/
theorem DoS.stay {W w u u1 : World} {F : Nat → Prop} {g : Nat} {d : Dt} {r : Rp} {A : Option Addr} {c : Nat} (hS : DoS W w u F g d) (h : IsDet W w F ⟨g, 0, none⟩ d) (hO : Out u1 u.heap.size (.slice A r.out.length c) r.out) (hb : Below u.heap.size u u1) (u0 u2 u3 u4 u5 : Value) :
    DDo W w F ⟨g, 0, none⟩ r { d with acts := d.acts + 1 } (.returned (rpV r A c)) (((((u1.setCell ⟨w.heap.size + 1, 0, none⟩ u0).setCell ⟨w.heap.size + 1, 1, none⟩ u2).setCell ⟨w.heap.size + 1, 2, none⟩ u3).setCell ⟨w.heap.size + 1, 3, none⟩ u4).setCell ⟨w.heap.size + 1, 4, none⟩ u5) :=
  hS.done h hO (hS.isd.below hb) (fun _ hk => Or.inl hk) (Only.of F hb) _ _ _ _ _
set_option maxRecDepth 100000 in
set_option maxHeartbeats 1000000 in
theorem do_kind {W w : World} {F : Nat → Prop} {a : Addr} {d : Dt} (k : Int) (b : ByteArray) (h : IsDet W w F a d) (hf : d.acts < 300) (h1 : (k == 1) = false) (h2 : (k == 2) = false) (h3 : (k == 3) = false) :
    Calls Tryz.prog 14 #[.pointer (some a), .agg #[.int .i64 k, .string b]] w (DDo W w F a (.err 2) { d with acts := d.acts + 1 }) := by
  have HF := hid (fun w1 => fail_any 2 w1)
  have h' := h
  obtain ⟨g, v, rfl, rfl, hb, hn, ⟨c0, c1, c2, c3, fz⟩, hs, hlen, ha⟩ := h'
  have hlt : g < w.heap.size := World.block_lt_of_cell? w _ c0
  have hS := DoS.of k b h hf
  have hx : (d.acts : Int) ≤ 299 := by omega
  go_enter Tryz.func14, Tryz.ntmps14
  go_wp2_with fail
  generalize ((w.setCell ⟨g, 2, none⟩ (.int .i64 ((d.acts : Int) + 1))).alloc (.cells #[.int .i64 k, .string b] 31)).alloc (.cells #[.int .i64 0, .int .i64 0, .int .i64 0, .bool false, .slice none 0 0] 36) = u at *
  refine (HF.out _).mono ?_
  rintro r u1 ⟨rfl, hb1⟩
  have hR1 := hS.rp.below hb1
  have hz1 := frozen_below hb1 hS.rp.lt hS.fz
  have kk := hR1
  obtain ⟨r0, r1, r2, r3, r4⟩ := kk
  go_wp2_with fail
  exact bodyPost_ret (ret_R rfl rfl (hR1.put5 2 0 0 false none 0 0)) rfl (hS.stay (r := .err 2) h (Out.nil _ _) hb1 _ _ _ _ _)
set_option maxRecDepth 100000 in
set_option maxHeartbeats 1000000 in
theorem do_ask {W w : World} {F : Nat → Prop} {a : Addr} {d : Dt} (b : ByteArray) (h : IsDet W w F a d) (hl : Laid W) (hw : Below W.heap.size W w) (hf : d.acts < 300) (ve vy : Int) (vf : Bool) (hv : Hid (d.verdict bestL = ⟨ve, vy, vf⟩)) :
    Calls Tryz.prog 14 #[.pointer (some a), .agg #[.int .i64 2, .string b]] w (DDo W w F a ⟨0, ⟨ve, vy, vf⟩, []⟩ { d with acts := d.acts + 1 }) := by
  have h' := h
  obtain ⟨g, v, rfl, rfl, hb, hn, ⟨c0, c1, c2, c3, fz⟩, hs, hlen, ha⟩ := h'
  have hlt : g < w.heap.size := World.block_lt_of_cell? w _ c0
  have hS := DoS.of 2 b h hf
  have hwU := hw.trans (hS.only.below hw.size (fun k hk => (h.lt k hk).1))
  have HV := verdict_det hS.isd (hl.below hwU)
  rw [show Dt.verdict bestL { d with acts := d.acts + 1 } = ⟨ve, vy, vf⟩ from (verdict_same bestL _ d rfl rfl rfl).trans hv.out] at HV
  replace HV := hid HV
  have hx : (d.acts : Int) ≤ 299 := by omega
  go_enter Tryz.func14, Tryz.ntmps14
  go_wp2_with fail
  generalize ((w.setCell ⟨g, 2, none⟩ (.int .i64 ((d.acts : Int) + 1))).alloc (.cells #[.int .i64 2, .string b] 31)).alloc (.cells #[.int .i64 0, .int .i64 0, .int .i64 0, .bool false, .slice none 0 0] 36) = u at *
  refine (HV.out).mono ?_
  rintro r u1 ⟨rfl, hb1⟩
  have hR1 := hS.rp.below hb1
  have hz1 := frozen_below hb1 hS.rp.lt hS.fz
  have kk := hR1
  obtain ⟨r0, r1, r2, r3, r4⟩ := kk
  go_wp2_with fail
  exact bodyPost_ret (ret_R rfl rfl (hR1.put5 0 ve vy vf none 0 0)) rfl (hS.stay (r := ⟨0, ⟨ve, vy, vf⟩, []⟩) h (Out.nil _ _) hb1 _ _ _ _ _)
set_option maxRecDepth 100000 in
set_option maxHeartbeats 1000000 in
theorem do_feed {W w : World} {F : Nat → Prop} {a : Addr} {d d1 : Dt} {rc : Int} (b : ByteArray) (h : IsDet W w F a d) (hf : d.acts < 300) (HC : Hid (∀ u, DoS W w u F a.block d → Calls Tryz.prog 29 #[.pointer (some a), .string b] u (DDo W u F a ⟨rc, .zero, []⟩ d1))) :
    Calls Tryz.prog 14 #[.pointer (some a), .agg #[.int .i64 1, .string b]] w (DDo W w F a ⟨rc, .zero, []⟩ d1) := by
  have h' := h
  obtain ⟨g, v, rfl, rfl, hb, hn, ⟨c0, c1, c2, c3, fz⟩, hs, hlen, ha⟩ := h'
  have hlt : g < w.heap.size := World.block_lt_of_cell? w _ c0
  have hS := DoS.of 1 b h hf
  have hx : (d.acts : Int) ≤ 299 := by omega
  go_enter Tryz.func14, Tryz.ntmps14
  go_wp2_with fail
  generalize ((w.setCell ⟨g, 2, none⟩ (.int .i64 ((d.acts : Int) + 1))).alloc (.cells #[.int .i64 1, .string b] 31)).alloc (.cells #[.int .i64 0, .int .i64 0, .int .i64 0, .bool false, .slice none 0 0] 36) = u at *
  refine (HC.out _ hS).mono ?_
  rintro r u1 ⟨⟨A1, cc1, rfl, hO1⟩, F1, hD1, hF1, ho1⟩
  have hnF : ¬ FD g v (w.heap.size + 1) := fun x => by have := (h.lt _ x).2; omega
  have hR1 := hS.rp.only ho1 hnF
  have hz1 : ∀ i, u1.frozen? ⟨w.heap.size + 1, i, none⟩ = false := fun i => (World.frozen?_of_block (a := ⟨w.heap.size + 1, i, none⟩) (ho1.block _ hS.rp.lt hnF)).trans (hS.fz i)
  have kk := hR1
  obtain ⟨r0, r1, r2, r3, r4⟩ := kk
  simp only [rpV, Vd.zero, List.length_nil]
  go_wp2_with fail
  exact bodyPost_ret (ret_R rfl rfl (hR1.put5 rc 0 0 false A1 0 cc1)) rfl (hS.done (r := ⟨rc, .zero, []⟩) h hO1 hD1 hF1 ho1 _ _ _ _ _)
set_option maxRecDepth 100000 in
set_option maxHeartbeats 1000000 in
theorem do_finish {W w : World} {F : Nat → Prop} {a : Addr} {d d1 : Dt} {rc ve vy : Int} {vf : Bool} {T : List Int} (b : ByteArray) (h : IsDet W w F a d) (hf : d.acts < 300) (HC : Hid (∀ u, DoS W w u F a.block d → Calls Tryz.prog 31 #[.pointer (some a)] u (DDo W u F a ⟨rc, ⟨ve, vy, vf⟩, T⟩ d1))) :
    Calls Tryz.prog 14 #[.pointer (some a), .agg #[.int .i64 3, .string b]] w (DDo W w F a ⟨rc, ⟨ve, vy, vf⟩, T⟩ d1) := by
  have h' := h
  obtain ⟨g, v, rfl, rfl, hb, hn, ⟨c0, c1, c2, c3, fz⟩, hs, hlen, ha⟩ := h'
  have hlt : g < w.heap.size := World.block_lt_of_cell? w _ c0
  have hS := DoS.of 3 b h hf
  have hx : (d.acts : Int) ≤ 299 := by omega
  go_enter Tryz.func14, Tryz.ntmps14
  go_wp2_with fail
  generalize ((w.setCell ⟨g, 2, none⟩ (.int .i64 ((d.acts : Int) + 1))).alloc (.cells #[.int .i64 3, .string b] 31)).alloc (.cells #[.int .i64 0, .int .i64 0, .int .i64 0, .bool false, .slice none 0 0] 36) = u at *
  refine (HC.out _ hS).mono ?_
  rintro r u1 ⟨⟨A1, cc1, rfl, hO1⟩, F1, hD1, hF1, ho1⟩
  have hnF : ¬ FD g v (w.heap.size + 1) := fun x => by have := (h.lt _ x).2; omega
  have hR1 := hS.rp.only ho1 hnF
  have hz1 : ∀ i, u1.frozen? ⟨w.heap.size + 1, i, none⟩ = false := fun i => (World.frozen?_of_block (a := ⟨w.heap.size + 1, i, none⟩) (ho1.block _ hS.rp.lt hnF)).trans (hS.fz i)
  have kk := hR1
  obtain ⟨r0, r1, r2, r3, r4⟩ := kk
  simp only [rpV]
  go_wp2_with fail
  exact bodyPost_ret (ret_R rfl rfl (hR1.put5 rc ve vy vf A1 T.length cc1)) rfl (hS.done (r := ⟨rc, ⟨ve, vy, vf⟩, T⟩) h hO1 hD1 hF1 ho1 _ _ _ _ _)
theorem do_any {W w : World} {F : Nat → Prop} {a : Addr} {d : Dt} (k : Int) (b : ByteArray) (h : IsDet W w F a d) (hl : Laid W) (hw : Below W.heap.size W w) :
    Calls Tryz.prog 14 #[.pointer (some a), .agg #[.int .i64 k, .string b]] w (DDo W w F a (Dt.act bestL decA d k b.data.toList).1 (Dt.act bestL decA d k b.data.toList).2) := by
  have hg : d.l.length ≤ 4000 ∧ d.acts ≤ 300 := by obtain ⟨_, _, _, _, _, _, _, _, q⟩ := h; exact q
  have hbl : b.data.toList.length = b.size := Array.length_toList
  have hub : ∀ u, DoS W w u F a.block d → IsDet W u F a { d with acts := d.acts + 1 } ∧ Below W.heap.size W u := fun u hS => by
    have e : a = ⟨a.block, 0, none⟩ := by obtain ⟨g, _, e, _⟩ := h; subst e; rfl
    exact ⟨by rw [e]; exact hS.isd, hw.trans (hS.only.below hw.size (fun k hk => (h.lt k hk).1))⟩
  unfold Dt.act
  by_cases h3 : d.acts = 300
  · rw [if_pos h3]; exact do_full k b h h3
  rw [if_neg h3]
  have hf : d.acts < 300 := by omega
  by_cases hk : k < 1 ∨ 3 < k
  · rw [if_pos hk]
    exact do_kind k b h hf (by simp; omega) (by simp; omega) (by simp; omega)
  rw [if_neg hk]
  by_cases hk2 : k = 2
  · rw [if_pos hk2]; subst hk2
    exact do_ask b h hl hw hf _ _ _ (hid rfl)
  rw [if_neg hk2]
  cases he : d.ended with
  | true =>
    rw [if_pos rfl]
    by_cases hk3 : k = 3
    · subst hk3
      have := do_finish (rc := 3) (ve := 0) (vy := 0) (vf := false) (T := []) (d1 := { d with acts := d.acts + 1 }) b h hf (hid fun u hS => finish_ended (hub u hS).1 he)
      rw [he] at this; exact this
    · obtain rfl : k = 1 := by omega
      have := do_feed (rc := 3) (d1 := { d with acts := d.acts + 1 }) b h hf (hid fun u hS => feed_ended b (hub u hS).1 he)
      rw [he] at this; exact this
  | false =>
    rw [if_neg (by simp)]
    by_cases hk3 : k = 3
    · rw [if_pos hk3]; subst hk3
      have hin := judgeP_in bestL bestL_in d.hint d.l
      have := do_finish (rc := 0) (ve := (judgeP bestL d.hint d.l).1) (vy := (judgeP bestL d.hint d.l).2) (vf := finP true (judgeP bestL d.hint d.l).2 d.l) (T := tellP decA (judgeP bestL d.hint d.l).1 d.l) (d1 := { d with acts := d.acts + 1, ended := true }) b h hf
        (hid fun u hS => finish_take (hub u hS).1 hl (hub u hS).2 he _ _ _ _ (hid rfl) (hid rfl) hin.1 hin.2.1)
      exact this
    · rw [if_neg hk3]
      obtain rfl : k = 1 := by omega
      by_cases hlong : 4000 < d.l.length + b.data.toList.length
      · rw [if_pos hlong]
        have := do_feed (rc := 4) (d1 := { d with acts := d.acts + 1 }) b h hf (hid fun u hS => feed_long b (hub u hS).1 he (by rw [← hbl]; exact hlong))
        rw [he] at this; exact this
      · rw [if_neg hlong]
        have := do_feed (rc := 0) (d1 := { d with acts := d.acts + 1, l := d.l ++ b.data.toList }) b h hf (hid fun u hS => feed_take b (hub u hS).1 (hub u hS).2.size he (by simp only; omega))
        rw [he] at this; exact this
/-- The landed detector keeps its contracts. -/
def detC (W : World) (hl : Laid W) : DetC W bestL decA where
  IsD := IsDet W
  keep := fun h hk => h.keep hk
  lt := fun h k hk => h.lt k hk
  good := fun h => by obtain ⟨_, _, _, _, _, _, _, _, q⟩ := h; exact q
  new := fun s w hs hw => new_det W s w hs hw
  act := fun k b hw h => do_any k b h hl hw
  bytes := fun _ h => (bytes_any h).mono fun e w' ⟨h1, h2⟩ => ⟨_, h1, rfl, by rw [h2]; exact Below.refl _ _⟩
  find := fun s w hs _ => find_any s w (by omega)
  judge := fun h s w hs hw => judge_det h s w hs (hl.below hw)
  tell := fun x s w h1 h2 hs hw => tell_det x s w h1 h2 hs (hl.below hw)
end Go.Proofs.YtmdnpgcnbpppfaaGreatDoor

/- What the statements' arguments are: acts in a slice, an act by value; what is known of decoding and of the best encoding. -/
namespace Go.Proofs.YtmdnpgcnbpppfaaGreatDoor
open Go.RowKit Go.Deep Go.WideShapes

theorem cAct : Tryz.prog.cellsOf 31 = 2 := by kernel_rfl
theorem cInt : Tryz.prog.cellsOf 3 = 1 := by kernel_rfl
theorem cStr : Tryz.prog.cellsOf 9 = 1 := by kernel_rfl
theorem bAct : Tryz.prog.bytesOf 31 = 24 := by kernel_rfl
theorem laidOut : laidOutB Tryz.prog = true := by kernel_rfl
theorem spot_of {P : Program} {t e : TypeId} (ht : P.underlying t = some (.slice e)) {W : World} {r : Reach} {b0 : Nat} {a : Addr} {len cap : Nat} (hv : Value.okWide P W r b0 t (.slice (some a) len cap)) : a.spot = none := by
  simp only [Value.okWide, ht, Cell.okWide, Cell.ok] at hv
  exact hv.2.2.2.1
theorem weightsAll_mem {H : Type} {P : Program} {e : TypeId} : ∀ {l : List (DataW H)} {d : DataW H}, d ∈ l → ∀ n ∈ d.weights P e, n ∈ DataW.weightsAll P e l
  | x :: r, d, hd, n, hn => by
    simp only [DataW.weightsAll, List.mem_append]
    rcases List.mem_cons.1 hd with rfl | hd
    · exact Or.inl hn
    · exact Or.inr (weightsAll_mem hd n hn)
set_option maxRecDepth 100000 in
/-- Acts as they come in. -/
theorem open_acts {H : Type} {enc : TypeId × Value → H} {W : World} {r : Reach} {b0 : Nat} {v : Value} {d : DataW H} {p : List MemPlace} (hv : Value.okWide Tryz.prog W r b0 40 v) (h : DataW.Trod enc Tryz.prog W 0 (fun _ => true) true 40 v d p) (hw : ∀ n ∈ d.weights Tryz.prog 40, n ≤ reachBytes) :
    ∃ (A : Option Addr) (cap : Nat) (l : List (Int × ByteArray)), v = .slice A l.length cap ∧ ActsIn W (.slice A l.length cap) l ∧ (∀ i (h : i < l.length), l[i].2.size ≤ 140737488355328) ∧ l.length * 24 ≤ 140737488355328 ∧ l.length ≤ cap := by
  obtain ⟨a, len, cap, rfl⟩ := okWide_slice Tryz.underlying40 hv
  obtain ⟨fuel, hf⟩ := h
  have hf' : DataW.trod enc Tryz.prog W 0 (fun _ => true) true fuel 40 [.slice a len cap] = some (d, p) := hf
  rcases open_slice_pairs Tryz.underlying40 Tryz.underlying31 cAct rfl rfl cInt cStr hf' with ⟨hc, hx⟩ | ⟨a', len', cap', m, n, V0, V1, D0, D1, P0, P1, hc, _, hl, hm, hmm, hx, hall⟩
  · simp only [List.cons.injEq, Value.slice.injEq, and_true] at hc
    obtain ⟨rfl, rfl, rfl⟩ := hc
    exact ⟨none, 0, [], rfl, Or.inl ⟨rfl, rfl⟩, fun i h => absurd h (by simp), by simp, by simp⟩
  · simp only [List.cons.injEq, Value.slice.injEq, and_true] at hc
    obtain ⟨rfl, rfl, rfl⟩ := hc
    simp only [if_true] at hmm
    subst hmm
    simp only [Prod.mk.injEq] at hx
    obtain ⟨rfl, rfl⟩ := hx
    have hsp := spot_of Tryz.underlying40 hv
    obtain ⟨lb, lo, sp⟩ := a'
    simp only at hsp
    subst hsp
    obtain ⟨q, hq⟩ := choose_lt (α := Int × ByteArray) (n := m) (p := fun i q => V0 i = .int .i64 q.1 ∧ V1 i = .string q.2 ∧ D1 i = .lit (.string q.2.data.toList)) (fun i hi => by
      obtain ⟨_, _, t0, t1⟩ := hall i hi
      obtain ⟨k, e0, _, _⟩ := DataW.trod_int Tryz.underlying3 t0
      obtain ⟨s, e1, x1, _⟩ := DataW.trod_string Tryz.underlying9 t1
      simp only [List.cons.injEq, and_true] at e0 e1
      simp only [Prod.mk.injEq] at x1
      exact ⟨(k, s), e0, e1, x1.1⟩)
    have hlen : ((List.range len).map q).length = len := by simp
    refine ⟨some ⟨lb, lo, none⟩, m, (List.range len).map q, by rw [hlen], Or.inr ⟨lb, lo, m, by rw [hlen], by rw [hlen]; omega, fun hne => ?_, fun i hi => ?_⟩, fun i hi => ?_, ?_, by rw [hlen]; exact hl⟩
    · have h0 : 0 < m := by
        have : len ≠ 0 := fun e => hne (by rw [e]; rfl)
        omega
      exact World.block_lt_of_cell? W _ (hall 0 h0).1
    · have hi' : i < len := by rw [hlen] at hi; exact hi
      obtain ⟨c0, c1, _, _⟩ := hall i (by omega)
      obtain ⟨e0, e1, _⟩ := hq i (by omega)
      rw [e0] at c0
      rw [e1] at c1
      simp only [List.getElem_map, List.getElem_range]
      rw [Addr.add_lit] at c0 c1
      exact ⟨c0, c1⟩
    · have hi' : i < len := by rw [hlen] at hi; exact hi
      obtain ⟨_, _, e2⟩ := hq i (by omega)
      have hm1 : (q i).2.data.toList.length ∈ DataW.weights Tryz.prog 40 (DataW.slice ((List.range len).map fun i => DataW.agg [D0 i, D1 i]) ((List.range (m - len)).map fun j => DataW.agg [D0 (len + j), D1 (len + j)])) := by
        simp only [DataW.weights, Tryz.underlying40, List.mem_cons, List.mem_append]
        refine Or.inr (Or.inl (weightsAll_mem (List.mem_map.2 ⟨i, List.mem_range.2 hi', rfl⟩) _ ?_))
        simp only [DataW.weights, Tryz.underlying31, List.map_cons, List.map_nil, DataW.weightsEach, List.mem_append, e2]
        exact Or.inr (Or.inl (List.mem_singleton.2 rfl))
      have := hw _ hm1
      simp only [List.getElem_map, List.getElem_range]
      have e : (q i).2.data.toList.length = (q i).2.size := Array.length_toList
      rw [e] at this
      unfold reachBytes at this
      omega
    · have := hw (((List.range len).map fun i => (DataW.agg [D0 i, D1 i] : DataW H)).length * 24 + ((List.range (m - len)).map fun j => (DataW.agg [D0 (len + j), D1 (len + j)] : DataW H)).length * 24) (by
        simp only [DataW.weights, Tryz.underlying40, List.mem_cons, bAct, Nat.add_mul]
        exact Or.inl trivial)
      unfold reachBytes at this
      simp only [List.length_map, List.length_range] at this ⊢
      omega
set_option maxRecDepth 100000 in
/-- An act by value, as it comes in. -/
theorem open_act {H : Type} {enc : TypeId × Value → H} {W : World} {r : Reach} {b0 : Nat} {v : Value} {d : DataW H} {p : List MemPlace} (hv : Value.okWide Tryz.prog W r b0 31 v) (h : DataW.Trod enc Tryz.prog W 0 (fun _ => true) true 31 v d p) :
    ∃ (k : Int) (s : ByteArray), v = .agg #[.int .i64 k, .string s] := by
  obtain ⟨c0, c1, y0, y1, m, rfl, rfl, rfl, hy0, hy1⟩ := Joins.open_agg2 Tryz.underlying31 (by kernel_rfl) cAct hv h
  obtain ⟨k, e0, _, _⟩ := DataW.trod_int Tryz.underlying3 hy0
  obtain ⟨s, e1, _, _⟩ := DataW.trod_string Tryz.underlying9 hy1
  simp only [List.cons.injEq, and_true] at e0 e1
  subst e0 e1
  exact ⟨k, s, rfl⟩
theorem decA_one : decA 1 [97] = [97] := by decide +kernel
theorem decA_few (e : Int) (l : List UInt8) (h1 : 1 ≤ e) (h2 : e ≤ 6) : (decA e l).length ≤ l.length := by
  obtain ⟨M, _, _, h, _⟩ := dec_of e h1 h2
  exact h l
theorem aEnds_in (e s : Int) (h : aEnds e s = true) : 1 ≤ e ∧ e ≤ 6 := by
  by_cases h1 : 1 ≤ e ∧ e ≤ 6
  · exact h1
  · rw [aEnds_none e s h1] at h; cases h
theorem bestL_ok (l : List UInt8) (h : 0 < bestL l) : aEnds (bestL l) (aRun (bestL l) 0 l) = true :=
  ((bestE_ok (fun e => aEnds e (aRun e 0 l)) (fun e => sumN e l) (fun e h => aEnds_in e _ h)).2 (by unfold bestL at h; omega)).2.2.1
theorem bestL_good (l : List UInt8) (h : 0 < bestL l) : ∀ x ∈ decA (bestL l) l, x ≠ -1 := by
  obtain ⟨M, _, _, _, ha⟩ := dec_of (bestL l) (by omega) (bestL_in l).2
  have := bestL_ok l h
  rw [ha l] at this
  intro x hx e
  subst e
  rw [(hasBad_iff _).2 hx] at this
  cases this
end Go.Proofs.YtmdnpgcnbpppfaaGreatDoor
