/- The reference's detector: an act. -/
import Derived.Test.YtmdnpgcnbpppfaaGreatDoorDeRf2
import Derived.Deep.QuietTactic
import Derived.Deep.RegionWith
import Derived.BigQuiet
namespace Go.Proofs.YtmdnpgcnbpppfaaGreatDoor
open Go.RowKit
attribute [local go_sem ↓] run_eqV run_neV fld_code fld_verdict fld_out

variable {W : World} {best : List UInt8 → Int} {dec : Int → List UInt8 → List Int}
/-- A reply in a block of the call's own. -/
structure HasR (w : World) (b : Nat) (c e y : Int) (f : Bool) (A : Option Addr) (n k : Nat) : Prop where
  h : Has5 w b c e y f A n k
  fz : ∀ i, w.frozen? ⟨b, i, none⟩ = false
/-- The count, one further. -/
theorem HasD.count {w : World} {b : Nat} {s : ByteArray} {d : Dt} (h : HasD w b s d) : HasD (w.setCell ⟨b, 3, none⟩ (.int .i64 ((d.acts : Int) + 1))) b s { d with acts := d.acts + 1 } := by
  obtain ⟨h0, h1, h2, h3, hz, ht⟩ := h
  refine ⟨?_, ?_, ?_, ?_, fun i => ?_, ht⟩
  all_goals first | (simp [World.cell?_setCell_other, World.cell?_setCell_same, *]; done) | (simp only [World.frozen?_setCell]; exact hz i)
theorem HasD.text {w : World} {b : Nat} {s : ByteArray} {d : Dt} (h : HasD w b s d) (t : ByteArray) : HasD (w.setCell ⟨b, 1, none⟩ (.string (s ++ t))) b (s ++ t) { d with l := d.l ++ t.data.toList } := by
  obtain ⟨h0, h1, h2, h3, hz, ht⟩ := h
  refine ⟨?_, ?_, ?_, ?_, fun i => ?_, by simp [ht]⟩
  all_goals first | (simp [World.cell?_setCell_other, World.cell?_setCell_same, *]; done) | (simp only [World.frozen?_setCell]; exact hz i)
theorem HasD.end_ {w : World} {b : Nat} {s : ByteArray} {d : Dt} (h : HasD w b s d) : HasD (w.setCell ⟨b, 2, none⟩ (.bool true)) b s { d with ended := true } := by
  obtain ⟨h0, h1, h2, h3, hz, ht⟩ := h
  refine ⟨?_, ?_, ?_, ?_, fun i => ?_, ht⟩
  all_goals first | (simp [World.cell?_setCell_other, World.cell?_setCell_same, *]; done) | (simp only [World.frozen?_setCell]; exact hz i)
/-- What an act of the reference's detector hands back. -/
def RDo (w : World) (b : Nat) (r : Rp) (d : Dt) (e : Ending) (w' : World) : Prop := PRp w r e w' ∧ (∃ s', HasD w' b s' d) ∧ Only (fun x => x = b) w w'
set_option maxRecDepth 100000 in
set_option maxHeartbeats 1000000 in
theorem refDo_full (b : Nat) (s t : ByteArray) (d : Dt) (k : Int) (w : World) (hD : HasD w b s d) (hf : d.acts = 300) :
    Calls Tryz.prog 18 #[.pointer (some ⟨b, 0, none⟩), .agg #[.int .i64 k, .string t]] w (RDo w b (.err 5) d) := by
  have hlt := hD.lt
  have kD := hD
  obtain ⟨c0, c1, c2, c3, cz, tx⟩ := kD
  rw [hf] at c3
  go_enter Tryz.func18, Tryz.ntmps18
  go_wp2_with fail
  refine bodyPost_ret (ret_R rfl rfl (Has5.new2 _ _ w.heap.size rfl 5 0 0 false none 0 0 36)) rfl ⟨⟨none, 0, rfl, Out.nil _ _⟩, ⟨s, (hD.alloc _).alloc _⟩, ((Only.refl _ _).alloc _).alloc _⟩
set_option maxRecDepth 100000 in
set_option maxHeartbeats 1000000 in
theorem refDo_low (b : Nat) (s t : ByteArray) (d : Dt) (k : Int) (w : World) (hD : HasD w b s d) (hf : ((d.acts : Int) == 300) = false) (hf2 : (d.acts : Int) ≤ 299) (hk : decide (k < 1) = true) :
    Calls Tryz.prog 18 #[.pointer (some ⟨b, 0, none⟩), .agg #[.int .i64 k, .string t]] w (RDo w b (.err 2) { d with acts := d.acts + 1 }) := by
  have hlt := hD.lt
  have kD := hD
  obtain ⟨c0, c1, c2, c3, cz, tx⟩ := kD
  go_enter Tryz.func18, Tryz.ntmps18
  go_wp2_with fail
  refine bodyPost_ret (ret_R rfl rfl (Has5.new2 _ _ w.heap.size (by simp [World.setCell]) 2 0 0 false none 0 0 36)) rfl ⟨⟨none, 0, rfl, Out.nil _ _⟩, ⟨s, (hD.count.alloc _).alloc _⟩, (((Only.refl (fun x => x = b) w).set rfl 3 _).alloc _).alloc _⟩
set_option maxRecDepth 100000 in
set_option maxHeartbeats 1000000 in
theorem refDo_high (b : Nat) (s t : ByteArray) (d : Dt) (k : Int) (w : World) (hD : HasD w b s d) (hf : ((d.acts : Int) == 300) = false) (hf2 : (d.acts : Int) ≤ 299) (hk : decide (k < 1) = false) (hk3 : decide (3 < k) = true) :
    Calls Tryz.prog 18 #[.pointer (some ⟨b, 0, none⟩), .agg #[.int .i64 k, .string t]] w (RDo w b (.err 2) { d with acts := d.acts + 1 }) := by
  have hlt := hD.lt
  have kD := hD
  obtain ⟨c0, c1, c2, c3, cz, tx⟩ := kD
  go_enter Tryz.func18, Tryz.ntmps18
  go_wp2_with fail
  refine bodyPost_ret (ret_R rfl rfl (Has5.new2 _ _ w.heap.size (by simp [World.setCell]) 2 0 0 false none 0 0 36)) rfl ⟨⟨none, 0, rfl, Out.nil _ _⟩, ⟨s, (hD.count.alloc _).alloc _⟩, (((Only.refl (fun x => x = b) w).set rfl 3 _).alloc _).alloc _⟩
set_option maxRecDepth 100000 in
set_option maxHeartbeats 1000000 in
theorem refDo_ended (b : Nat) (s t : ByteArray) (d : Dt) (k : Int) (w : World) (hD : HasD w b s d) (hf : ((d.acts : Int) == 300) = false) (hf2 : (d.acts : Int) ≤ 299) (hk : decide (k < 1) = false) (hk3 : decide (3 < k) = false) (hk2 : (k == 2) = false) (he : d.ended = true) :
    Calls Tryz.prog 18 #[.pointer (some ⟨b, 0, none⟩), .agg #[.int .i64 k, .string t]] w (RDo w b (.err 3) { d with acts := d.acts + 1 }) := by
  have hlt := hD.lt
  have kD := hD
  obtain ⟨c0, c1, c2, c3, cz, tx⟩ := kD
  rw [he] at c2
  go_enter Tryz.func18, Tryz.ntmps18
  go_wp2_with fail
  refine bodyPost_ret (ret_R rfl rfl (Has5.new2 _ _ w.heap.size (by simp [World.setCell]) 3 0 0 false none 0 0 36)) rfl ⟨⟨none, 0, rfl, Out.nil _ _⟩, ⟨s, (hD.count.alloc _).alloc _⟩, (((Only.refl (fun x => x = b) w).set rfl 3 _).alloc _).alloc _⟩
set_option maxRecDepth 100000 in
set_option maxHeartbeats 1000000 in
theorem refDo_long (b : Nat) (s t : ByteArray) (d : Dt) (k : Int) (w : World) (hD : HasD w b s d) (hf : ((d.acts : Int) == 300) = false) (hf2 : (d.acts : Int) ≤ 299) (hk : decide (k < 1) = false) (hk3 : decide (3 < k) = false) (hk2 : (k == 2) = false) (he : d.ended = false) (hk1 : (k == 3) = false) (hs : (s.size : Int) ≤ 4000) (ht : (t.size : Int) ≤ 140737488355328) (hl : decide ((4000 : Int) < (s.size : Int) + (t.size : Int)) = true) :
    Calls Tryz.prog 18 #[.pointer (some ⟨b, 0, none⟩), .agg #[.int .i64 k, .string t]] w (RDo w b (.err 4) { d with acts := d.acts + 1 }) := by
  have hlt := hD.lt
  have kD := hD
  obtain ⟨c0, c1, c2, c3, cz, tx⟩ := kD
  rw [he] at c2
  go_enter Tryz.func18, Tryz.ntmps18
  go_wp2_with fail
  go_quiet (fail)
  go_wp2_with fail
  have hR := (Has5.new2 (w.setCell ⟨b, 3, none⟩ (.int .i64 ((d.acts : Int) + 1))) (.cells #[.int .i64 k, .string t] 31) w.heap.size (by simp [World.setCell]) 0 0 0 false none 0 0 36).keep (w' := (((w.setCell ⟨b, 3, none⟩ (.int .i64 ((d.acts : Int) + 1))).alloc (.cells #[.int .i64 k, .string t] 31)).alloc (.cells #[.int .i64 0, .int .i64 0, .int .i64 0, .bool false, .slice none 0 0] 36)).drewN nq) rfl
  have hDD := (((hD.count.alloc (.cells #[.int .i64 k, .string t] 31)).alloc (.cells #[.int .i64 0, .int .i64 0, .int .i64 0, .bool false, .slice none 0 0] 36)).keep (w' := (((w.setCell ⟨b, 3, none⟩ (.int .i64 ((d.acts : Int) + 1))).alloc (.cells #[.int .i64 k, .string t] 31)).alloc (.cells #[.int .i64 0, .int .i64 0, .int .i64 0, .bool false, .slice none 0 0] 36)).drewN nq) rfl).keep (far5 _ (w.heap.size + 1) b (by omega) (.int .i64 4) (.int .i64 0) (.int .i64 0) (.bool false) (.slice none 0 0))
  exact bodyPost_ret (ret_R rfl rfl (hR.put5 4 0 0 false none 0 0)) rfl ⟨⟨none, 0, rfl, Out.nil _ _⟩, ⟨_, hDD⟩, (((((Only.refl (fun x => x = b) w).set rfl 3 _).alloc _).alloc _).dN _).own5 (by omega) _ _ _ _ _⟩
set_option maxRecDepth 100000 in
set_option maxHeartbeats 1000000 in
theorem refDo_feed (b : Nat) (s t : ByteArray) (d : Dt) (k : Int) (w : World) (hD : HasD w b s d) (hf : ((d.acts : Int) == 300) = false) (hf2 : (d.acts : Int) ≤ 299) (hk : decide (k < 1) = false) (hk3 : decide (3 < k) = false) (hk2 : (k == 2) = false) (he : d.ended = false) (hk1 : (k == 3) = false) (hs : (s.size : Int) ≤ 4000) (ht : (t.size : Int) ≤ 140737488355328) (hl : decide ((4000 : Int) < (s.size : Int) + (t.size : Int)) = false) :
    Calls Tryz.prog 18 #[.pointer (some ⟨b, 0, none⟩), .agg #[.int .i64 k, .string t]] w (RDo w b ⟨0, .zero, []⟩ { d with l := d.l ++ t.data.toList, acts := d.acts + 1 }) := by
  have hlt := hD.lt
  have kD := hD
  obtain ⟨c0, c1, c2, c3, cz, tx⟩ := kD
  rw [he] at c2
  go_enter Tryz.func18, Tryz.ntmps18
  go_wp2_with fail
  go_quiet (fail)
  go_wp2_with fail
  go_region_with (fail)
  all_goals (go_wp2_with fail)
  all_goals
    have hR := ((Has5.new2 (w.setCell ⟨b, 3, none⟩ (.int .i64 ((d.acts : Int) + 1))) (.cells #[.int .i64 k, .string t] 31) w.heap.size (by simp [World.setCell]) 0 0 0 false none 0 0 36).keep (w' := (((w.setCell ⟨b, 3, none⟩ (.int .i64 ((d.acts : Int) + 1))).alloc (.cells #[.int .i64 k, .string t] 31)).alloc (.cells #[.int .i64 0, .int .i64 0, .int .i64 0, .bool false, .slice none 0 0] 36)).drewN (nq + 1)) rfl).keep (Below.heap_setCell _ ⟨b, 1, none⟩ (.string (s ++ t)) (w.heap.size + 1) (show w.heap.size + 1 ≠ b by omega))
    have hDD := ((((hD.count.alloc (.cells #[.int .i64 k, .string t] 31)).alloc (.cells #[.int .i64 0, .int .i64 0, .int .i64 0, .bool false, .slice none 0 0] 36)).keep (w' := (((w.setCell ⟨b, 3, none⟩ (.int .i64 ((d.acts : Int) + 1))).alloc (.cells #[.int .i64 k, .string t] 31)).alloc (.cells #[.int .i64 0, .int .i64 0, .int .i64 0, .bool false, .slice none 0 0] 36)).drewN (nq + 1)) rfl).text t).keep (far5 _ (w.heap.size + 1) b (by omega) (.int .i64 0) (.int .i64 0) (.int .i64 0) (.bool false) (.slice none 0 0))
    exact bodyPost_ret (ret_R rfl rfl (hR.put5 0 0 0 false none 0 0)) rfl ⟨⟨none, 0, rfl, Out.nil _ _⟩, ⟨_, hDD⟩, ((((((Only.refl (fun x => x = b) w).set rfl 3 _).alloc _).alloc _).dN _).set rfl 1 _).own5 (by omega) _ _ _ _ _⟩
set_option maxRecDepth 100000 in
set_option maxHeartbeats 1000000 in
theorem refDo_ask (R : RefC W best dec) (b : Nat) (s t : ByteArray) (d : Dt) (w : World) (hw : Below W.heap.size W w) (hbW : W.heap.size ≤ b) (hs : s.size ≤ 4000) (hD : HasD w b s d) (hf : ((d.acts : Int) == 300) = false) (hf2 : (d.acts : Int) ≤ 299) (ve vy : Int) (vf : Bool) (hv : Hid (d.verdict best = ⟨ve, vy, vf⟩)) :
    Calls Tryz.prog 18 #[.pointer (some ⟨b, 0, none⟩), .agg #[.int .i64 2, .string t]] w (RDo w b ⟨0, ⟨ve, vy, vf⟩, []⟩ { d with acts := d.acts + 1 }) := by
  have hlt := hD.lt
  have kD := hD
  obtain ⟨c0, c1, c2, c3, cz, tx⟩ := kD
  have hR := Has5.new2 (w.setCell ⟨b, 3, none⟩ (.int .i64 ((d.acts : Int) + 1))) (.cells #[.int .i64 2, .string t] 31) w.heap.size (by simp [World.setCell]) 0 0 0 false none 0 0 36
  have hRz : ∀ i, (((w.setCell ⟨b, 3, none⟩ (.int .i64 ((d.acts : Int) + 1))).alloc (.cells #[.int .i64 2, .string t] 31)).alloc (.cells #[.int .i64 0, .int .i64 0, .int .i64 0, .bool false, .slice none 0 0] 36)).frozen? ⟨w.heap.size + 1, i, none⟩ = false := fun i => by simp [go_sem, World.setCell]
  have hDD := (hD.count.alloc (.cells #[.int .i64 2, .string t] 31)).alloc (.cells #[.int .i64 0, .int .i64 0, .int .i64 0, .bool false, .slice none 0 0] 36)
  have hO := (((Only.refl (fun x => x = b) w).set rfl 3 (.int .i64 ((d.acts : Int) + 1))).alloc (.cells #[.int .i64 2, .string t] 31)).alloc (.cells #[.int .i64 0, .int .i64 0, .int .i64 0, .bool false, .slice none 0 0] 36)
  have hwU := hw.trans (hO.below hw.size (fun k hk => by subst hk; exact hbW))
  have HV := refVerdict_any R b s _ _ hs hwU hDD
  rw [show Dt.verdict best { d with acts := d.acts + 1 } = ⟨ve, vy, vf⟩ from (verdict_same best _ d rfl rfl rfl).trans hv.out] at HV
  replace HV := hid HV
  go_enter Tryz.func18, Tryz.ntmps18
  go_wp2_with fail
  generalize (((w.setCell ⟨b, 3, none⟩ (.int .i64 ((d.acts : Int) + 1))).alloc (.cells #[.int .i64 2, .string t] 31)).alloc (.cells #[.int .i64 0, .int .i64 0, .int .i64 0, .bool false, .slice none 0 0] 36)) = u at *
  refine (HV.out).mono ?_
  rintro r u1 ⟨rfl, hb1⟩
  have hR1 := hR.below hb1
  have hz1 : ∀ i, u1.frozen? ⟨w.heap.size + 1, i, none⟩ = false := fun i => (World.frozen?_of_block (a := ⟨w.heap.size + 1, i, none⟩) (hb1.block _ hR.lt)).trans (hRz i)
  have hD1 := hDD.below hb1
  have k1 := hR1
  obtain ⟨r0, r1, r2, r3, r4⟩ := k1
  simp only
  go_wp2_with fail
  exact bodyPost_ret (ret_R rfl rfl (hR1.put5 0 ve vy vf none 0 0)) rfl ⟨⟨none, 0, rfl, Out.nil _ _⟩, ⟨_, hD1.keep (far5 _ (w.heap.size + 1) b (by omega) _ _ _ _ _)⟩, (hO.trans (Only.of (fun _ => False) hb1) (fun _ h => h.elim)).own5 (by omega) _ _ _ _ _⟩
end Go.Proofs.YtmdnpgcnbpppfaaGreatDoor
