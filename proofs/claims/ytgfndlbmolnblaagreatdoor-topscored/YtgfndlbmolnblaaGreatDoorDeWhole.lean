/- The statement TopWhole out of a detector's contracts. -/
import Derived.Test.YtgfndlbmolnblaaGreatDoorDeMarks
import Derived.Deep.RegionWith
namespace Go.Proofs.YtgfndlbmolnblaaGreatDoor
open Go.RowKit
attribute [local go_sem ↓] run_eqV run_neV fld_code fld_verdict fld_out

variable {W : World} {best : List UInt8 → Int} {dec : Int → List UInt8 → List Int}
/-- What TopWhole's look knows: where the hint and the flag lie. -/
def WhoJ (hint : ByteArray) (hb eb : Nat) (_ : Nat) (w : World) : Prop := w.cell? ⟨hb, 0, none⟩ = some (.string hint) ∧ (∃ v, w.cell? ⟨eb, 0, none⟩ = some (.bool v)) ∧ w.frozen? ⟨eb, 0, none⟩ = false
set_option maxRecDepth 100000 in
set_option maxHeartbeats 1000000 in
theorem wholeLook_skip (a : Addr) (k : Int) (b : ByteArray) (rc re ry : Int) (rf : Bool) (A : Option Addr) (n c hb eb : Nat) (w : World) (h : k ≠ 3 ∨ rc ≠ 0) : Calls Tryz.prog 14 #[.pointer (some a), .agg #[.int .i64 k, .string b], .agg #[.int .i64 rc, .int .i64 re, .int .i64 ry, .bool rf, .slice A n c], .pointer (some ⟨eb, 0, none⟩), .pointer (some ⟨hb, 0, none⟩)] w fun e w' => e = .returned (.bool true) ∧ Below w.heap.size w w' := by
  by_cases hc : k = 3
  · have h1 := h.resolve_left (fun x => x hc)
    have hc' : (rc == 0) = false := by simpa using h1
    subst hc
    go_enter Tryz.func14, Tryz.ntmps14
    go_wp2_with fail
    go_ret
    exact ⟨rfl, ((Below.refl _ _).alloc (Nat.le_refl _) _).alloc (by simp) _⟩
  · have hc' : (k == 3) = false := by simpa using hc
    go_enter Tryz.func14, Tryz.ntmps14
    go_wp2_with fail
    go_ret
    exact ⟨rfl, ((Below.refl _ _).alloc (Nat.le_refl _) _).alloc (by simp) _⟩
set_option maxRecDepth 100000 in
set_option maxHeartbeats 1000000 in
theorem wholeLook_take (C : DetC W best dec) (hbest : ∀ l, 0 ≤ best l ∧ best l ≤ 6) (_hdl : ∀ e l, 1 ≤ e → e ≤ 6 → (dec e l).length ≤ l.length) (a : Addr) (F : Nat → Prop) (d : Dt) (b hint : ByteArray) (re ry : Int) (A : Option Addr) (c hb eb B : Nat) (T : List Int) (w : World) (hw : Below W.heap.size W w) (hJ : WhoJ hint hb eb 0 w) (heb : W.heap.size ≤ eb) (hB : eb < B) (hD : C.IsD w F a d) (hF : ¬ F eb) (hint_s : hint.size ≤ 140737488355328)
    (hj : Hid (judgeP best (findL hint.data.toList) d.l = (re, ry))) (hT : Hid (tellP dec re d.l = T)) (hTl : T.length ≤ 4000) (hO : Out w B (.slice A T.length c) T) :
    Calls Tryz.prog 14 #[.pointer (some a), .agg #[.int .i64 3, .string b], .agg #[.int .i64 0, .int .i64 re, .int .i64 ry, .bool true, .slice A T.length c], .pointer (some ⟨eb, 0, none⟩), .pointer (some ⟨hb, 0, none⟩)] w fun e w' => e = .returned (.bool true) ∧ WhoJ hint hb eb 1 w' ∧ Only (fun x => x = eb) w w' := by
  obtain ⟨hh, ⟨v, he⟩, hz⟩ := hJ
  have l1 : hb < w.heap.size := World.block_lt_of_cell? w _ hh
  have l2 : eb < w.heap.size := World.block_lt_of_cell? w _ he
  have hv : vEq ⟨re, ry, true⟩ ⟨re, ry, true⟩ = true := vEq_self _
  have hne : hb ≠ eb := fun x => by subst x; rw [hh] at he; cases he
  have hlen := (C.good hD).1
  have o0 := hid (((Only.refl (fun x => x = eb) w).set rfl 0 (.bool true)))
  have D0 := C.far hD hF 0 (.bool true)
  have O0 := hO.set1 hB 0 (.bool true)
  have W0 := hw.setCell (p := ⟨eb, 0, none⟩) heb (.bool true)
  have h0 : (w.setCell ⟨eb, 0, none⟩ (.bool true)).cell? ⟨hb, 0, none⟩ = some (.string hint) := (World.cell?_of_block (a := ⟨hb, 0, none⟩) (Below.heap_setCell w ⟨eb, 0, none⟩ _ hb hne)).trans hh
  have e0 : (w.setCell ⟨eb, 0, none⟩ (.bool true)).cell? ⟨eb, 0, none⟩ = some (.bool true) := World.cell?_setCell_same w ⟨eb, 0, none⟩ (.bool true) he
  have z0 : (w.setCell ⟨eb, 0, none⟩ (.bool true)).frozen? ⟨eb, 0, none⟩ = false := by simp only [World.frozen?_setCell]; exact hz
  have s0 : (w.setCell ⟨eb, 0, none⟩ (.bool true)).heap.size = w.heap.size := by simp [World.setCell]
  have l1u : hb < (w.setCell ⟨eb, 0, none⟩ (.bool true)).heap.size := by rw [s0]; exact l1
  have l2u : eb < (w.setCell ⟨eb, 0, none⟩ (.bool true)).heap.size := by rw [s0]; exact l2
  go_enter Tryz.func14, Tryz.ntmps14
  go_wp2_with fail
  generalize w.setCell ⟨eb, 0, none⟩ (.bool true) = u at *
  rw [← s0] at *
  clear hO hD hw hh he hz
  have hr := (Has5.new (u.alloc (.cells #[.int .i64 3, .string b] 27)) 0 re ry true A T.length c 33)
  have D1 := C.alloc (C.alloc D0 (.cells #[.int .i64 3, .string b] 27)) (.cells #[.int .i64 0, .int .i64 re, .int .i64 ry, .bool true, .slice A T.length c] 33)
  have W1 := (W0.alloc W0.size (.cells #[.int .i64 3, .string b] 27)).alloc (W0.alloc W0.size _).size (.cells #[.int .i64 0, .int .i64 re, .int .i64 ry, .bool true, .slice A T.length c] 33)
  have O1 := (O0.alloc (.cells #[.int .i64 3, .string b] 27)).alloc (.cells #[.int .i64 0, .int .i64 re, .int .i64 ry, .bool true, .slice A T.length c] 33)
  have o1 := (o0.out.alloc (.cells #[.int .i64 3, .string b] 27)).alloc (.cells #[.int .i64 0, .int .i64 re, .int .i64 ry, .bool true, .slice A T.length c] 33)
  have b1 : Below u.heap.size u ((u.alloc (.cells #[.int .i64 3, .string b] 27)).alloc (.cells #[.int .i64 0, .int .i64 re, .int .i64 ry, .bool true, .slice A T.length c] 33)) := ((Below.refl _ _).alloc (Nat.le_refl _) _).alloc (by simp) _
  simp only [World.size_alloc] at hr
  generalize (u.alloc (.cells #[.int .i64 3, .string b] 27)).alloc (.cells #[.int .i64 0, .int .i64 re, .int .i64 ry, .bool true, .slice A T.length c] 33) = u1 at *
  generalize u.heap.size + 1 = rb at *
  have hh1 : u1.cell? ⟨hb, 0, none⟩ = some (.string hint) := (World.cell?_of_block (a := ⟨hb, 0, none⟩) (b1.block hb l1u)).trans h0
  have he1 : u1.cell? ⟨eb, 0, none⟩ = some (.bool true) := (World.cell?_of_block (a := ⟨eb, 0, none⟩) (b1.block eb l2u)).trans e0
  have hz1 : u1.frozen? ⟨eb, 0, none⟩ = false := (World.frozen?_of_block (a := ⟨eb, 0, none⟩) (b1.block eb l2u)).trans z0
  have l11 := Nat.lt_of_lt_of_le l1u b1.size
  have l21 := Nat.lt_of_lt_of_le l2u b1.size
  clear D0 O0 W0 h0 e0 z0 b1 o0
  have HB := hid (C.bytes W1 D1)
  refine (HB.out).mono ?_
  rintro r u2 ⟨s1, rfl, hs1, b2⟩
  have W2 := W1.trans (b2.mono W1.size)
  have hr2 := hr.below b2
  have O2 := O1.below b2
  have o2 := o1.trans (Only.of (fun _ => False) b2) (fun _ h => h.elim)
  have hh2 : u2.cell? ⟨hb, 0, none⟩ = some (.string hint) := (World.cell?_of_block (a := ⟨hb, 0, none⟩) (b2.block hb l11)).trans hh1
  have he2 : u2.cell? ⟨eb, 0, none⟩ = some (.bool true) := (World.cell?_of_block (a := ⟨eb, 0, none⟩) (b2.block eb l21)).trans he1
  have hz2 : u2.frozen? ⟨eb, 0, none⟩ = false := (World.frozen?_of_block (a := ⟨eb, 0, none⟩) (b2.block eb l21)).trans hz1
  have l12 := Nat.lt_of_lt_of_le l11 b2.size
  have l22 := Nat.lt_of_lt_of_le l21 b2.size
  clear W1 hr O1 o1 hh1 he1 hz1 D1 b2 HB
  have hsz : s1.size ≤ 4000 := by
    have h0 : s1.size = s1.data.toList.length := Array.length_toList.symm
    rw [h0, hs1]; exact hlen
  have HF := hid (C.find hint u2 hint_s W2)
  go_wp2_with fail
  refine (HF.out).mono ?_
  rintro r u3 ⟨rfl, b3⟩
  have W3 := W2.trans (b3.mono W2.size)
  have HJ := C.judge (findL hint.data.toList) s1 u3 hsz W3
  rw [hs1, hj.out] at HJ
  replace HJ := hid HJ
  go_wp2_with fail
  refine (HJ.out).mono ?_
  rintro r u4 ⟨rfl, b4⟩
  have b24 := b3.trans (b4.mono b3.size)
  have W4 := W2.trans (b24.mono W2.size)
  have hr4 := hr2.below b24
  have O4 := O2.below b24
  have o4 := o2.trans (Only.of (fun _ => False) b24) (fun _ h => h.elim)
  have hh4 : u4.cell? ⟨hb, 0, none⟩ = some (.string hint) := (World.cell?_of_block (a := ⟨hb, 0, none⟩) (b24.block hb l12)).trans hh2
  have he4 : u4.cell? ⟨eb, 0, none⟩ = some (.bool true) := (World.cell?_of_block (a := ⟨eb, 0, none⟩) (b24.block eb l22)).trans he2
  have hz4 : u4.frozen? ⟨eb, 0, none⟩ = false := (World.frozen?_of_block (a := ⟨eb, 0, none⟩) (b24.block eb l22)).trans hz2
  have l14 := Nat.lt_of_lt_of_le l12 b24.size
  have l24 := Nat.lt_of_lt_of_le l22 b24.size
  have lr4 := hr4.lt
  clear W2 hr2 O2 o2 hh2 he2 hz2 b3 b4 W3 HF HJ
  simp only
  have hr4' := hr4
  obtain ⟨r0, r1, r2, r3, r4⟩ := hr4
  go_wp2_with fail
  clear r0 r1 r2 r3 r4
  have hv5 := Has3.new u4 ⟨re, ry, true⟩ 30
  have hr5 := hr4'.alloc (.cells #[.int .i64 re, .int .i64 ry, .bool true] 30)
  have W5 := W4.alloc W4.size (.cells #[.int .i64 re, .int .i64 ry, .bool true] 30)
  have O5 := O4.alloc (.cells #[.int .i64 re, .int .i64 ry, .bool true] 30)
  have o5 := o4.alloc (.cells #[.int .i64 re, .int .i64 ry, .bool true] 30)
  have b45 : Below u4.heap.size u4 (u4.alloc (.cells #[.int .i64 re, .int .i64 ry, .bool true] 30)) := (Below.refl _ _).alloc (Nat.le_refl _) _
  simp only at hv5
  generalize u4.alloc (.cells #[.int .i64 re, .int .i64 ry, .bool true] 30) = u5 at *
  generalize u4.heap.size = vb at *
  have hin := judgeP_in best hbest (findL hint.data.toList) d.l
  rw [hj.out] at hin
  have HT := hid (fun w1 hw1 => C.tell re s1 w1 hin.1 hin.2.1 hsz hw1)
  simp only [hs1, hT.out] at HT
  have lv5 := hv5.lt
  have lr5 := hr5.lt
  have k5 := hr5
  obtain ⟨r0, r1, r2, r3, r4⟩ := k5
  obtain ⟨v0, v1, v2, vz⟩ := hv5
  simp only at v0 v1 v2
  go_region_with (first
    | (go_at_call 19; refine (HT.out _ ?_).mono ?_; exact W5.drew; rintro r u6 ⟨⟨A6, c6, rfl, hO6⟩, b6⟩; have b6' : Below u5.heap.size u5 u6 := undrew b6; obtain ⟨q0, q1, q2, q3, q4⟩ := hr5.below b6')
    | (go_at_call 18; refine (tsame_any T _ _ _ _ _ (by omega) (O5.below b6') hO6).mono ?_; rintro r u7 ⟨rfl, b7⟩))
  all_goals
    go_wp2_with fail
    go_ret
    have bb := (b45.trans (b6'.mono (Nat.le_of_lt lv5))).trans (b7.mono (Nat.le_trans (Nat.le_of_lt lv5) b6'.size))
    refine ⟨rfl, ⟨(World.cell?_of_block (a := ⟨hb, 0, none⟩) (bb.block hb l14)).trans hh4, ⟨true, (World.cell?_of_block (a := ⟨eb, 0, none⟩) (bb.block eb l24)).trans he4⟩, (World.frozen?_of_block (a := ⟨eb, 0, none⟩) (bb.block eb l24)).trans hz4⟩, ?_⟩
    exact (o5.trans (Only.of (fun _ => False) b6') (fun _ h => h.elim)).trans (Only.of (fun _ => False) b7) (fun _ h => h.elim)
theorem act_fin_only (d : Dt) (b : List UInt8) (hc : (Dt.act best dec d 3 b).1.code = 0) : (Dt.act best dec d 3 b).1 = ⟨0, Dt.verdict best { d with ended := true }, tellP dec (judgeP best d.hint d.l).1 d.l⟩ ∧ (Dt.act best dec d 3 b).2 = { d with ended := true, acts := d.acts + 1 } := by
  unfold Dt.act at hc ⊢
  split
  · rename_i h; rw [if_pos h] at hc; simp [Rp.err] at hc
  rename_i h1
  rw [if_neg h1] at hc
  rw [if_neg (by omega), if_neg (by omega)] at hc ⊢
  split
  · rename_i h; rw [if_pos h] at hc; simp [Rp.err] at hc
  rw [if_pos rfl]
  exact ⟨rfl, rfl⟩
theorem look_whole (C : DetC W best dec) (hbest : ∀ l, 0 ≤ best l ∧ best l ≤ 6) (hdl : ∀ e l, 1 ≤ e → e ≤ 6 → (dec e l).length ≤ l.length) (l : List (Int × ByteArray)) (hint : ByteArray) (hs : hint.size ≤ 140737488355328) (hb eb : Nat) (_hbW : W.heap.size ≤ hb) (heb : W.heap.size ≤ eb) :
    Look C l (findL hint.data.toList) 14 #[.pointer (some ⟨eb, 0, none⟩), .pointer (some ⟨hb, 0, none⟩)] (fun x => x = eb ∨ x = hb) (WhoJ hint hb eb) where
  enter := fun args w => by simp [callFunc, Tryz.func14, Tryz.f14]
  keep := fun ⟨h1, ⟨v, h2⟩, h3⟩ hk => ⟨(World.cell?_of_block (a := ⟨hb, 0, none⟩) (hk hb (Or.inr rfl))).trans h1, ⟨v, (World.cell?_of_block (a := ⟨eb, 0, none⟩) (hk eb (Or.inl rfl))).trans h2⟩, (World.frozen?_of_block (a := ⟨eb, 0, none⟩) (hk eb (Or.inl rfl))).trans h3⟩
  look := by
    intro i hi w F a A c B hw hF hGB hJ hD hO
    have hfo := act_fin_only (best := best) (dec := dec) (dtAt best dec (findL hint.data.toList) l i) l[i].2.data.toList
    have hhint : (dtAt best dec (findL hint.data.toList) l i).hint = findL hint.data.toList := acts_hint best dec _ _
    have hll := dtAt_long (best := best) (dec := dec) (findL hint.data.toList) l i
    generalize dtAt best dec (findL hint.data.toList) l i = d at *
    generalize hk : l[i].1 = k at *
    have l1 : hb < w.heap.size := World.block_lt_of_cell? w _ hJ.1
    by_cases hs2 : k = 3 ∧ (Dt.act best dec d k l[i].2.data.toList).1.code = 0
    · obtain ⟨rfl, hc⟩ := hs2
      obtain ⟨e1, e2⟩ := hfo hc
      rw [e1] at hO ⊢
      rw [e2] at hD
      have hin := judgeP_in best hbest d.hint d.l
      have hj : judgeP best (findL hint.data.toList) d.l = ((judgeP best d.hint d.l).1, (judgeP best d.hint d.l).2) := by rw [hhint]
      have ht : (tellP dec (judgeP best d.hint d.l).1 d.l).length ≤ 4000 := by
        unfold tellP
        split
        · have := hdl (judgeP best d.hint d.l).1 (d.l.drop (markL d.l).2.toNat) hin.1 hin.2.1
          simp at this; omega
        · have := hdl (judgeP best d.hint d.l).1 d.l hin.1 hin.2.1
          omega
      exact (wholeLook_take C hbest hdl a F _ _ hint _ _ A c hb eb B _ w hw hJ heb (hGB eb (Or.inl rfl)) hD (fun x => hF eb x (Or.inl rfl)) hs (hid hj) (hid rfl) ht hO).mono fun e w' h => ⟨h.1, h.2.1, ⟨h.2.2.os, h.2.2.tape, h.2.2.output, h.2.2.size, fun q hq hn => h.2.2.block q hq (fun x => hn (Or.inl x))⟩⟩
    · generalize (Dt.act best dec d k l[i].2.data.toList).1 = rp at *
      obtain ⟨rc, ⟨re, ry, rf⟩, ro⟩ := rp
      have h4 : k ≠ 3 ∨ rc ≠ 0 := by
        by_cases h5 : k = 3
        · exact Or.inr (fun h6 => hs2 ⟨h5, h6⟩)
        · exact Or.inl h5
      have hJ' := hJ
      obtain ⟨h1, ⟨v, h2⟩, h3⟩ := hJ
      have l2 : eb < w.heap.size := World.block_lt_of_cell? w _ h2
      refine (wholeLook_skip a k _ rc re ry rf A _ c hb eb w h4).mono fun e w' h => ⟨h.1, ⟨(World.cell?_of_block (a := ⟨hb, 0, none⟩) (h.2.block hb l1)).trans h1, ⟨v, (World.cell?_of_block (a := ⟨eb, 0, none⟩) (h.2.block eb l2)).trans h2⟩, (World.frozen?_of_block (a := ⟨eb, 0, none⟩) (h.2.block eb l2)).trans h3⟩, Only.of _ h.2⟩
end Go.Proofs.YtgfndlbmolnblaaGreatDoor
