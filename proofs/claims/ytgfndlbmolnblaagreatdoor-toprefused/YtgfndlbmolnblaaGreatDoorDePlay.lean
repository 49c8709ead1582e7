/- Acts that are played at a new detector. -/
import Derived.Test.YtgfndlbmolnblaaGreatDoorQI
import Derived.Deep.RegionWith
namespace Go.Proofs.YtgfndlbmolnblaaGreatDoor
open Go.RowKit
attribute [local go_sem ↓] run_eqV run_neV

variable {W : World} {best : List UInt8 → Int} {dec : Int → List UInt8 → List Int}
/-- What a look must do, of which J is known behind i acts, and which touches the blocks G alone. -/
structure Look (C : DetC W best dec) (l : List (Int × ByteArray)) (h0 : Int) (n : FuncId) (caps : Array Value) (G : Nat → Prop) (J : Nat → World → Prop) : Prop where
  enter : ∀ (args : Array Value) (w : World), (callFunc n args).run Tryz.prog w = .ok (.enter n args) w
  keep : ∀ {i : Nat} {w w' : World}, J i w → (∀ k, G k → w'.heap[k]? = w.heap[k]?) → J i w'
  look : ∀ (i : Nat) (hi : i < l.length) (w : World) (F : Nat → Prop) (a : Addr) (A : Option Addr) (c B : Nat), Below W.heap.size W w → (∀ k, F k → ¬ G k) → (∀ k, G k → k < B) → J i w →
    C.IsD w F a (Dt.act best dec (dtAt best dec h0 l i) l[i].1 l[i].2.data.toList).2 →
    Out w B (.slice A (Dt.act best dec (dtAt best dec h0 l i) l[i].1 l[i].2.data.toList).1.out.length c) (Dt.act best dec (dtAt best dec h0 l i) l[i].1 l[i].2.data.toList).1.out →
    Calls Tryz.prog n (#[.pointer (some a), .agg #[.int .i64 l[i].1, .string l[i].2], rpV (Dt.act best dec (dtAt best dec h0 l i) l[i].1 l[i].2.data.toList).1 A c] ++ caps) w fun e w' => e = .returned (.bool true) ∧ J (i + 1) w' ∧ Only G w w'
/-- What holds at the head of play's loop. -/
def PlayR (C : DetC W best dec) (l : List (Int × ByteArray)) (h0 : Int) (G : Nat → Prop) (J : Nat → World → Prop) (w : World) (a : Addr) (i : Value) (wr : World) : Prop :=
  ∃ (k : Nat) (F : Nat → Prop), k ≤ l.length ∧ k ≤ 100 ∧ i = .int .i64 k ∧ C.IsD wr F a (dtAt best dec h0 l k) ∧ (∀ b, F b → w.heap.size ≤ b) ∧ J k wr ∧ Only G w wr ∧ Below W.heap.size W wr
/-- What play hands back. -/
def PlayP (C : DetC W best dec) (l : List (Int × ByteArray)) (h0 : Int) (G : Nat → Prop) (J : Nat → World → Prop) (w : World) (e : Ending) (w' : World) : Prop :=
  ∃ a F, e = .returned (.tuple #[.pointer (some a), .bool true]) ∧ C.IsD w' F a (dtAt best dec h0 l (min l.length 100)) ∧ (∀ b, F b → w.heap.size ≤ b) ∧ J (min l.length 100) w' ∧ Only G w w' ∧ Below W.heap.size W w'
set_option maxRecDepth 100000 in
set_option maxHeartbeats 1000000 in
theorem play_some (C : DetC W best dec) (hd : dec 1 [97] = [97]) (s : ByteArray) (lb lo cap : Nat) (l : List (Int × ByteArray)) (n : FuncId) (caps : Array Value) (G : Nat → Prop) (J : Nat → World → Prop) (h0 : Int) (hh : Hid (findL s.data.toList = h0)) (L : Look C l h0 n caps G J) (w : World) (hs : s.size ≤ 140737488355328) (hw : Below W.heap.size W w) (hG : ∀ k, G k → W.heap.size ≤ k ∧ k < w.heap.size) (hJ : J 0 w) (hlb : l ≠ [] → lb < W.heap.size)
    (_hl : l.length ≤ maxLen) (hc : ∀ i (h : i < l.length), W.cell? ⟨lb, lo + i * 2, none⟩ = some (.int .i64 l[i].1) ∧ W.cell? ⟨lb, lo + i * 2 + 1, none⟩ = some (.string l[i].2)) :
    Calls Tryz.prog 13 #[.string s, .slice (some ⟨lb, lo, none⟩) l.length cap, .func (Fn.func n) #[] caps] w (PlayP C l h0 G J w) := by
  have HA := hid (fun w1 h => alive_any C hd w1 h)
  have HN := hid (fun w1 h => C.new s w1 hs h)
  replace hc := hid hc
  go_enter Tryz.func13, Tryz.ntmps13
  go_wp2_with fail
  refine (HA.out _ hw).mono ?_
  rintro r w1 ⟨rfl, hb1⟩
  have hw1 := hw.trans (hb1.mono hw.size)
  go_wp2_with fail
  refine (HN.out _ hw1).mono ?_
  rintro r w2 ⟨a, F, rfl, hD, hF, hb2⟩
  rw [hh.out] at hD
  have hw2 := hw1.trans (hb2.mono hw1.size)
  have hb12 := hb1.trans (hb2.mono hb1.size)
  have hR : PlayR C l h0 G J w a (.int .i64 0) w2 := ⟨0, F, by omega, by omega, rfl, hD, fun b hb => Nat.le_trans hb1.size (hF b hb), L.keep hJ (fun k hk => hb12.block k (hG k hk).2), Only.of _ hb12, hw2⟩
  replace hR := hid hR
  clear hD hF hb1 hb2 hb12 hw1 hw2 hJ HA HN
  go_wp2_with fail
  go_loopw [9] (fun i wr => PlayR C l h0 G J w a i wr) (fun i _ => 100 - (intOf i).toNat)
  case atStart => exact hR.out
  case round =>
    clear hR
    obtain ⟨k, F, hk, hk2, rfl, hD, hF, hJ, ho, hwr⟩ := hrel
    by_cases hlt : k < l.length
    · by_cases hlt2 : k < 100
      · have b0 : (0 : Int) ≤ (k : Int) := by omega
        have b1 : (k : Int) < (l.length : Int) := by omega
        have b2 : (k : Int) < 100 := by omega
        have hlb' := hlb (by intro x; simp [x] at hlt)
        have e0 : wr.cell? ⟨lb, lo + k * 2, none⟩ = some (.int .i64 l[k].1) := by rw [(World.cell?_of_block (a := ⟨lb, lo + k * 2, none⟩) (hwr.block lb hlb'))]; exact (hc.out k hlt).1
        have e1 : wr.cell? ⟨lb, lo + k * 2 + 1, none⟩ = some (.string l[k].2) := by rw [(World.cell?_of_block (a := ⟨lb, lo + k * 2 + 1, none⟩) (hwr.block lb hlb'))]; exact (hc.out k hlt).2
        have H1 := hid (C.act' l[k].1 l[k].2 hwr hD)
        go_wp2_with fail
        refine (H1.out).mono ?_
        rintro r w3 ⟨⟨A1, c1, rfl, hO⟩, F3, hD3, hF3, ho3, hw3⟩
        have hnG : ∀ b, F b → ¬ G b := fun b hb hg => by have := hF b hb; have := (hG b hg).2; omega
        have hF3' : ∀ b, F3 b → w.heap.size ≤ b := fun b hb => by rcases hF3 b hb with h | h; exact hF b h; exact Nat.le_trans ho.size h
        have hnG3 : ∀ b, F3 b → ¬ G b := fun b hb hg => by have := hF3' b hb; have := (hG b hg).2; omega
        have ho' : Only G w w3 := ho.trans ho3 (fun b hb => Or.inr (hF b hb))
        have hJ3 : J k w3 := L.keep hJ (fun b hg => ho3.block b (Nat.lt_of_lt_of_le (hG b hg).2 ho.size) (fun x => hnG b x hg))
        have HL := L.look k hlt
        have hlw : lb < w3.heap.size := Nat.lt_of_lt_of_le hlb' hw3.size
        have e03 : w3.cell? ⟨lb, lo + k * 2, none⟩ = some (.int .i64 l[k].1) := by rw [(World.cell?_of_block (a := ⟨lb, lo + k * 2, none⟩) (hw3.block lb hlb'))]; exact (hc.out k hlt).1
        have e13 : w3.cell? ⟨lb, lo + k * 2 + 1, none⟩ = some (.string l[k].2) := by rw [(World.cell?_of_block (a := ⟨lb, lo + k * 2 + 1, none⟩) (hw3.block lb hlb'))]; exact (hc.out k hlt).2
        clear e0 e1
        generalize hrp : (Dt.act best dec (dtAt best dec h0 l k) l[k].1 l[k].2.data.toList).1 = rp at *
        obtain ⟨rc, ⟨re, ry, rf⟩, ro⟩ := rp
        replace hrp := hid hrp
        simp only [rpV] at *
        have HL2 := fun (w4 : World) hw4 hJ4 hD4 hO4 => HL w4 F3 a A1 c1 wr.heap.size hw4 hnG3 (fun b hg => Nat.lt_of_lt_of_le (hG b hg).2 ho.size) hJ4 hD4 hO4
        clear HL
        replace HL2 := hid HL2
        replace hO := hid hO
        have hin := L.enter
        have HL3 := HL2.out ((w3.alloc (.cells #[.int .i64 rc, .int .i64 re, .int .i64 ry, .bool rf, .slice A1 ro.length c1] 33)).drew) (hw3.alloc hw3.size _).drew (L.keep hJ3 (fun b hg => Below.heap_alloc w3 _ b (Nat.lt_of_lt_of_le (hG b hg).2 ho'.size))) (C.drew (C.alloc hD3 _)) (hO.out.alloc _).drew
        replace HL3 := hid HL3
        have hdn := hid (dtAt_next (best := best) (dec := dec) h0 l k hlt)
        clear HL2
        go_wp2_with fail
        go_region_with (refine (HL3.out).mono ?_; rintro r w4 ⟨rfl, hJ4, ho4⟩)
        all_goals
          go_wp2_with fail
          have ho4' := (ho'.alloc (.cells #[.int .i64 rc, .int .i64 re, .int .i64 ry, .bool rf, .slice A1 ro.length c1] 33)).drew.trans ho4 (fun b hb => Or.inl hb)
          have hb4 := (hw3.alloc hw3.size (.cells #[.int .i64 rc, .int .i64 re, .int .i64 ry, .bool rf, .slice A1 ro.length c1] 33)).drew.trans (ho4.below (Nat.le_trans hw3.size (by simp [World.drew])) (fun b hb => (hG b hb).1))
          have hD4 := C.keep (C.drew (C.alloc hD3 (.cells #[.int .i64 rc, .int .i64 re, .int .i64 ry, .bool rf, .slice A1 ro.length c1] 33))) (fun b hb => ho4.block b (C.lt (C.drew (C.alloc hD3 _)) b hb).2 (hnG3 b hb))
          rw [← hdn.out] at hD4
          exact ⟨⟨k + 1, F3, by omega, by omega, by go_num, hD4, hF3', hJ4, ho4', hb4⟩, by simp [intOf]; omega⟩
      · have hm := hid (show min l.length 100 = k by omega)
        have b1 : (k : Int) < (l.length : Int) := by omega
        have b2 : ¬ (k : Int) < 100 := by omega
        go_wp2_with fail
        go_ret2
        unfold PlayP
        rw [hm.out]
        exact ⟨a, F, rfl, hD, hF, hJ, ho, hwr⟩
    · have hm := hid (show min l.length 100 = k by omega)
      have b1 : ¬ (k : Int) < (l.length : Int) := by omega
      go_wp2_with fail
      go_ret2
      unfold PlayP
      rw [hm.out]
      exact ⟨a, F, rfl, hD, hF, hJ, ho, hwr⟩
set_option maxRecDepth 100000 in
set_option maxHeartbeats 1000000 in
theorem play_none (C : DetC W best dec) (hd : dec 1 [97] = [97]) (s : ByteArray) (n : FuncId) (caps : Array Value) (G : Nat → Prop) (J : Nat → World → Prop) (h0 : Int) (hh : Hid (findL s.data.toList = h0)) (L : Look C [] h0 n caps G J) (w : World) (hs : s.size ≤ 140737488355328) (hw : Below W.heap.size W w) (hG : ∀ k, G k → W.heap.size ≤ k ∧ k < w.heap.size) (hJ : J 0 w) :
    Calls Tryz.prog 13 #[.string s, .slice none 0 0, .func (Fn.func n) #[] caps] w (PlayP C [] h0 G J w) := by
  have HA := hid (fun w1 h => alive_any C hd w1 h)
  have HN := hid (fun w1 h => C.new s w1 hs h)
  go_enter Tryz.func13, Tryz.ntmps13
  go_wp2_with fail
  refine (HA.out _ hw).mono ?_
  rintro r w1 ⟨rfl, hb1⟩
  have hw1 := hw.trans (hb1.mono hw.size)
  go_wp2_with fail
  refine (HN.out _ hw1).mono ?_
  rintro r w2 ⟨a, F, rfl, hD, hF, hb2⟩
  rw [hh.out] at hD
  have hw2 := hw1.trans (hb2.mono hw1.size)
  have hb12 := hb1.trans (hb2.mono hb1.size)
  go_wp2_with fail
  go_loop [9] (fun i => i = .int .i64 0) (fun _ => 0)
  case atStart => rfl
  case round =>
    subst hrel
    go_wp2_with fail
    go_ret2
    exact ⟨a, F, rfl, hD, fun b hb => Nat.le_trans hb1.size (hF b hb), L.keep hJ (fun k hk => hb12.block k (hG k hk).2), Only.of _ hb12, hw2⟩
theorem play_any (C : DetC W best dec) (hd : dec 1 [97] = [97]) (s : ByteArray) (v : Value) (l : List (Int × ByteArray)) (hA : ActsIn W v l) (n : FuncId) (caps : Array Value) (G : Nat → Prop) (J : Nat → World → Prop) (L : Look C l (findL s.data.toList) n caps G J) (w : World) (hs : s.size ≤ 140737488355328) (hw : Below W.heap.size W w) (hG : ∀ k, G k → W.heap.size ≤ k ∧ k < w.heap.size) (hJ : J 0 w) :
    Calls Tryz.prog 13 #[.string s, v, .func (Fn.func n) #[] caps] w (PlayP C l (findL s.data.toList) G J w) := by
  rcases hA with ⟨rfl, rfl⟩ | ⟨lb, lo, cap, rfl, h1, h2, h3⟩
  · exact play_none C hd s n caps G J _ (hid rfl) L w hs hw hG hJ
  · exact play_some C hd s lb lo cap l n caps G J _ (hid rfl) L w hs hw hG hJ h2 h1 h3
set_option maxRecDepth 100000 in
set_option maxHeartbeats 400000 in
theorem quiet_any (a : Addr) (k : Int) (b : ByteArray) (rc re ry : Int) (rf : Bool) (A : Option Addr) (n c : Nat) (w : World) : Calls Tryz.prog 27 #[.pointer (some a), .agg #[.int .i64 k, .string b], .agg #[.int .i64 rc, .int .i64 re, .int .i64 ry, .bool rf, .slice A n c]] w fun e w' => e = .returned (.bool true) ∧ Below w.heap.size w w' := by
  go_enter Tryz.func27, Tryz.ntmps27
  go_wp2_with fail
  go_ret
  exact ⟨rfl, ((Below.refl _ _).alloc (Nat.le_refl _) _).alloc (by simp) _⟩
/-- The look that looks at nothing. -/
theorem look_quiet (C : DetC W best dec) (l : List (Int × ByteArray)) (h0 : Int) : Look C l h0 27 #[] (fun _ => False) (fun _ _ => True) where
  enter := fun args w => by simp [callFunc, Tryz.func27, Tryz.f27]
  keep := fun h _ => h
  look := fun i hi w F a A c B _ _ _ _ _ _ => (quiet_any _ _ _ _ _ _ _ _ _ _ w).mono fun e w' h => ⟨h.1, trivial, Only.of _ h.2⟩
end Go.Proofs.YtgfndlbmolnblaaGreatDoor
