/- 3 texts of this proof in one file: DwA, DwB, DwC. -/
import Derived.Test.YtmdnpgcnbpppfaaGreatDoorQH
import Derived.Test.YtmdnpgcnbpppfaaGreatDoorQS
import Derived.Test.YtmdnpgcnbpppfaaGreatDoorQL
import Derived.Lib.AppendStr
import Derived.Test.YtmdnpgcnbpppfaaGreatDoorScA
import Derived.Test.YtmdnpgcnbpppfaaGreatDoorQP
import Derived.Deep.RegionWith
/- The landed detector: what lies in its block; Bytes, New, fail, settled. -/
namespace Go.Proofs.YtmdnpgcnbpppfaaGreatDoor
open Go.RowKit

/-- Bytes that lie in a row of one's own, or nil. -/
def Bys (w : World) (B : Nat) (v : Value) (l : List UInt8) : Prop := w.ownsRow B 5 1 v l.length (l.map fun b => Value.int .u8 (b.toNat : Int))
theorem Bys.keep {w w' : World} {B : Nat} {v : Value} {l : List UInt8} (h : Bys w B v l) (hk : ∀ k, v.ownBlock = some k → w'.heap[k]? = w.heap[k]?) : Bys w' B v l := by
  refine ⟨h.1, ?_⟩
  rcases h.2 with h2 | ⟨g, cap, cur, rfl, hB, hg, hr⟩
  · exact .inl h2
  · exact .inr ⟨g, cap, cur, rfl, hB, (hk g rfl).trans hg, hr⟩
theorem Bys.lt {w : World} {B : Nat} {v : Value} {l : List UInt8} (h : Bys w B v l) : ∀ k, v.ownBlock = some k → B ≤ k ∧ k < w.heap.size := World.ownsRow.lt h
/-- A detector lies in a block. -/
structure HasDt (w : World) (b : Nat) (h : Int) (v : Value) (n : Nat) (e : Bool) : Prop where
  c0 : w.cell? ⟨b, 0, none⟩ = some (.int .i64 h)
  c1 : w.cell? ⟨b, 1, none⟩ = some v
  c2 : w.cell? ⟨b, 2, none⟩ = some (.int .i64 n)
  c3 : w.cell? ⟨b, 3, none⟩ = some (.bool e)
  fz : ∀ i, w.frozen? ⟨b, i, none⟩ = false
theorem HasDt.lt {w : World} {b : Nat} {h : Int} {v : Value} {n : Nat} {e : Bool} (q : HasDt w b h v n e) : b < w.heap.size := World.block_lt_of_cell? w _ q.c0
theorem HasDt.keep {w w' : World} {b : Nat} {h : Int} {v : Value} {n : Nat} {e : Bool} (q : HasDt w b h v n e) (hk : w'.heap[b]? = w.heap[b]?) : HasDt w' b h v n e :=
  have k : ∀ i, w'.cell? ⟨b, i, none⟩ = w.cell? ⟨b, i, none⟩ := fun i => World.cell?_of_block (a := ⟨b, i, none⟩) hk
  ⟨(k 0).trans q.c0, (k 1).trans q.c1, (k 2).trans q.c2, (k 3).trans q.c3, fun i => (World.frozen?_of_block (a := ⟨b, i, none⟩) hk).trans (q.fz i)⟩
theorem HasDt.below {w w' : World} {b : Nat} {h : Int} {v : Value} {n : Nat} {e : Bool} (q : HasDt w b h v n e) (hb : Below w.heap.size w w') : HasDt w' b h v n e := q.keep (hb.block b q.lt)
theorem HasDt.set1 {w : World} {b : Nat} {h : Int} {v : Value} {n : Nat} {e : Bool} (q : HasDt w b h v n e) (v' : Value) : HasDt (w.setCell ⟨b, 1, none⟩ v') b h v' n e := by
  obtain ⟨c0, c1, c2, c3, fz⟩ := q
  refine ⟨?_, ?_, ?_, ?_, fun i => ?_⟩
  all_goals first | (simp [World.cell?_setCell_other, World.cell?_setCell_same, *]; done) | (simp only [World.frozen?_setCell]; exact fz i)
theorem HasDt.set2 {w : World} {b : Nat} {h : Int} {v : Value} {n : Nat} {e : Bool} (q : HasDt w b h v n e) (m : Nat) : HasDt (w.setCell ⟨b, 2, none⟩ (.int .i64 m)) b h v m e := by
  obtain ⟨c0, c1, c2, c3, fz⟩ := q
  refine ⟨?_, ?_, ?_, ?_, fun i => ?_⟩
  all_goals first | (simp [World.cell?_setCell_other, World.cell?_setCell_same, *]; done) | (simp only [World.frozen?_setCell]; exact fz i)
theorem HasDt.set3 {w : World} {b : Nat} {h : Int} {v : Value} {n : Nat} {e : Bool} (q : HasDt w b h v n e) (f : Bool) : HasDt (w.setCell ⟨b, 3, none⟩ (.bool f)) b h v n f := by
  obtain ⟨c0, c1, c2, c3, fz⟩ := q
  refine ⟨?_, ?_, ?_, ?_, fun i => ?_⟩
  all_goals first | (simp [World.cell?_setCell_other, World.cell?_setCell_same, *]; done) | (simp only [World.frozen?_setCell]; exact fz i)
/-- The blocks of a detector: its own, and its bytes'. -/
def FD (b : Nat) (v : Value) (k : Nat) : Prop := k = b ∨ v.ownBlock = some k
/-- A detector with a plain state lies at an address. -/
def IsDet (W w : World) (F : Nat → Prop) (a : Addr) (d : Dt) : Prop :=
  ∃ b v, a = ⟨b, 0, none⟩ ∧ F = FD b v ∧ W.heap.size ≤ b ∧ v.ownBlock ≠ some b ∧ HasDt w b d.hint v d.acts d.ended ∧ Bys w W.heap.size v d.l ∧ d.l.length ≤ 4000 ∧ d.acts ≤ 300
theorem IsDet.keep {W w w' : World} {F : Nat → Prop} {a : Addr} {d : Dt} (h : IsDet W w F a d) (hk : ∀ k, F k → w'.heap[k]? = w.heap[k]?) : IsDet W w' F a d := by
  obtain ⟨b, v, rfl, rfl, hb, hn, hd, hs, hl⟩ := h
  exact ⟨b, v, rfl, rfl, hb, hn, hd.keep (hk b (Or.inl rfl)), hs.keep (fun k e => hk k (Or.inr e)), hl⟩
theorem IsDet.lt {W w : World} {F : Nat → Prop} {a : Addr} {d : Dt} (h : IsDet W w F a d) (k : Nat) (hk : F k) : W.heap.size ≤ k ∧ k < w.heap.size := by
  obtain ⟨b, v, rfl, rfl, hb, hn, hd, hs, hl⟩ := h
  rcases hk with rfl | hk
  · exact ⟨hb, hd.lt⟩
  · exact hs.lt k hk

theorem byt_parts : (Tryz.prog.info? 5).map (fun i => (i.zero, i.size, i.bytes)) = some (some (.int .u8 0), 1, 1) := by kernel_rfl
/-- string(b) of bytes of one's own. -/
theorem conv_bys {w : World} {B : Nat} {v : Value} {l : List UInt8} (h : Bys w B v l) : (convert 57 9 v).run Tryz.prog w = .ok (.string ⟨l.toArray⟩) w := by
  rcases h.2 with ⟨rfl, h0⟩ | ⟨g, cap, cur, rfl, _⟩
  · obtain rfl : l = [] := List.eq_nil_of_length_eq_zero h0
    rw [run_convert_bytes_string w _ _ 5 none 0 0 Tryz.underlying57 Tryz.underlying5 Tryz.underlying9]
    simp [Conv.bytesToString]
    rfl
  · exact run_convert_bytes_back w _ _ 5 ⟨g, 0, none⟩ cap l Tryz.underlying57 Tryz.underlying5 Tryz.underlying9 (fun j hj => World.ownsRow.cells h (g := g) rfl j _ (by simp [List.getElem?_eq_getElem hj]))
theorem Bys.shape {w : World} {B : Nat} {v : Value} {l : List UInt8} (h : Bys w B v l) : ∃ A c, v = .slice A l.length c := by
  rcases h.2 with ⟨rfl, h0⟩ | ⟨g, cap, cur, rfl, _⟩
  · exact ⟨none, 0, by rw [h0]⟩
  · exact ⟨_, _, rfl⟩
set_option maxHeartbeats 400000 in
theorem bytes_any {W w : World} {F : Nat → Prop} {a : Addr} {d : Dt} (h : IsDet W w F a d) : Calls Tryz.prog 15 #[.pointer (some a)] w fun e w' => e = .returned (.string ⟨d.l.toArray⟩) ∧ w' = w := by
  obtain ⟨b, v, rfl, rfl, hb, hn, hd, hs, hl⟩ := h
  have hc := conv_bys hs
  obtain ⟨c0, c1, c2, c3, fz⟩ := hd
  obtain ⟨A, c, rfl⟩ := hs.shape
  clear hs hn
  go_enter Tryz.func15, Tryz.ntmps15
  go_wp2_with fail
  go_ret
  exact ⟨rfl, rfl⟩
set_option maxHeartbeats 400000 in
theorem bytes_nil (w : World) : Calls Tryz.prog 15 #[.pointer none] w fun e w' => e = .returned (.string ⟨#[]⟩) ∧ w' = w := by
  go_enter Tryz.func15, Tryz.ntmps15
  go_wp2_with fail
  go_ret
  exact ⟨rfl, rfl⟩
set_option maxHeartbeats 400000 in
theorem fail_any (c : Int) (w : World) : Calls Tryz.prog 28 #[.int .i64 c] w fun e w' => e = .returned (.agg #[.int .i64 c, .int .i64 0, .int .i64 0, .bool false, .slice none 0 0]) ∧ Below w.heap.size w w' := by
  go_enter Tryz.func28, Tryz.ntmps28
  go_wp2_with fail
  exact bodyPost_ret (ret_R rfl rfl (Has5.new w c 0 0 false none 0 0 _)) rfl ⟨rfl, (Below.refl _ _).alloc (Nat.le_refl _) _⟩
set_option maxHeartbeats 400000 in
theorem settled_any (by_ : Int) (s : ByteArray) (w : World) (hl : Laid w) : Calls Tryz.prog 47 #[.int .i64 by_, .string s] w fun e w' => e = .returned (.bool (by_ == 1 || ((by_ == 2 || by_ == 3) && !mayL s.data.toList))) ∧ w' = w := by
  have H := hid (mayMark_any s w hl)
  obtain ⟨m, hm⟩ : ∃ m, mayL s.data.toList = m := ⟨_, rfl⟩
  rw [hm] at H ⊢
  by_cases h1 : by_ = 1
  · subst h1
    go_enter Tryz.func47, Tryz.ntmps47
    go_wp2_with fail
    go_ret
    exact ⟨rfl, rfl⟩
  · have e1 : (by_ == 1) = false := by simpa using h1
    rw [e1]
    by_cases h2 : by_ = 2
    · subst h2
      go_enter Tryz.func47, Tryz.ntmps47
      go_wp2_with fail
      refine H.out.mono ?_
      rintro r w1 ⟨rfl, rfl⟩
      go_wp2_with fail
      go_ret
      exact ⟨rfl, rfl⟩
    · have e2 : (by_ == 2) = false := by simpa using h2
      rw [e2]
      by_cases h3 : by_ = 3
      · subst h3
        go_enter Tryz.func47, Tryz.ntmps47
        go_wp2_with fail
        refine H.out.mono ?_
        rintro r w1 ⟨rfl, rfl⟩
        go_wp2_with fail
        go_ret
        exact ⟨rfl, rfl⟩
      · have e3 : (by_ == 3) = false := by simpa using h3
        rw [e3]
        go_enter Tryz.func47, Tryz.ntmps47
        go_wp2_with fail
        go_ret
        exact ⟨rfl, rfl⟩
set_option maxHeartbeats 400000 in
theorem new_det (W : World) (s : ByteArray) (w : World) (hs : s.size ≤ 140737488355328) (hw : Below W.heap.size W w) : Calls Tryz.prog 16 #[.string s] w fun e w' =>
    ∃ a F, e = .returned (.pointer (some a)) ∧ IsDet W w' F a ⟨findL s.data.toList, [], false, 0⟩ ∧ (∀ k, F k → w.heap.size ≤ k) ∧ Below w.heap.size w w' := by
  have H := hid (fun w1 => find_any s w1 (by omega))
  go_enter Tryz.func16, Tryz.ntmps16
  go_wp2_with fail
  refine (H.out _).mono ?_
  rintro r w1 ⟨rfl, hb⟩
  go_wp2_with fail
  go_ret
  have hN : HasDt (w1.alloc (.cells #[.int .i64 (findL s.data.toList), .slice none 0 0, .int .i64 0, .bool false] 59)) w1.heap.size (findL s.data.toList) (.slice none 0 0) 0 false :=
    ⟨by simp [go_sem], by simp [go_sem], by simp [go_sem], by simp [go_sem], fun i => by simp [go_sem]⟩
  have hsz := hw.size
  have hsz2 := hb.size
  exact ⟨⟨w1.heap.size, 0, none⟩, FD w1.heap.size (.slice none 0 0), rfl, ⟨_, _, rfl, rfl, by omega, by simp [Value.ownBlock], hN, World.ownsRow_nil _ _ _ _, by simp, by simp⟩, fun k hk => by rcases hk with rfl | hk; exact hsz2; simp [Value.ownBlock] at hk, hb.alloc hsz2 _⟩
end Go.Proofs.YtmdnpgcnbpppfaaGreatDoor

/- The landed Judge and Tell. -/
namespace Go.Proofs.YtmdnpgcnbpppfaaGreatDoor
open Go.RowKit

/-- What bytes are decoded to. -/
def decA (e : Int) (l : List UInt8) : List Int :=
  if e = 1 then mU.dec mU.init l else if e = 2 then mSh.dec mSh.init l else if e = 3 then mT.dec mT.init l else if e = 4 then mLat.dec mLat.init l else if e = 5 then mLo.dec mLo.init l else mHi.dec mHi.init l
theorem dec_of (e : Int) (h1 : 1 ≤ e) (h2 : e ≤ 6) : ∃ M, Full e M ∧ (∀ l, decA e l = M.dec M.init l) ∧ (∀ l, (decA e l).length ≤ l.length) ∧ ∀ l, aEnds e (aRun e 0 l) = !(hasBad (decA e l)) := by
  obtain h | h | h | h | h | h : e = 1 ∨ e = 2 ∨ e = 3 ∨ e = 4 ∨ e = 5 ∨ e = 6 := by omega
  all_goals subst h
  · exact ⟨mU, fullU, fun _ => rfl, fun l => (fewU.dec conU l).1, autoU.all⟩
  · exact ⟨mSh, fullSh, fun _ => rfl, fun l => (fewSh.dec conSh l).1, autoSh.all⟩
  · exact ⟨mT, fullT, fun _ => rfl, fun l => (fewT.dec conT l).1, autoT.all⟩
  · exact ⟨mLat, fullLat, fun _ => rfl, fun l => (fewLat.dec conLat l).1, autoLat.all⟩
  · exact ⟨mLo, fullLo, fun _ => rfl, fun l => (fewLo.dec conLo l).1, autoLo.all⟩
  · exact ⟨mHi, fullHi, fun _ => rfl, fun l => (fewHi.dec conHi l).1, autoHi.all⟩
theorem whole_dec (e : Int) (h1 : 1 ≤ e) (h2 : e ≤ 6) (s : ByteArray) (w : World) (hs : s.size ≤ 4000) : Calls Tryz.prog 26 #[.int .i64 e, .string s] w (POE w (decA e s.data.toList) 0) := by
  obtain ⟨M, F, hd, _⟩ := dec_of e h1 h2
  rw [hd]
  exact whole_any F.con F.goods s hs w
theorem bestL_in (l : List UInt8) : 0 ≤ bestL l ∧ bestL l ≤ 6 := by
  unfold bestL
  rw [bestE_K]
  exact bestK_in _ _ 6
set_option maxRecDepth 100000 in
set_option maxHeartbeats 1000000 in
theorem judge_det (h : Int) (s : ByteArray) (w : World) (hs : s.size ≤ 4000) (hl : Laid w) :
    Calls Tryz.prog 8 #[.int .i64 h, .string s] w fun e w' => e = .returned (.agg #[.int .i64 (judgeP bestL h s.data.toList).1, .int .i64 (judgeP bestL h s.data.toList).2, .bool false]) ∧ Below w.heap.size w w' := by
  have hb0 : Below w.heap.size w (w.alloc (.cells #[.int .i64 0, .int .i64 0, .bool false] 24)) := (Below.refl _ _).alloc (Nat.le_refl _) _
  have hv0 := Has3.new w ⟨0, 0, false⟩ 24
  simp only at hv0
  have HM := hid (mark_any s _ (hl.below hb0))
  have HL := hid (fun w1 => label_any s w1 (by omega))
  have HB := hid (fun w1 => whole_sc s w1 hs)
  have hmi := markL_in s.data.toList
  have hli := labelL_in s.data.toList
  have hbi := bestL_in s.data.toList
  unfold judgeP
  by_cases h1 : 0 < (markL s.data.toList).1
  · rw [if_pos h1]
    clear hmi
    generalize (markL s.data.toList).1 = m at *
    generalize (markL s.data.toList).2 = n at *
    have e1 : (m == 0) = false := by simp; omega
    go_enter Tryz.func8, Tryz.ntmps8
    go_wp2_with fail
    refine (HM.out).mono ?_
    rintro r w1 ⟨rfl, rfl⟩
    go_wp2_with fail
    exact bodyPost_ret (ret_V rfl rfl (Has3.new w ⟨m, 1, false⟩ _)) rfl ⟨rfl, (Below.refl _ _).alloc (Nat.le_refl _) _⟩
  · rw [if_neg h1]
    have e0 : (markL s.data.toList).1 = 0 := by omega
    rw [e0] at HM
    clear hmi
    generalize (markL s.data.toList).2 = n at *
    by_cases h2 : 1 ≤ h ∧ h ≤ 6
    · rw [if_pos h2]
      obtain ⟨h3, h4⟩ := h2
      go_enter Tryz.func8, Tryz.ntmps8
      go_wp2_with fail
      refine (HM.out).mono ?_
      rintro r w1 ⟨rfl, rfl⟩
      go_wp2_with fail
      exact bodyPost_ret (ret_V rfl rfl (Has3.new w ⟨h, 2, false⟩ _)) rfl ⟨rfl, (Below.refl _ _).alloc (Nat.le_refl _) _⟩
    · rw [if_neg h2]
      have h5 : decide (1 ≤ h) = false ∨ (decide (1 ≤ h) = true ∧ decide (h ≤ 6) = false) := by
        by_cases h6 : 1 ≤ h
        · exact Or.inr ⟨decide_eq_true h6, decide_eq_false (fun x => h2 ⟨h6, x⟩)⟩
        · exact Or.inl (decide_eq_false h6)
      clear h2
      by_cases h6 : 0 < (labelL s.data.toList).1
      · rw [if_pos h6]
        clear hli
        generalize (labelL s.data.toList).1 = p at *
        generalize (labelL s.data.toList).2 = q at *
        have e2 : (p == 0) = false := by simp; omega
        rcases h5 with h5 | ⟨h5, h7⟩
        all_goals
          go_enter Tryz.func8, Tryz.ntmps8
          go_wp2_with fail
          refine (HM.out).mono ?_
          rintro r w1 ⟨rfl, rfl⟩
          go_wp2_with fail
          refine (HL.out _).mono ?_
          rintro r w2 ⟨rfl, hb2⟩
          have hv2 := hv0.below hb2
          have hb02 := one_box hb2
          have k1 := hv2
          obtain ⟨v0, v1, v2, vz⟩ := k1
          go_wp2_with fail
          exact bodyPost_ret (ret_V rfl rfl (hv2.put ⟨p, 3, false⟩)) rfl ⟨rfl, put3 hb02 (Nat.le_refl _) _ _ _⟩
      · rw [if_neg h6]
        have e2 : (labelL s.data.toList).1 = 0 := by omega
        rw [e2] at HL
        clear hli
        generalize (labelL s.data.toList).2 = q at *
        by_cases h8 : 0 < bestL s.data.toList
        · rw [if_pos h8]
          clear hbi
          generalize bestL s.data.toList = t at *
          have e3 : (t == 0) = false := by simp; omega
          rcases h5 with h5 | ⟨h5, h7⟩
          all_goals
            go_enter Tryz.func8, Tryz.ntmps8
            go_wp2_with fail
            refine (HM.out).mono ?_
            rintro r w1 ⟨rfl, rfl⟩
            go_wp2_with fail
            refine (HL.out _).mono ?_
            rintro r w2 ⟨rfl, hb2⟩
            go_wp2_with fail
            refine (HB.out _).mono ?_
            rintro r w3 ⟨rfl, hb3⟩
            have hv3 := (hv0.below hb2).below hb3
            have hb03 := (one_box hb2).trans (hb3.mono (one_box hb2).size)
            have k1 := hv3
            obtain ⟨v0, v1, v2, vz⟩ := k1
            go_wp2_with fail
            exact bodyPost_ret (ret_V rfl rfl (hv3.put ⟨t, 4, false⟩)) rfl ⟨rfl, put3 hb03 (Nat.le_refl _) _ _ _⟩
        · rw [if_neg h8]
          have e3 : bestL s.data.toList = 0 := by omega
          rw [e3] at HB
          clear hbi
          rcases h5 with h5 | ⟨h5, h7⟩
          all_goals
            go_enter Tryz.func8, Tryz.ntmps8
            go_wp2_with fail
            refine (HM.out).mono ?_
            rintro r w1 ⟨rfl, rfl⟩
            go_wp2_with fail
            refine (HL.out _).mono ?_
            rintro r w2 ⟨rfl, hb2⟩
            go_wp2_with fail
            refine (HB.out _).mono ?_
            rintro r w3 ⟨rfl, hb3⟩
            have hv3 := (hv0.below hb2).below hb3
            have hb03 := (one_box hb2).trans (hb3.mono (one_box hb2).size)
            have k1 := hv3
            obtain ⟨v0, v1, v2, vz⟩ := k1
            go_wp2_with fail
            exact bodyPost_ret (ret_V rfl rfl (hv3.put ⟨4, 0, false⟩)) rfl ⟨rfl, put3 hb03 (Nat.le_refl _) _ _ _⟩
set_option maxRecDepth 100000 in
set_option maxHeartbeats 1000000 in
theorem tell_det (x : Int) (s : ByteArray) (w : World) (h1 : 1 ≤ x) (h2 : x ≤ 6) (hs : s.size ≤ 4000) (hl : Laid w) :
    Calls Tryz.prog 11 #[.int .i64 x, .string s] w fun e w' => (∃ A c, e = .returned (.slice A (tellP decA x s.data.toList).length c) ∧ Out w' w.heap.size (.slice A (tellP decA x s.data.toList).length c) (tellP decA x s.data.toList)) ∧ Below w.heap.size w w' := by
  have HM := hid (mark_any s w hl)
  have hmi := markL_in s.data.toList
  unfold tellP
  by_cases hm : 0 < (markL s.data.toList).1 ∧ (markL s.data.toList).1 = x
  · rw [if_pos hm]
    have hn : 0 ≤ (markL s.data.toList).2 ∧ (markL s.data.toList).2 ≤ (s.size : Int) := by
      have hsz : s.size = s.data.toList.length := Array.length_toList.symm
      have := markL_le s.data.toList
      omega
    have hcut := ext_drop s (markL s.data.toList).2.toNat
    have hcs : (s.extract (markL s.data.toList).2.toNat s.size).size ≤ 4000 := by simp; omega
    have HW := fun w1 => whole_dec x h1 h2 (s.extract (markL s.data.toList).2.toNat s.size) w1 hcs
    simp only [hcut] at HW
    generalize decA x (s.data.toList.drop (markL s.data.toList).2.toNat) = D at *
    obtain ⟨m1, m2⟩ := hm
    obtain ⟨n1, n2⟩ := hn
    clear hmi hcut hcs
    generalize (markL s.data.toList).1 = m at *
    generalize (markL s.data.toList).2 = n at *
    have m3 : (m == x) = true := by simpa using m2
    replace HW := hid HW
    subst m2
    go_enter Tryz.func11, Tryz.ntmps11
    go_wp2_with fail
    refine (HM.out).mono ?_
    rintro r w1 ⟨rfl, rfl⟩
    go_wp2_with fail
    refine (HW.out _).mono ?_
    rintro r w2 ⟨v, rfl, hO, hb2⟩
    obtain ⟨A, c, rfl⟩ := hO.shape
    go_wp2_with fail
    go_ret
    exact ⟨⟨A, c, rfl, hO⟩, hb2⟩
  · rw [if_neg hm]
    have HW := hid (fun w1 => whole_dec x h1 h2 s w1 hs)
    generalize decA x s.data.toList = D at *
    have hq : ((markL s.data.toList).1 == x) = false := by
      simp only [beq_eq_false_iff_ne, ne_eq]
      intro y; exact hm ⟨by omega, y⟩
    clear hm hmi
    generalize (markL s.data.toList).1 = m at *
    generalize (markL s.data.toList).2 = n at *
    go_enter Tryz.func11, Tryz.ntmps11
    go_wp2_with fail
    refine (HM.out).mono ?_
    rintro r w1 ⟨rfl, rfl⟩
    go_wp2_with fail
    refine (HW.out _).mono ?_
    rintro r w2 ⟨v, rfl, hO, hb2⟩
    obtain ⟨A, c, rfl⟩ := hO.shape
    go_wp2_with fail
    go_ret
    exact ⟨⟨A, c, rfl, hO⟩, hb2⟩
end Go.Proofs.YtmdnpgcnbpppfaaGreatDoor

/- The landed detector's feed, verdict and finish. -/
namespace Go.Proofs.YtmdnpgcnbpppfaaGreatDoor
open Go.RowKit

theorem Bys.base {w : World} {B B' : Nat} {v : Value} {l : List UInt8} (h : Bys w B v l) (hb : B' ≤ B) : Bys w B' v l := by
  unfold Bys World.ownsRow at *
  obtain ⟨h1, h2⟩ := h
  refine ⟨h1, ?_⟩
  rcases h2 with h2 | ⟨g, cap, cur, e1, e2, e3⟩
  · exact .inl h2
  · exact .inr ⟨g, cap, cur, e1, Nat.le_trans hb e2, e3⟩
theorem app_law {w : World} {B : Nat} {v : Value} {l : List UInt8} {b : ByteArray} (ty : TypeId) (h : Bys w B v l) (hB : B ≤ w.heap.size) (hn : l.length + b.size ≤ 100000) :
    ∃ v' w', (Builtin.append_ #[57, 9] ty #[v, .string b]).run Tryz.prog w = .ok v' w' ∧ Bys w' B v' (l ++ b.data.toList) ∧ w.grownBy w' v.ownBlock := by
  obtain ⟨i, hi, hz, hs, hby⟩ := info_parts byt_parts
  obtain ⟨v', w', hr, ho, hg, _⟩ := Lib.run_append_own_string (P := Tryz.prog) w B 57 9 ty 5 i Tryz.underlying57 Tryz.underlying9 hi hz hs hby v l.length _ h b (by simp only [maxLen]; omega) (by omega) hB
  refine ⟨v', w', hr, ?_, hg⟩
  have e : b.data.toList.length = b.size := Array.length_toList
  unfold Bys
  rw [List.length_append, e, List.map_append]
  exact ho
/-- append(b, s...) of bytes of one's own: they lie where they lay, or in a new block. -/
theorem run_appB {w : World} {B : Nat} {v : Value} {l : List UInt8} {b : ByteArray} (ty : TypeId) (h : Bys w B v l) (hB : B ≤ w.heap.size) (hn : l.length + b.size ≤ 100000) :
    ∃ v' w', (Builtin.append_ #[57, 9] ty #[v, .string b]).run Tryz.prog w = .ok v' w' ∧ Bys w' B v' (l ++ b.data.toList) ∧ w.grownBy w' v.ownBlock ∧ ∀ k, v'.ownBlock = some k → v.ownBlock = some k ∨ w.heap.size ≤ k := by
  rcases h.2 with ⟨rfl, h0⟩ | ⟨g, cap, cur, rfl, hbg, hg, hnc, hcm, hcs, htake⟩
  · obtain rfl : l = [] := List.eq_nil_of_length_eq_zero h0
    obtain ⟨v', w', hr, ho, hg⟩ := app_law (w := w) (B := w.heap.size) (v := .slice none 0 0) (l := []) (b := b) ty (World.ownsRow_nil _ _ _ _) (Nat.le_refl _) hn
    exact ⟨v', w', hr, ho.base hB, hg, fun k hk => Or.inr (ho.lt k hk).1⟩
  · obtain ⟨v', w', hr, ho, hgr⟩ := app_law ty h hB hn
    refine ⟨v', w', hr, ho, hgr, fun k hk => ?_⟩
    obtain ⟨i, hi, hz, hs, hby⟩ := info_parts byt_parts
    by_cases hroom : l.length + b.size ≤ cap
    · have hfit : l.length + b.size ≤ cur.size := by rw [hcs]; omega
      have hr2 := Lib.run_append_room_string (P := Tryz.prog) w 57 9 ty 5 i Tryz.underlying57 Tryz.underlying9 hi hs g l.length cap cur hg b hroom hfit
      rw [hr] at hr2
      injection hr2 with e1 _
      subst e1
      exact Or.inl hk
    · have hr2 := Lib.run_append_grow_string (P := Tryz.prog) w 57 9 ty 5 i _ Tryz.underlying57 Tryz.underlying9 hi hz ⟨g, 0, none⟩ l.length cap _ (by rw [hs]; simp) (World.ownsRow.cells h (g := g) rfl) b (by omega) (by omega) (by rw [hby]; exact growslice_fits (by omega) (by omega))
      rw [hr] at hr2
      injection hr2 with e1 _
      subst e1
      simp only [Value.ownBlock, Option.some.injEq] at hk
      exact Or.inr (by omega)
theorem list_appB {ops : Array Oper} {rest : List Oper} {o : Oper} {a : Act} {w : World} {Q : Exit → Act → World → Prop} (hgd : o.guard = none) (s x : Operand)
    (ho : o.op = .call { callee := .builtin .append, args := #[s, x], argTypes := #[57, 9] }) {B : Nat} {v : Value} {l : List UInt8} {b : ByteArray}
    (hs : a.eval s = v) (hx : a.eval x = .string b) (h : Bys w B v l) (hB : B ≤ w.heap.size) (hn : l.length + b.size ≤ 100000)
    (hk : ∀ v' w', Bys w' B v' (l ++ b.data.toList) → w.grownBy w' v.ownBlock → (∀ k, v'.ownBlock = some k → v.ownBlock = some k ∨ w.heap.size ≤ k) → wpList Tryz.prog ops Q rest (a.put o.dst v') w') : wpList Tryz.prog ops Q (o :: rest) a w :=
  wpList_plain hgd fun _ hK => by
    obtain ⟨v', w', hr, h3, h4, h5⟩ := run_appB o.type h hB hn
    unfold Oper.wp execOp
    simp only [ho, resolve, invoke, builtin, Sem.run_bind, Sem.run_pure, Result.andThen_ok, List.map_toArray, List.map_cons, List.map_nil, hs, hx, hr]
    exact hK _ _ (hk v' w' h3 h4 h5)
theorem Laid.drew {w : World} (h : Laid w) : Laid w.drew := ⟨h.m0, h.m1, h.m2, h.e0, h.e1, h.e2, h.big⟩
/-- What a call on a detector leaves. -/
def DDo (W w : World) (F : Nat → Prop) (a : Addr) (r : Rp) (d : Dt) (e : Ending) (w' : World) : Prop :=
  PRp w r e w' ∧ ∃ F', IsDet W w' F' a d ∧ (∀ k, F' k → F k ∨ w.heap.size ≤ k) ∧ Only F w w'
theorem DDo.of {W w w' : World} {F : Nat → Prop} {a : Addr} {d : Dt} {r : Rp} {A : Option Addr} {c : Nat} (h : IsDet W w F a d) (hO : Out w' w.heap.size (.slice A r.out.length c) r.out) (hb : Below w.heap.size w w') : DDo W w F a r d (.returned (rpV r A c)) w' :=
  ⟨⟨A, c, rfl, hO⟩, F, h.keep (fun k hk => hb.block k (h.lt k hk).2), fun _ hk => Or.inl hk, Only.of F hb⟩
theorem frozen_new (w : World) (c : Array Value) (t : TypeId) (i : Nat) : (w.alloc (.cells c t)).frozen? ⟨w.heap.size, i, none⟩ = false := by simp [go_sem]
theorem frozen_below {w w' : World} {b : Nat} (hb : Below w.heap.size w w') (hl : b < w.heap.size) (h : ∀ i, w.frozen? ⟨b, i, none⟩ = false) : ∀ i, w'.frozen? ⟨b, i, none⟩ = false := fun i => (World.frozen?_of_block (a := ⟨b, i, none⟩) (hb.block b hl)).trans (h i)
theorem put5 {B b : Nat} {a w : World} (h : Below B a w) (hB : B ≤ b) (u0 u1 u2 u3 u4 : Value) : Below B a (((((w.setCell ⟨b, 0, none⟩ u0).setCell ⟨b, 1, none⟩ u1).setCell ⟨b, 2, none⟩ u2).setCell ⟨b, 3, none⟩ u3).setCell ⟨b, 4, none⟩ u4) :=
  ((((h.setCell (p := ⟨b, 0, none⟩) hB u0).setCell (p := ⟨b, 1, none⟩) hB u1).setCell (p := ⟨b, 2, none⟩) hB u2).setCell (p := ⟨b, 3, none⟩) hB u3).setCell (p := ⟨b, 4, none⟩) hB u4
set_option maxRecDepth 100000 in
set_option maxHeartbeats 1000000 in
theorem feed_ended {W w : World} {F : Nat → Prop} {a : Addr} {d : Dt} (b : ByteArray) (h : IsDet W w F a d) (he : d.ended = true) :
    Calls Tryz.prog 29 #[.pointer (some a), .string b] w (DDo W w F a (.err 3) d) := by
  have HF := hid (fun w1 => fail_any 3 w1)
  have h' := h
  obtain ⟨g, v, rfl, rfl, hb, hn, ⟨c0, c1, c2, c3, fz⟩, hs, hl, ha⟩ := h'
  have hlt : g < w.heap.size := World.block_lt_of_cell? w _ c0
  rw [he] at c3
  have hR := Has5.new w 0 0 0 false none 0 0 36
  have hz := frozen_new w #[.int .i64 0, .int .i64 0, .int .i64 0, .bool false, .slice none 0 0] 36
  go_enter Tryz.func29, Tryz.ntmps29
  go_wp2_with fail
  refine (HF.out _).mono ?_
  rintro r w1 ⟨rfl, hb1⟩
  have hR1 := hR.below hb1
  have hz1 := frozen_below hb1 (by simp) hz
  have k := hR1
  obtain ⟨r0, r1, r2, r3, r4⟩ := k
  go_wp2_with fail
  exact bodyPost_ret (ret_R rfl rfl (hR1.put5 3 0 0 false none 0 0)) rfl (DDo.of (r := .err 3) h (Out.nil _ _) (put5 (one_box hb1) (Nat.le_refl _) _ _ _ _ _))
set_option maxRecDepth 100000 in
set_option maxHeartbeats 1000000 in
theorem feed_long {W w : World} {F : Nat → Prop} {a : Addr} {d : Dt} (b : ByteArray) (h : IsDet W w F a d) (he : d.ended = false) (hlong : 4000 < d.l.length + b.size) :
    Calls Tryz.prog 29 #[.pointer (some a), .string b] w (DDo W w F a (.err 4) d) := by
  have HF := hid (fun w1 => fail_any 4 w1)
  have h' := h
  obtain ⟨g, v, rfl, rfl, hb, hn, ⟨c0, c1, c2, c3, fz⟩, hs, hl, ha⟩ := h'
  have hlt : g < w.heap.size := World.block_lt_of_cell? w _ c0
  rw [he] at c3
  obtain ⟨A, c, rfl⟩ := hs.shape
  have hx : (4000 : Int) - (d.l.length : Int) < (b.size : Int) := by omega
  have hR := Has5.new w 0 0 0 false none 0 0 36
  have hz := frozen_new w #[.int .i64 0, .int .i64 0, .int .i64 0, .bool false, .slice none 0 0] 36
  clear hs
  go_enter Tryz.func29, Tryz.ntmps29
  go_wp2_with fail
  refine (HF.out _).mono ?_
  rintro r w1 ⟨rfl, hb1⟩
  have hR1 := hR.below hb1
  have hz1 := frozen_below hb1 (by simp) hz
  have k := hR1
  obtain ⟨r0, r1, r2, r3, r4⟩ := k
  go_wp2_with fail
  exact bodyPost_ret (ret_R rfl rfl (hR1.put5 4 0 0 false none 0 0)) rfl (DDo.of (r := .err 4) h (Out.nil _ _) (put5 (one_box hb1) (Nat.le_refl _) _ _ _ _ _))
theorem Only.grown {F : Nat → Prop} {a w w' : World} {row : Option Nat} (h : Only F a w) (hg : w.grownBy w' row) (hr : ∀ k, row = some k → F k ∨ a.heap.size ≤ k) : Only F a w' :=
  ⟨hg.os.trans h.os, hg.tape.trans h.tape, hg.output.trans h.output, Nat.le_trans h.size hg.size, fun k hk hn => by
    rw [hg.block k (Nat.lt_of_lt_of_le hk h.size) (fun e => by rcases hr k e.symm with x | x; exact hn x; omega)]
    exact h.block k hk hn⟩
set_option maxRecDepth 100000 in
set_option maxHeartbeats 1000000 in
theorem feed_take {W w : World} {F : Nat → Prop} {a : Addr} {d : Dt} (b : ByteArray) (h : IsDet W w F a d) (hw : W.heap.size ≤ w.heap.size) (he : d.ended = false) (hlong : d.l.length + b.size ≤ 4000) :
    Calls Tryz.prog 29 #[.pointer (some a), .string b] w (DDo W w F a ⟨0, .zero, []⟩ { d with l := d.l ++ b.data.toList }) := by
  obtain ⟨g, v, rfl, rfl, hb, hn, hD, hs, hl, ha⟩ := h
  have hlt := hD.lt
  rw [he] at hD
  have kD := hD
  obtain ⟨c0, c1, c2, c3, fz⟩ := kD
  obtain ⟨A, c, hv⟩ := hs.shape
  rw [hv] at c1
  have hx : (b.size : Int) ≤ (4000 : Int) - (d.l.length : Int) := by omega
  have hs1 : Bys (w.alloc (.cells #[.int .i64 0, .int .i64 0, .int .i64 0, .bool false, .slice none 0 0] 36)) W.heap.size v d.l := hs.keep (fun k hk => Below.heap_alloc w _ k (hs.lt k hk).2)
  have hR := Has5.new w 0 0 0 false none 0 0 36
  have hz := frozen_new w #[.int .i64 0, .int .i64 0, .int .i64 0, .bool false, .slice none 0 0] 36
  have hD1 : HasDt (w.alloc (.cells #[.int .i64 0, .int .i64 0, .int .i64 0, .bool false, .slice none 0 0] 36)) g d.hint v d.acts false := hD.keep (Below.heap_alloc w _ g hlt)
  have hO : Only (FD g v) w (w.alloc (.cells #[.int .i64 0, .int .i64 0, .int .i64 0, .bool false, .slice none 0 0] 36)) := (Only.refl _ _).alloc _
  have hown := fun k (hk : v.ownBlock = some k) => hs.lt k hk
  go_enter Tryz.func29, Tryz.ntmps29
  have hng : some g ≠ v.ownBlock := fun e => hn e.symm
  have hnr : some w.heap.size ≠ v.ownBlock := fun e => by have := (hown _ e.symm).2; omega
  go_wp2_with (at_builtin; refine list_appB rfl (.tmp 24) (.tmp 25) rfl (v := v) (by rw [hv]; rfl) rfl hs1 (by simp; omega) (by omega) ?_; intro v3 w3 hs3 hg3 hw3; have hD3 := hD1.keep (hg3.block g (by simp; omega) hng); have hR3 := hR.keep (hg3.block w.heap.size (by simp) hnr); have hz3 : ∀ i, w3.frozen? ⟨w.heap.size, i, none⟩ = false := fun i => (World.frozen?_of_block (a := ⟨w.heap.size, i, none⟩) (hg3.block w.heap.size (by simp) hnr)).trans (hz i); have kD := hD3; have kR := hR3; obtain ⟨d0, d1, d2, d3, dz⟩ := kD; obtain ⟨r0, r1, r2, r3, r4⟩ := kR; have hO3 := hO.grown hg3 (fun k e => Or.inl (Or.inr e)); obtain ⟨A3, cc3, hv3⟩ := hs3.shape; subst hv3)
  have hsz3 : w.heap.size + 1 ≤ w3.heap.size := by have := hg3.size; simp at this; exact this
  have hD4 : HasDt (w3.setCell ⟨g, 1, none⟩ (.slice A3 (d.l ++ b.data.toList).length cc3)) g d.hint (.slice A3 (d.l ++ b.data.toList).length cc3) d.acts false := hD3.set1 _
  have hl4 : (d.l ++ b.data.toList).length = d.l.length + b.size := by rw [List.length_append]; rfl
  rw [hl4] at hD4 hs3 hw3
  simp only [World.size_alloc] at hw3
  have hw3' : ∀ k, (Value.slice A3 (d.l.length + b.size) cc3).ownBlock = some k → k ≠ g ∧ k ≠ w.heap.size ∧ (FD g v k ∨ w.heap.size ≤ k) := fun k hk => by
    rcases hw3 k hk with x | x
    · exact ⟨fun e => hn (by rw [x, e]), fun e => hnr (by rw [x, e]), Or.inl (Or.inr x)⟩
    · exact ⟨by omega, by omega, Or.inr (by omega)⟩
  have hR4 := hR3.keep (w' := w3.setCell ⟨g, 1, none⟩ (.slice A3 (d.l.length + b.size) cc3)) (Below.heap_setCell w3 ⟨g, 1, none⟩ _ w.heap.size (show w.heap.size ≠ g by omega))
  refine bodyPost_ret (ret_R rfl rfl (hR4.put5 0 0 0 false none 0 0)) rfl ⟨⟨none, 0, rfl, Out.nil _ _⟩, FD g (.slice A3 (d.l.length + b.size) cc3), ⟨g, _, rfl, rfl, hb, fun e => (hw3' g e).1 rfl, ?_, ?_, by simp only; omega, ha⟩, fun k hk => ?_, ?_⟩
  · rw [he]
    exact hD4.keep (far5 _ _ _ (by omega) _ _ _ _ _)
  · refine Bys.keep (w := w3) (show Bys w3 W.heap.size (.slice A3 (d.l.length + b.size) cc3) (d.l ++ b.data.toList) from hs3) fun k hk => ?_
    have hq := hw3' k hk
    rw [far5 _ _ _ hq.2.1, Below.heap_setCell w3 ⟨g, 1, none⟩ _ k hq.1]
  · rcases hk with rfl | hk
    · exact Or.inl (Or.inl rfl)
    · exact (hw3' k hk).2.2
  · exact (hO3.set (Or.inl rfl) 1 _).own5 (Nat.le_refl _) _ _ _ _ _
set_option maxRecDepth 100000 in
set_option maxHeartbeats 1000000 in
theorem verdict_det {W w : World} {F : Nat → Prop} {a : Addr} {d : Dt} (h : IsDet W w F a d) (hl : Laid w) :
    Calls Tryz.prog 30 #[.pointer (some a)] w fun e w' => e = .returned (.agg #[.int .i64 (d.verdict bestL).enc, .int .i64 (d.verdict bestL).why, .bool (d.verdict bestL).fin]) ∧ Below w.heap.size w w' := by
  have hb0 : Below w.heap.size w (w.alloc (.cells #[.int .i64 0, .int .i64 0, .bool false] 24)) := (Below.refl _ _).alloc (Nat.le_refl _) _
  have hv0 := Has3.new w ⟨0, 0, false⟩ 24
  simp only at hv0
  have h1 : IsDet W (w.alloc (.cells #[.int .i64 0, .int .i64 0, .bool false] 24)) F a d := h.keep (fun k hk => hb0.block k (h.lt k hk).2)
  have HB := hid (bytes_any h1)
  have hl1 := hl.below hb0
  have hlen : d.l.length ≤ 4000 := by obtain ⟨_, _, _, _, _, _, _, _, q, _⟩ := h; exact q
  have HJ := fun w1 hw1 => judge_det d.hint ⟨d.l.toArray⟩ w1 (by rw [Lib.size_mk]; exact hlen) hw1
  have HS := fun (y : Int) w1 hw1 => settled_any y ⟨d.l.toArray⟩ w1 hw1
  simp only at HJ HS
  have hvd : d.verdict bestL = ⟨(judgeP bestL d.hint d.l).1, (judgeP bestL d.hint d.l).2, finP d.ended (judgeP bestL d.hint d.l).2 d.l⟩ := rfl
  rw [hvd]
  simp only [finP]
  generalize (judgeP bestL d.hint d.l).1 = je at *
  generalize (judgeP bestL d.hint d.l).2 = jy at *
  generalize mayL d.l = my at *
  replace HJ := hid HJ
  replace HS := hid HS
  generalize hu : w.alloc (.cells #[.int .i64 0, .int .i64 0, .bool false] 24) = u at *
  obtain ⟨g, v, rfl, rfl, hb, hn, hD1, _⟩ := h1
  have hlt := hD1.lt
  have kD := hD1
  obtain ⟨c0, c1, c2, c3, fz⟩ := kD
  have hgw : g < w.heap.size := (h.lt g (Or.inl rfl)).2
  cases he : d.ended with
  | true =>
    rw [he] at c3
    go_enter Tryz.func30, Tryz.ntmps30
    go_wp2_with fail
    refine (HB.out).mono ?_
    rintro r w1 ⟨rfl, rfl⟩
    go_wp2_with fail
    refine (HJ.out _ hl1).mono ?_
    rintro r w2 ⟨rfl, hb2⟩
    have kD := hD1.below hb2
    obtain ⟨d0, d1, d2, d3, dz⟩ := kD
    rw [he] at d3
    have hv2 := hv0.below hb2
    have kv := hv2
    have lg := (hD1.below hb2).lt
    have lv := hv2.lt
    obtain ⟨v0, v1, v2, vz⟩ := kv
    have hb02 := hb0.trans (hb2.mono hb0.size)
    have hp := put3 hb02 (Nat.le_refl _) (.int .i64 je) (.int .i64 jy) (.bool true)
    go_wp2_with fail
    exact bodyPost_ret (ret_V rfl rfl ((hv2.put ⟨je, jy, true⟩).alloc _)) rfl ⟨by simp, hp.alloc hp.size _⟩
  | false =>
    rw [he] at c3
    obtain ⟨z, hz⟩ : ∃ z, (jy == 1 || ((jy == 2 || jy == 3) && !my)) = z := ⟨_, rfl⟩
    have HS2 := fun w1 hw1 => HS.out jy w1 hw1
    simp only [hz] at HS2
    replace HS2 := hid HS2
    replace hz := hid hz
    go_enter Tryz.func30, Tryz.ntmps30
    go_wp2_with fail
    refine (HB.out).mono ?_
    rintro r w1 ⟨rfl, rfl⟩
    go_wp2_with fail
    refine (HJ.out _ hl1).mono ?_
    rintro r w2 ⟨rfl, hb2⟩
    have kD := hD1.below hb2
    obtain ⟨d0, d1, d2, d3, dz⟩ := kD
    rw [he] at d3
    have hv2 := hv0.below hb2
    have kv := hv2
    have lg := (hD1.below hb2).lt
    have lv := hv2.lt
    obtain ⟨v0, v1, v2, vz⟩ := kv
    have hb02 := hb0.trans (hb2.mono hb0.size)
    have hp := put3 hb02 (Nat.le_refl _) (.int .i64 je) (.int .i64 jy) (.bool z)
    have hlF := (hl1.below hb2).below ((Below.refl w2.heap.size w2).alloc (Nat.le_refl _) (.cells #[.int .i64 je, .int .i64 jy, .bool false] 24))
    go_wp2_with fail
    refine (HS2.out _ hlF).mono ?_
    rintro r w3 ⟨rfl, rfl⟩
    go_wp2_with fail
    exact bodyPost_ret (ret_V rfl rfl ((hv2.put ⟨je, jy, z⟩).alloc _)) rfl ⟨by rw [hz.out]; simp, hp.alloc hp.size _⟩
set_option maxRecDepth 100000 in
set_option maxHeartbeats 1000000 in
theorem finish_ended {W w : World} {F : Nat → Prop} {a : Addr} {d : Dt} (h : IsDet W w F a d) (he : d.ended = true) :
    Calls Tryz.prog 31 #[.pointer (some a)] w (DDo W w F a (.err 3) d) := by
  have HF := hid (fun w1 => fail_any 3 w1)
  have h' := h
  obtain ⟨g, v, rfl, rfl, hb, hn, ⟨c0, c1, c2, c3, fz⟩, hs, hl, ha⟩ := h'
  have hlt : g < w.heap.size := World.block_lt_of_cell? w _ c0
  rw [he] at c3
  have hR := Has5.new w 0 0 0 false none 0 0 36
  have hz := frozen_new w #[.int .i64 0, .int .i64 0, .int .i64 0, .bool false, .slice none 0 0] 36
  go_enter Tryz.func31, Tryz.ntmps31
  go_wp2_with fail
  refine (HF.out _).mono ?_
  rintro r w1 ⟨rfl, hb1⟩
  have hR1 := hR.below hb1
  have hz1 := frozen_below hb1 (by simp) hz
  have k := hR1
  obtain ⟨r0, r1, r2, r3, r4⟩ := k
  go_wp2_with fail
  exact bodyPost_ret (ret_R rfl rfl (hR1.put5 3 0 0 false none 0 0)) rfl (DDo.of (r := .err 3) h (Out.nil _ _) (put5 (one_box hb1) (Nat.le_refl _) _ _ _ _ _))
theorem IsDet.end_ {W w : World} {F : Nat → Prop} {g : Nat} {d : Dt} (h : IsDet W w F ⟨g, 0, none⟩ d) : IsDet W (w.setCell ⟨g, 3, none⟩ (.bool true)) F ⟨g, 0, none⟩ { d with ended := true } := by
  obtain ⟨g', v, e, rfl, hb, hn, hD, hs, hl, ha⟩ := h
  obtain rfl : g = g' := by injection e
  exact ⟨g, v, rfl, rfl, hb, hn, hD.set3 true, hs.keep (fun k hk => Below.heap_setCell w ⟨g, 3, none⟩ _ k (fun x => hn (by rw [hk, x]))), hl, ha⟩
theorem IsDet.count {W w : World} {F : Nat → Prop} {g : Nat} {d : Dt} (h : IsDet W w F ⟨g, 0, none⟩ d) (h3 : d.acts < 300) : IsDet W (w.setCell ⟨g, 2, none⟩ (.int .i64 ((d.acts : Int) + 1))) F ⟨g, 0, none⟩ { d with acts := d.acts + 1 } := by
  obtain ⟨g', v, e, rfl, hb, hn, hD, hs, hl, ha⟩ := h
  obtain rfl : g = g' := by injection e
  exact ⟨g, v, rfl, rfl, hb, hn, hD.set2 (d.acts + 1), hs.keep (fun k hk => Below.heap_setCell w ⟨g, 2, none⟩ _ k (fun x => hn (by rw [hk, x]))), hl, by simp only; omega⟩
theorem IsDet.alloc {W w : World} {F : Nat → Prop} {a : Addr} {d : Dt} (h : IsDet W w F a d) (o : Obj) : IsDet W (w.alloc o) F a d := h.keep (fun k hk => Below.heap_alloc w o k (h.lt k hk).2)
theorem IsDet.below {W w w' : World} {F : Nat → Prop} {a : Addr} {d : Dt} (h : IsDet W w F a d) (hb : Below w.heap.size w w') : IsDet W w' F a d := h.keep (fun k hk => hb.block k (h.lt k hk).2)
end Go.Proofs.YtmdnpgcnbpppfaaGreatDoor
