/- Feed: all bytes, one by one. -/
import Derived.Test.YtpkifomoffhpdaaProc
import Derived.Deep.RegionHeld3
import Derived.Deep.DeepCutAuto
namespace Go.Proofs.Ytpkifomoffhpdaa
open Go.RowKit
attribute [local go_sem ↓] run_eqS run_neS
attribute [local go_sem] byte_at0 byte_at20 byte_at21 w64 S.v and63 and31 and15 and7 kw kw256

theorem Mach.feed_append (M : Mach) (x y : List UInt8) : ∀ q, M.feed q (x ++ y) = ((M.feed (M.feed q x).1 y).1, (M.feed q x).2 ++ (M.feed (M.feed q x).1 y).2) := by
  induction x with
  | nil => intro q; simp [Mach.feed]
  | cons b r ih => intro q; simp [Mach.feed, ih]
theorem Mach.feed_snoc (M : Mach) (q : M.Q) (x : List UInt8) (b : UInt8) : M.feed q (x ++ [b]) = ((M.proc (M.feed q x).1 b).1, (M.feed q x).2 ++ (M.proc (M.feed q x).1 b).2) := by
  rw [M.feed_append]; simp [Mach.feed]
theorem Con.procF_ok {e : Int} {M : Mach} (C : Con e M) (b : UInt8) : ∀ n q, M.ok q → M.ok (M.procF n q b).1 ∧ (M.procF n q b).2.length ≤ 2 * n
  | 0, q, hq => ⟨hq, by simp [Mach.procF]⟩
  | n + 1, q, hq => by
    have h1 := C.law.step q b hq
    have h2 := C.few q b hq
    have h3 := C.procF_ok b n _ h1
    unfold Mach.procF
    split
    · exact ⟨h3.1, by simp; omega⟩
    · exact ⟨h1, by simp; omega⟩
theorem Con.proc_ok {e : Int} {M : Mach} (C : Con e M) {q : M.Q} (b : UInt8) (hq : M.ok q) : M.ok (M.proc q b).1 ∧ (M.proc q b).2.length ≤ 6 := by
  have h := C.procF_ok b (M.rank q + 1) q hq
  have := C.low q
  exact ⟨h.1, by unfold Mach.proc; omega⟩
theorem Con.feed_ok {e : Int} {M : Mach} (C : Con e M) (x : List UInt8) : ∀ q, M.ok q → M.ok (M.feed q x).1 ∧ (M.feed q x).2.length ≤ 6 * x.length := by
  induction x with
  | nil => intro q hq; exact ⟨hq, by simp [Mach.feed]⟩
  | cons b r ih =>
    intro q hq
    have h1 := C.proc_ok b hq
    have h2 := ih _ h1.1
    exact ⟨h2.1, by simp [Mach.feed]; omega⟩
theorem take_snoc (s : ByteArray) (k : Nat) (h : k < s.size) : s.data.toList.take (k + 1) = s.data.toList.take k ++ [s[k]] := by
  rw [List.take_succ_eq_append_getElem (by simpa using h)]; rfl

set_option maxHeartbeats 400000 in
theorem isEnc_yes (e : Int) (w : World) (h1 : 1 ≤ e) (h2 : e ≤ 6) : Calls Try.prog 48 #[.int .i64 e] w fun r w' => r = .returned (.bool true) ∧ w = w' := by
  go_enter Try.func48, Try.ntmps48
  go_wp2
  go_ret
  exact ⟨rfl, rfl⟩
set_option maxHeartbeats 400000 in
theorem isEnc_no (e : Int) (w : World) (h : ¬ (1 ≤ e ∧ e ≤ 6)) : Calls Try.prog 48 #[.int .i64 e] w fun r w' => r = .returned (.bool false) ∧ w = w' := by
  by_cases h1 : 1 ≤ e
  · have h2 : ¬ e ≤ 6 := fun h2 => h ⟨h1, h2⟩
    clear h
    go_enter Try.func48, Try.ntmps48
    go_wp2
    go_ret
    exact ⟨rfl, rfl⟩
  · clear h
    go_enter Try.func48, Try.ntmps48
    go_wp2
    go_ret
    exact ⟨rfl, rfl⟩

/-- A call hands back a state, a list and an error's number. -/
def PSOE (w : World) (s : S) (l : List Int) (n : Int) (e : Ending) (w' : World) : Prop := ∃ v, e = .returned (.tuple #[s.v, v, .int .i64 n]) ∧ Out w' w.heap.size v l ∧ Below w.heap.size w w'
/-- The state of an encoding is taken for good. -/
def Goods (e : Int) (M : Mach) : Prop := ∀ q w, M.ok q → Calls Try.prog 49 #[.int .i64 e, (.agg #[.int .i64 ((M.toS q).need), .int .i64 ((M.toS q).code), .int .i64 ((M.toS q).lo), .int .i64 ((M.toS q).hi), .string ((M.toS q).kept), .int .i64 ((M.toS q).half), .int .i64 ((M.toS q).mode)])] w fun r w' => r = .returned (.bool true) ∧ Below w.heap.size w w'
/-- What holds at the head of Feed's loop. -/
def FeedR (M : Mach) (q : M.Q) (s : ByteArray) (w : World) (o9 i28 : Value) (wr : World) : Prop :=
  ∃ k : Nat, k ≤ s.size ∧ i28 = .int .i64 k ∧ HasS wr w.heap.size (M.toS (M.feed q (s.data.toList.take k)).1) ∧ HasS wr (w.heap.size + 1) .zero ∧ Out wr (w.heap.size + 2) o9 (M.feed q (s.data.toList.take k)).2 ∧ Below w.heap.size w wr
/-- What lies there when a byte has been processed. -/
def FedR (w : World) (s0 s1 : S) (o9 : Value) (l0 l1 : List Int) (s11 s12 : Value) (wx : World) : Prop :=
  ∃ g B : Nat, s11 = .pointer (some ⟨g, 0, none⟩) ∧ HasS wx g s1 ∧ HasS wx w.heap.size s0 ∧ HasS wx (w.heap.size + 1) .zero ∧ Out wx (w.heap.size + 2) o9 l0 ∧ Out wx B s12 l1 ∧ Below w.heap.size w wx ∧ w.heap.size + 1 < g ∧ some g ≠ o9.ownBlock

set_option maxRecDepth 100000 in
set_option maxHeartbeats 2000000 in
theorem feed_any {e : Int} {M : Mach} (C : Con e M) (G : Goods e M) (q : M.Q) (hq : M.ok q) (s : ByteArray) (hs : s.size ≤ 4000) (w : World) : Calls Try.prog 30 #[.int .i64 e, (.agg #[.int .i64 ((M.toS q).need), .int .i64 ((M.toS q).code), .int .i64 ((M.toS q).lo), .int .i64 ((M.toS q).hi), .string ((M.toS q).kept), .int .i64 ((M.toS q).half), .int .i64 ((M.toS q).mode)]), .string s] w (PSOE w (M.toS (M.feed q s.data.toList).1) (M.feed q s.data.toList).2 0) := by
  have h1 := C.lo
  have h2 := C.hi
  have HG := hid (fun w1 => G q w1 hq)
  go_enter Try.func30, Try.ntmps30
  go_wp2_with fail
  refine (isEnc_yes _ _ h1 h2).mono ?_
  rintro e' w' ⟨rfl, rfl⟩
  go_wp2_with fail
  refine (HG.out _).mono ?_
  rintro e' w1 ⟨rfl, hb1⟩
  go_wp2_with fail
  have h0 : FeedR M q s w (.slice none 0 0) (.int .i64 0) w1 := ⟨0, Nat.zero_le _, rfl, HasS.box21 hb1, HasS.box2 hb1, Out.nil _ _, two_boxes hb1⟩
  replace h0 := hid h0
  clear hb1 HG
  go_loopw [9, 28] (fun o9 i28 wr => FeedR M q s w o9 i28 wr) (fun _ i _ => s.size - (intOf i).toNat)
  case atStart => exact h0.out
  case round =>
    clear h0
    obtain ⟨k, hk, rfl, hS, hR, ho, hb⟩ := hrel
    have hkk := C.feed_ok (s.data.toList.take k) q hq
    have hlen : (M.feed q (s.data.toList.take k)).2.length ≤ 24000 := by
      have := hkk.2; have : (s.data.toList.take k).length ≤ k := List.length_take_le _ _; omega
    by_cases hlt : k < s.size
    · have hfin := M.feed_snoc q (s.data.toList.take k) s[k]
      rw [← take_snoc s k hlt] at hfin
      replace hfin := hid hfin
      have hpl := (C.proc_ok s[k] hkk.1).2
      have HP := hid (fun w1 => process_any C _ hkk.1 s[k] w1)
      clear hkk
      generalize (M.feed q (s.data.toList.take k)).2 = l0 at *
      generalize (M.feed q (s.data.toList.take k)).1 = q0 at *
      have hS3 := hS
      obtain ⟨c0, c1, c2, c3, c4, c5, c6, cz⟩ := hS3
      go_upto_region 11 with fail
      go_cut [11, 12] (FedR w (M.toS q0) (M.toS (M.proc q0 s[k]).1) u9 l0 (M.proc q0 s[k]).2)
      case first =>
        go_region_held3 (fun w' => w'.cell? ⟨w.heap.size, 0, none⟩ = some (.int .i64 (M.toS q0).need) ∧ w'.cell? ⟨w.heap.size, 1, none⟩ = some (.int .i64 (M.toS q0).code) ∧ w'.cell? ⟨w.heap.size, 2, none⟩ = some (.int .i64 (M.toS q0).lo) ∧ w'.cell? ⟨w.heap.size, 3, none⟩ = some (.int .i64 (M.toS q0).hi) ∧ w'.cell? ⟨w.heap.size, 4, none⟩ = some (.string (M.toS q0).kept) ∧ w'.cell? ⟨w.heap.size, 5, none⟩ = some (.int .i64 (M.toS q0).half) ∧ w'.cell? ⟨w.heap.size, 6, none⟩ = some (.int .i64 (M.toS q0).mode))
          (first | go_keep | (with_reducible exact k1) | (with_reducible exact k2.out _) | (with_reducible exact k3.out _ _ _ _ _ _ _))
          (first
            | (go_at_call 50; refine (HP.out _).mono ?_; rintro e' w2 ⟨v2, rfl, ho2, hb2⟩; have hb4 : Below wr.heap.size wr w2 := undrew hb2; have hb3 := hb4; have hS2 := hS.below hb3 hS.lt; have k1 := hS2.cells; have k2 := hid (fun o => (hS2.alloc o).cells); have k3 := hid (fun u0 u1 u2 u3 u4 u5 u6 => (hS2.far7 (blk := wr.heap.size) (Nat.ne_of_gt hS.lt) u0 u1 u2 u3 u4 u5 u6).cells); replace ho2 := hid ho2)
            | (go_at_call 50; refine (HP.out _).mono ?_; rintro e' w2 ⟨v2, rfl, ho2, hb2⟩; have hb3 : Below wr.heap.size wr w2 := one_box (undrew hb2); have hS2 := hS.below hb3 hS.lt; have k1 := hS2.cells; have k2 := hid (fun o => (hS2.alloc o).cells); have k3 := hid (fun u0 u1 u2 u3 u4 u5 u6 => (hS2.far7 (blk := wr.heap.size) (Nat.ne_of_gt hS.lt) u0 u1 u2 u3 u4 u5 u6).cells); replace ho2 := hid ho2; have hN : HasS w2 wr.heap.size .zero := HasS.box1 (undrew hb2); have hN2 := hN; obtain ⟨r0, r1, r2, r3, r4, r5, r6, rz⟩ := hN2))
        · go_wp2_with fail
          go_meet
          have hR2 := hR.below hb3 hR.lt
          have hz := hb3.size
          have hl := hR.lt
          exact ⟨_, _, rfl, HasS.new _ (M.toS (M.proc q0 s[k]).1), hS2.alloc _, hR2.alloc _, (ho.below hb3).alloc _, ho2.out.alloc _, Below.alloc (hb.trans (hb3.mono hb.size)) (by omega) _, by omega, ho.apart hz⟩
        all_goals
          go_wp2_with fail
          go_meet
          have hR2 := hR.below hb3 hR.lt
          have hz := hb3.size
          have hl := hR.lt
          have hl0 := hS.lt
          exact ⟨_, _, rfl, hN.put7 (M.toS (M.proc q0 s[k]).1), hS2.far7 (Nat.ne_of_gt hl0) _ _ _ _ _ _ _, hR2.far7 (Nat.ne_of_gt hl) _ _ _ _ _ _ _, (ho.below hb3).far7 (ho.apart (Nat.le_refl _)) _ _ _ _ _ _ _, (unOut ho2.out).put7 (by simp) _ _ _ _ _ _ _, put7 (hb.trans (hb3.mono hb.size)) (by omega) _ _ _ _ _ _ _, by omega, ho.apart (Nat.le_refl _)⟩
      case rest =>
        clear c0 c1 c2 c3 c4 c5 c6 cz hS hR ho hb HP
        obtain ⟨g, B, rfl, hN, hS, hR, ho, ho2, hb, hg, hne⟩ := hcut
        have hN1 := hN.drew
        have hS1 := hS.drew
        have hR1 := hR.drew
        have hA := ho.drew
        have hP := ho2.drew
        have hz := hR.lt
        have n0 : some w.heap.size ≠ u9.ownBlock := fun e => by have := ho.far _ e.symm; omega
        have n1 : some (w.heap.size + 1) ≠ u9.ownBlock := fun e => by have := ho.far _ e.symm; omega
        go_wp2_with fail
        go_region_held3 (fun w' => w'.cell? ⟨g, 0, none⟩ = some (.int .i64 (M.toS (M.proc q0 s[k]).1).need) ∧ w'.cell? ⟨g, 1, none⟩ = some (.int .i64 (M.toS (M.proc q0 s[k]).1).code) ∧ w'.cell? ⟨g, 2, none⟩ = some (.int .i64 (M.toS (M.proc q0 s[k]).1).lo) ∧ w'.cell? ⟨g, 3, none⟩ = some (.int .i64 (M.toS (M.proc q0 s[k]).1).hi) ∧ w'.cell? ⟨g, 4, none⟩ = some (.string (M.toS (M.proc q0 s[k]).1).kept) ∧ w'.cell? ⟨g, 5, none⟩ = some (.int .i64 (M.toS (M.proc q0 s[k]).1).half) ∧ w'.cell? ⟨g, 6, none⟩ = some (.int .i64 (M.toS (M.proc q0 s[k]).1).mode))
          (first | (with_reducible exact hN.cells) | (with_reducible exact hN1.cells) | (with_reducible exact k2) | (with_reducible exact k3.out _ _ _ _ _ _ _))
          ((refine step_appG (v := u9) (v2 := u12) (by rfl) (.tmp 42) (.tmp 43) (by rfl) (by rfl) (by rfl) hA hP (by simp; omega) (by omega) ?_; intro v3 w3 ho3 hg3; have hN2 := hN1.grown hg3 hne; have k2 := hN2.cells; have k3 := hid (fun u0 u1 u2 u3 u4 u5 u6 => (hN2.far7 (blk := w.heap.size) (by omega) u0 u1 u2 u3 u4 u5 u6).cells); have hS2 := hS1.grown hg3 n0; have hS3 := hS2; obtain ⟨r0, r1, r2, r3, r4, r5, r6, rz⟩ := hS3))
        go_wp2_with fail
        go_roundw
        case rel =>
          refine ⟨k + 1, by omega, by go_num, ?_, ?_, ?_, ?_⟩
          · rw [hfin.out]; exact hS2.put7 _
          · exact (hR1.grown hg3 n1).far7 (by omega) _ _ _ _ _ _ _
          · rw [hfin.out]; exact ho3.put7 (by omega) _ _ _ _ _ _ _
          · exact put7 (Below.grown (Below.drew hb) hg3 hb.size (fun k hk => by have := ho.far _ hk; omega)) (Nat.le_refl _) _ _ _ _ _ _ _
        case measure => simp [intOf]; omega
    · have e : s.data.toList.take k = s.data.toList := List.take_of_length_le (by simp; omega)
      rw [e] at hS ho
      clear e hkk hlen
      have hS3 := hS
      obtain ⟨c0, c1, c2, c3, c4, c5, c6, cz⟩ := hS3
      have hR3 := hR
      obtain ⟨r0, r1, r2, r3, r4, r5, r6, rz⟩ := hR3
      go_wp2_with fail
      refine bodyPost_ret (ret_SOB rfl rfl (hR.put7 (M.toS (M.feed q s.data.toList).1))) rfl ⟨u9, rfl, ?_, ?_⟩
      · exact (ho.put7 (by omega) _ _ _ _ _ _ _).base (by omega)
      · exact put7 hb (by omega) _ _ _ _ _ _ _
end Go.Proofs.Ytpkifomoffhpdaa
