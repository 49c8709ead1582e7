/- process: a byte is offered until it is used up. -/
import Derived.Test.YtpkifomoffhpdaaGen
import Derived.Test.YtpkifomoffhpdaaApp
import Derived.Deep.LoopGhost
namespace Go.Proofs.Ytpkifomoffhpdaa
open Go.RowKit
attribute [local go_sem ↓] run_eqS run_neS
attribute [local go_sem] byte_at0 byte_at20 byte_at21 w64 S.v and63 and31 and15 and7 kw kw256

/-- What holds at the head of process's loop. -/
def ProcR (M : Mach) (q0 : M.Q) (b : UInt8) (w : World) (k : Nat) (o8 a9 : Value) (wr : World) : Prop :=
  ∃ (q : M.Q) (l : List Int) (a : Bool), a9 = .bool a ∧ HasS wr w.heap.size (M.toS q) ∧ HasS wr (w.heap.size + 1) .zero ∧ Out wr (w.heap.size + 2) o8 l ∧ Below w.heap.size w wr ∧ M.ok q ∧ l.length + 2 * k ≤ 8 ∧
    (a = true → M.rank q < k ∧ M.proc q0 b = ((M.procF k q b).1, l ++ (M.procF k q b).2)) ∧ (a = false → M.proc q0 b = (q, l))
theorem proc_first {e : Int} {M : Mach} (C : Con e M) {q : M.Q} (hq : M.ok q) (b : UInt8) :
    (M.offer q b).2.1.length + 2 * M.rank q ≤ 8 ∧ ((M.offer q b).2.2 = true → M.rank (M.offer q b).1 < M.rank q ∧ M.proc q b = ((M.procF (M.rank q) (M.offer q b).1 b).1, (M.offer q b).2.1 ++ (M.procF (M.rank q) (M.offer q b).1 b).2)) ∧
    ((M.offer q b).2.2 = false → M.proc q b = ((M.offer q b).1, (M.offer q b).2.1)) := by
  refine ⟨?_, fun h => ⟨C.law.drop q b hq h, ?_⟩, fun h => ?_⟩
  · have := C.few q b hq; have := C.low q; omega
  · simp [Mach.proc, Mach.procF, h]
  · simp [Mach.proc, Mach.procF, h]
theorem proc_next {e : Int} {M : Mach} (C : Con e M) {q0 q : M.Q} {l : List Int} {k : Nat} (hq : M.ok q) (b : UInt8) (hl : l.length + 2 * k ≤ 8) (hr : M.rank q < k) (hp : M.proc q0 b = ((M.procF k q b).1, l ++ (M.procF k q b).2)) :
    ∃ n, n + 1 = k ∧ (l ++ (M.offer q b).2.1).length + 2 * n ≤ 8 ∧ ((M.offer q b).2.2 = true → M.rank (M.offer q b).1 < n ∧ M.proc q0 b = ((M.procF n (M.offer q b).1 b).1, (l ++ (M.offer q b).2.1) ++ (M.procF n (M.offer q b).1 b).2)) ∧
    ((M.offer q b).2.2 = false → M.proc q0 b = ((M.offer q b).1, l ++ (M.offer q b).2.1)) := by
  obtain ⟨n, rfl⟩ : ∃ n, k = n + 1 := ⟨k - 1, by omega⟩
  refine ⟨n, rfl, ?_, fun h => ⟨?_, ?_⟩, fun h => ?_⟩
  · have := C.few q b hq; simp; omega
  · have := C.law.drop q b hq h; omega
  · rw [hp]; simp [Mach.procF, h]
  · rw [hp]; simp [Mach.procF, h]

set_option maxRecDepth 100000 in
set_option maxHeartbeats 1000000 in
theorem process_any {e : Int} {M : Mach} (C : Con e M) (q : M.Q) (hq : M.ok q) (b : UInt8) (w : World) : Calls Try.prog 50 #[.int .i64 e, (.agg #[.int .i64 ((M.toS q).need), .int .i64 ((M.toS q).code), .int .i64 ((M.toS q).lo), .int .i64 ((M.toS q).hi), .string ((M.toS q).kept), .int .i64 ((M.toS q).half), .int .i64 ((M.toS q).mode)]), .int .i64 (b.toNat : Int)] w (PSO w (M.toS (M.proc q b).1) (M.proc q b).2) := by
  have H := hid (fun w1 => C.off q b w1 hq)
  have h1 := hid (proc_first C hq b)
  have hok := C.law.step q b hq
  go_enter Try.func50, Try.ntmps50
  go_wp2_with fail
  refine (H.out _).mono ?_
  rintro e' w1 ⟨v, rfl, ho, hb1⟩
  obtain ⟨hc, hf⟩ := bcell hb1
  replace ho := hid ho
  have h0 : ProcR M q b w (M.rank q) v (.bool (M.offer q b).2.2) (((((((w1.setCell ⟨w.heap.size, 0, none⟩ (.int .i64 (M.toS (M.offer q b).1).need)).setCell ⟨w.heap.size, 1, none⟩ (.int .i64 (M.toS (M.offer q b).1).code)).setCell ⟨w.heap.size, 2, none⟩ (.int .i64 (M.toS (M.offer q b).1).lo)).setCell ⟨w.heap.size, 3, none⟩ (.int .i64 (M.toS (M.offer q b).1).hi)).setCell ⟨w.heap.size, 4, none⟩ (.string (M.toS (M.offer q b).1).kept)).setCell ⟨w.heap.size, 5, none⟩ (.int .i64 (M.toS (M.offer q b).1).half)).setCell ⟨w.heap.size, 6, none⟩ (.int .i64 (M.toS (M.offer q b).1).mode)) :=
    ⟨_, _, _, rfl, (HasS.box21 hb1).put7 _, (HasS.box2 hb1).far7 (by omega) _ _ _ _ _ _ _, (ho.out.put7 (by simp; omega) _ _ _ _ _ _ _).base (by simp), put7 (two_boxes hb1) (Nat.le_refl _) _ _ _ _ _ _ _, hok, h1.out⟩
  replace h0 := hid h0
  clear h1 hok
  go_wp2_with fail
  clear hc hf
  go_loopg [8, 9, 10] (M.rank q) (fun k o8 a9 _ wr => ProcR M q b w k o8 a9 wr)
  case atStart => exact h0.out
  case round =>
    clear h0 H ho hb1
    obtain ⟨q', l, a, rfl, hS, hR, ho, hb, hok, hl, ht, hf⟩ := hrel
    cases a
    · have hp := hid (hf rfl)
      clear ht hf
      have hS3 := hS
      obtain ⟨c0, c1, c2, c3, c4, c5, c6, cz⟩ := hS3
      have hR3 := hR
      obtain ⟨r0, r1, r2, r3, r4, r5, r6, rz⟩ := hR3
      go_wp2_with fail
      rw [hp.out]
      refine bodyPost_ret (ret_SO rfl rfl (hR.put7 (M.toS q'))) rfl ⟨u8, rfl, ?_, ?_⟩
      · exact (ho.put7 (by omega) _ _ _ _ _ _ _).base (by omega)
      · exact put7 hb (by omega) _ _ _ _ _ _ _
    · obtain ⟨hr, hp⟩ := ht rfl
      obtain ⟨n, hn, hx⟩ := proc_next C hok b hl hr hp
      replace hx := hid hx
      clear ht hf hp
      have hok2 := C.law.step q' b hok
      have hfew := C.few q' b hok
      have H := hid (fun w1 => C.off q' b w1 hok)
      have hlen : l.length ≤ 8 := by omega
      have hS3 := hS
      obtain ⟨c0, c1, c2, c3, c4, c5, c6, cz⟩ := hS3
      go_wp2_with fail
      refine (H.out _).mono ?_
      rintro e' w2 ⟨v2, rfl, ho2, hb2⟩
      clear c0 c1 c2 c3 c4 c5 c6 cz
      have hS2 := hS.below hb2 hS.lt
      have hR2 := hR.below hb2 hR.lt
      have ho3 := ho.below hb2
      have hS3 := hS2
      obtain ⟨c0, c1, c2, c3, c4, c5, c6, cz⟩ := hS3
      have hw := hb.size
      have hB : Below w.heap.size w (((((((w2.setCell ⟨w.heap.size, 0, none⟩ (.int .i64 (M.toS (M.offer q' b).1).need)).setCell ⟨w.heap.size, 1, none⟩ (.int .i64 (M.toS (M.offer q' b).1).code)).setCell ⟨w.heap.size, 2, none⟩ (.int .i64 (M.toS (M.offer q' b).1).lo)).setCell ⟨w.heap.size, 3, none⟩ (.int .i64 (M.toS (M.offer q' b).1).hi)).setCell ⟨w.heap.size, 4, none⟩ (.string (M.toS (M.offer q' b).1).kept)).setCell ⟨w.heap.size, 5, none⟩ (.int .i64 (M.toS (M.offer q' b).1).half)).setCell ⟨w.heap.size, 6, none⟩ (.int .i64 (M.toS (M.offer q' b).1).mode)) := put7 (Below.trans hb (hb2.mono hw)) (Nat.le_refl _) _ _ _ _ _ _ _
      have hA : Out (((((((w2.setCell ⟨w.heap.size, 0, none⟩ (.int .i64 (M.toS (M.offer q' b).1).need)).setCell ⟨w.heap.size, 1, none⟩ (.int .i64 (M.toS (M.offer q' b).1).code)).setCell ⟨w.heap.size, 2, none⟩ (.int .i64 (M.toS (M.offer q' b).1).lo)).setCell ⟨w.heap.size, 3, none⟩ (.int .i64 (M.toS (M.offer q' b).1).hi)).setCell ⟨w.heap.size, 4, none⟩ (.string (M.toS (M.offer q' b).1).kept)).setCell ⟨w.heap.size, 5, none⟩ (.int .i64 (M.toS (M.offer q' b).1).half)).setCell ⟨w.heap.size, 6, none⟩ (.int .i64 (M.toS (M.offer q' b).1).mode)) (w.heap.size + 2) u8 l := ho3.put7 (by omega) _ _ _ _ _ _ _
      have hP : Out (((((((w2.setCell ⟨w.heap.size, 0, none⟩ (.int .i64 (M.toS (M.offer q' b).1).need)).setCell ⟨w.heap.size, 1, none⟩ (.int .i64 (M.toS (M.offer q' b).1).code)).setCell ⟨w.heap.size, 2, none⟩ (.int .i64 (M.toS (M.offer q' b).1).lo)).setCell ⟨w.heap.size, 3, none⟩ (.int .i64 (M.toS (M.offer q' b).1).hi)).setCell ⟨w.heap.size, 4, none⟩ (.string (M.toS (M.offer q' b).1).kept)).setCell ⟨w.heap.size, 5, none⟩ (.int .i64 (M.toS (M.offer q' b).1).half)).setCell ⟨w.heap.size, 6, none⟩ (.int .i64 (M.toS (M.offer q' b).1).mode)) wr.heap.size v2 (M.offer q' b).2.1 := ho2.put7 hS.lt _ _ _ _ _ _ _
      have hS4 := hS2.put7 (M.toS (M.offer q' b).1)
      have hR4 := hR2.far7 (blk := w.heap.size) (by omega) (.int .i64 (M.toS (M.offer q' b).1).need) (.int .i64 (M.toS (M.offer q' b).1).code) (.int .i64 (M.toS (M.offer q' b).1).lo) (.int .i64 (M.toS (M.offer q' b).1).hi) (.string (M.toS (M.offer q' b).1).kept) (.int .i64 (M.toS (M.offer q' b).1).half) (.int .i64 (M.toS (M.offer q' b).1).mode)
      have hz : w.heap.size + 2 ≤ w2.heap.size := by have := hR2.lt; omega
      go_wp2_with (at_builtin; refine list_appO rfl (.tmp 28) (.tmp 29) rfl (v := u8) (v2 := v2) rfl rfl hA hP (by rw [size7]; exact hz) (by omega) ?_; intro v3 w3 ho4 hb4)
      go_roundg n
      case rel => exact ⟨_, _, _, rfl, hS4.below hb4 (by omega), hR4.below hb4 (by omega), ho4, Below.trans hB (hb4.mono (by omega)), hok2, hx.out⟩
      all_goals omega
end Go.Proofs.Ytpkifomoffhpdaa
