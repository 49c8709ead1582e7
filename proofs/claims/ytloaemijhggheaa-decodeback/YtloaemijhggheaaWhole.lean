/- Whole: all bytes at once, and their end; End. -/
import Derived.Test.YtloaemijhggheaaQG
namespace Go.Proofs.Ytloaemijhggheaa
open Go.RowKit
attribute [local go_sem ↓] run_eqS run_neS
attribute [local go_sem] byte_at0 byte_at20 byte_at21 w64 S.v and63 and31 and15 and7 kw kw256

/-- A call hands back a list and an error's number. -/
def POE (w : World) (l : List Int) (n : Int) (e : Ending) (w' : World) : Prop := ∃ v, e = .returned (.tuple #[v, .int .i64 n]) ∧ Out w' w.heap.size v l ∧ Below w.heap.size w w'
set_option maxRecDepth 100000 in
set_option maxHeartbeats 1000000 in
theorem whole_any {e : Int} {M : Mach} (C : Con e M) (G : Goods e M) (s : ByteArray) (hs : s.size ≤ 4000) (w : World) : Calls Try.prog 14 #[.int .i64 e, .string s] w (POE w (M.dec M.init s.data.toList) 0) := by
  have H := fun w1 => feed_any C G M.init C.law.init s hs w1
  rw [C.law.zero] at H
  simp only [S.zero] at H
  have hok := C.feed_ok s.data.toList M.init C.law.init
  have HF := hid (fun w1 => C.fin (M.feed M.init s.data.toList).1 w1 hok.1)
  have hlen : (M.feed M.init s.data.toList).2.length ≤ 24000 := by
    have := hok.2; simp at this; omega
  have hfl := C.end_ (M.feed M.init s.data.toList).1
  have hdec := hid (show M.dec M.init s.data.toList = _ ++ _ from rfl)
  clear hok
  generalize (M.feed M.init s.data.toList).2 = l at *
  generalize M.fin (M.feed M.init s.data.toList).1 = m at *
  generalize M.toS (M.feed M.init s.data.toList).1 = st at *
  replace H := hid H
  go_enter Try.func14, Try.ntmps14
  go_wp2_with fail
  refine (H.out _).mono ?_
  rintro e' w1 ⟨v, rfl, ho, hb1⟩
  replace ho := hid ho
  go_wp2_with fail
  refine (HF.out _).mono ?_
  rintro e' w2 ⟨v2, rfl, ho2, hb2⟩
  have hw := hb1.size
  have hb3 := one_box hb2
  have hA := (ho.out.below hb3)
  go_wp2_with (at_builtin; refine list_appO rfl (.tmp 20) (.tmp 23) rfl (v := v) (v2 := v2) rfl rfl hA ho2 (by have := hb3.size; omega) (by omega) ?_; intro v3 w3 ho3 hb4)
  go_ret2
  rw [hdec.out]
  exact ⟨v3, rfl, ho3, (hb1.trans (hb3.mono hw)).trans hb4⟩
set_option maxRecDepth 100000 in
set_option maxHeartbeats 400000 in
theorem end_any {e : Int} {M : Mach} (C : Con e M) (G : Goods e M) (q : M.Q) (hq : M.ok q) (w : World) : Calls Try.prog 20 #[.int .i64 e, (.agg #[.int .i64 ((M.toS q).need), .int .i64 ((M.toS q).code), .int .i64 ((M.toS q).lo), .int .i64 ((M.toS q).hi), .string ((M.toS q).kept), .int .i64 ((M.toS q).half), .int .i64 ((M.toS q).mode)])] w (POE w (M.fin q) 0) := by
  have h1 := C.lo
  have h2 := C.hi
  have HG := hid (fun w1 => G q w1 hq)
  have HF := hid (fun w1 => C.fin q w1 hq)
  go_enter Try.func20, Try.ntmps20
  go_wp2_with fail
  refine (isEnc_yes _ _ h1 h2).mono ?_
  rintro e' w' ⟨rfl, rfl⟩
  go_wp2_with fail
  refine (HG.out _).mono ?_
  rintro e' w1 ⟨rfl, hb1⟩
  obtain ⟨hc, hf⟩ := bcell hb1
  go_wp2_with fail
  refine (HF.out _).mono ?_
  rintro e' w2 ⟨v2, rfl, ho2, hb2⟩
  clear hc hf
  go_wp2_with fail
  go_ret2
  exact ⟨v2, rfl, ho2.base (one_box hb1).size, (one_box hb1).trans (hb2.mono (one_box hb1).size)⟩
end Go.Proofs.Ytloaemijhggheaa
