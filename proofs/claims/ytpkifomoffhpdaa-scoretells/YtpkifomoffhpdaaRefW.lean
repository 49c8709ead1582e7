/- The reference's WholeOf, once for every encoding, out of what its pieces do. -/
import Derived.Test.YtpkifomoffhpdaaPieceT
import Derived.Test.YtpkifomoffhpdaaErrW
namespace Go.Proofs.Ytpkifomoffhpdaa
open Go.RowKit
attribute [local go_sem ↓] run_eqS run_neS
attribute [local go_sem] byte_at0 byte_at20 byte_at21 w64 S.v and63 and31 and15 and7 kw kw256

/-- What the pieces of an encoding do: each tells what the machine tells of its bytes. -/
structure Pieces (e : Int) (M : Mach) (qm : Int → M.Q) (okm : Int → Prop) : Prop where
  start : qm 0 = M.init ∧ okm 0
  done : ∀ md, okm md → M.fin (qm md) = []
  piece : ∀ (s : ByteArray) (md : Int), 0 < s.size → s.size ≤ 4000 → okm md → ∃ (l : List Int) (n : Nat) (m : Int), okm m ∧ 0 < n ∧ n ≤ s.size ∧ l.length ≤ 1 ∧
    (∀ w, Calls Try.prog 32 #[.int .i64 e, .string s, .int .i64 md] w (PP w l (n : Int) m)) ∧ M.dec (qm md) s.data.toList = l ++ M.dec (qm m) (s.data.toList.drop n)
/-- What holds at the head of WholeOf's loop. -/
def RefR {M : Mach} (qm : Int → M.Q) (okm : Int → Prop) (s0 : ByteArray) (w : World) (s1 s6 s7 : Value) (wr : World) : Prop :=
  ∃ (t : ByteArray) (md : Int) (acc : List Int), s1 = .string t ∧ s7 = .int .i64 md ∧ Out wr w.heap.size s6 acc ∧ Below w.heap.size w wr ∧ okm md ∧ acc.length + t.size ≤ s0.size ∧
    M.dec M.init s0.data.toList = acc ++ M.dec (qm md) t.data.toList
/-- How many bytes a slot's string has. -/
def strLen : Value → Nat
  | .string t => t.size
  | _ => 0
theorem cut_list (t : ByteArray) (n : Nat) : (t.extract n t.size).data.toList = t.data.toList.drop n := by simp [List.take_of_length_le]
theorem cut_size (t : ByteArray) (n : Nat) (_h : n ≤ t.size) : (t.extract n t.size).size = t.size - n := by simp
set_option maxRecDepth 100000 in
set_option maxHeartbeats 1000000 in
theorem wholeOf_any {e : Int} {M : Mach} {qm : Int → M.Q} {okm : Int → Prop} (P : Pieces e M qm okm) (s : ByteArray) (w : World) (h1 : 1 ≤ e) (h2 : e ≤ 6) (hs : s.size ≤ 4000) : Calls Try.prog 10 #[.int .i64 e, .string s] w (POE w (M.dec M.init s.data.toList) 0) := by
  have hR : RefR qm okm s w (.string s) (.slice none 0 0) (.int .i64 0) w := ⟨s, 0, [], rfl, rfl, Out.nil _ _, Below.refl _ _, P.start.2, by simp, by rw [P.start.1]; rfl⟩
  replace hR := hid hR
  go_enter Try.func10, Try.ntmps10
  go_wp2_with fail
  go_loopw [1, 6, 7] (fun s1 s6 s7 wr => RefR qm okm s w s1 s6 s7 wr) (fun s1 _ _ _ => strLen s1)
  case atStart => exact hR.out
  case round =>
    clear hR
    obtain ⟨t, md, acc, rfl, rfl, ho, hb, hm, hl, hd⟩ := hrel
    replace hd := hid hd
    by_cases h0 : 0 < t.size
    · obtain ⟨l, n, m, hm2, hn1, hn2, hl1, HP, hd2⟩ := P.piece t md h0 (by omega) hm
      replace HP := hid HP
      replace hd2 := hid hd2
      have e0 : (t.toList == []) = false := by
        cases hx : t.toList == [] with
        | false => rfl
        | true =>
          have hz := congrArg List.length (eq_of_beq hx)
          rw [ByteArray.toList_eq] at hz
          have hz2 : t.size = 0 := hz
          omega
      have e1 : (!(t.toList == [])) = true := by rw [e0]; rfl
      have e2 : t.toList.isEmpty = false := by cases hk : t.toList <;> simp_all
      have e3 : ¬ t.toList = [] := by intro x; rw [x] at e0; cases e0
      have b0 : (0 : Int) ≤ (n : Int) := by omega
      have b1 : (n : Int) ≤ (t.size : Int) := by omega
      go_wp2_with fail
      refine (HP.out _).mono ?_
      rintro r w1 ⟨v, rfl, ho1, hb1⟩
      have hA := ho.below hb1
      have hB := hb.trans (hb1.mono hb.size)
      go_wp2_with (at_builtin; refine list_appO rfl (.tmp 30) (.tmp 31) rfl (v := u6) (v2 := v) rfl rfl hA ho1 hB.size (by omega) ?_; intro v2 w2 ho2 hb2)
      go_roundw
      case rel => exact ⟨t.extract n t.size, m, acc ++ l, rfl, rfl, ho2, hB.trans hb2, hm2, by rw [cut_size t n hn2]; simp; omega, by rw [hd.out, hd2.out, cut_list, List.append_assoc]⟩
      case measure => simp only [strLen]; rw [cut_size t n hn2]; omega
    · obtain rfl : t = ⟨#[]⟩ := by
        obtain ⟨⟨l⟩⟩ := t
        match l with
        | [] => rfl
        | a :: r => exact absurd (Nat.succ_pos _) h0
      have hx : M.dec M.init s.data.toList = acc := by
        rw [hd.out]
        have : M.dec (qm md) (⟨#[]⟩ : ByteArray).data.toList = [] := by rw [show (⟨#[]⟩ : ByteArray).data.toList = [] from rfl, Mach.dec_nil]; exact P.done md hm
        rw [this, List.append_nil]
      have ho' : Out wr w.heap.size u6 (M.dec M.init s.data.toList) := by rw [hx]; exact ho
      clear hx hd h0 ho
      go_wp2_with fail
      go_ret2
      exact ⟨u6, rfl, ho', hb⟩
set_option maxRecDepth 100000 in
set_option maxHeartbeats 400000 in
theorem wholeOf_kind (e : Int) (s : ByteArray) (w : World) (h : ¬ (1 ≤ e ∧ e ≤ 6)) : Calls Try.prog 10 #[.int .i64 e, .string s] w (POE w [] 2) := by
  obtain hx | ⟨hx, hy⟩ : e < 1 ∨ (¬ e < 1 ∧ 6 < e) := by omega
  all_goals
    clear h
    go_enter Try.func10, Try.ntmps10
    go_wp2_with fail
    go_ret2
    exact ⟨_, rfl, Out.nil _ _, Below.refl _ _⟩
set_option maxRecDepth 100000 in
set_option maxHeartbeats 400000 in
theorem wholeOf_long (e : Int) (s : ByteArray) (w : World) (h1 : 1 ≤ e) (h2 : e ≤ 6) (hd : decide ((4000 : Int) < (s.size : Int)) = true) : Calls Try.prog 10 #[.int .i64 e, .string s] w (POE w [] 4) := by
  go_enter Try.func10, Try.ntmps10
  go_wp2_with fail
  go_ret2
  exact ⟨_, rfl, Out.nil _ _, Below.refl _ _⟩
set_option maxRecDepth 100000 in
set_option maxHeartbeats 400000 in
theorem law_of (e n : Int) (s : ByteArray) (l : List Int) (w : World) (hl : l.length ≤ 100000) (H1 : Hid (∀ w1, Calls Try.prog 9 #[.int .i64 e, .string s] w1 (POE w1 l n))) (H2 : Hid (∀ w1, Calls Try.prog 10 #[.int .i64 e, .string s] w1 (POE w1 l n))) :
    Calls Try.prog 3 #[.int .i64 e, .string s] w fun r w' => r = .returned (.bool true) ∧ Below w.heap.size w w' := by
  go_enter Try.func3, Try.ntmps3
  go_wp2_with fail
  refine (H1.out _).mono ?_
  rintro r w1 ⟨v1, rfl, ho1, hb1⟩
  go_wp2_with fail
  refine (H2.out _).mono ?_
  rintro r w2 ⟨v2, rfl, ho2, hb2⟩
  have hS := hid (SameNumbers_any l v1 v2 _ _ w2 hl (ho1.below hb2) ho2)
  have hB := hb1.trans (hb2.mono hb1.size)
  clear ho1 ho2
  go_wp2_with fail
  refine hS.out.mono ?_
  rintro r w3 ⟨rfl, hb3⟩
  go_wp2_with fail
  refine (decodes_law _).mono ?_
  rintro r w4 ⟨rfl, hb4⟩
  go_wp2_with fail
  go_ret
  have hB3 := hB.trans (hb3.mono hB.size)
  exact ⟨rfl, hB3.trans (hb4.mono hB3.size)⟩
end Go.Proofs.Ytpkifomoffhpdaa
