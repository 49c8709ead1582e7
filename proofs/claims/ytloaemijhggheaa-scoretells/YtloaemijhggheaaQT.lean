/- 2 texts of this proof in one file: RefW, PureT. -/
import Derived.Test.YtloaemijhggheaaPieceT
import Derived.Test.YtloaemijhggheaaErrW
/- The reference's WholeOf, once for every encoding, out of what its pieces do. -/
namespace Go.Proofs.Ytloaemijhggheaa
open Go.RowKit
attribute [local go_sem ↓] run_eqS run_neS
attribute [local go_sem] byte_at0 byte_at20 byte_at21 w64 S.v and63 and31 and15 and7 kw kw256

/-- What the pieces of an encoding do: each tells what the machine tells of its bytes. -/
structure Pieces (e : Int) (M : Mach) (qm : Int → M.Q) (okm : Int → Prop) : Prop where
  start : qm 0 = M.init ∧ okm 0
  done : ∀ md, okm md → M.fin (qm md) = []
  piece : ∀ (s : ByteArray) (md : Int), 0 < s.size → s.size ≤ 4000 → okm md → ∃ (l : List Int) (n : Nat) (m : Int), okm m ∧ 0 < n ∧ n ≤ s.size ∧ l.length ≤ 1 ∧
    (∀ w, Calls Try.prog 43 #[.int .i64 e, .string s, .int .i64 md] w (PP w l (n : Int) m)) ∧ M.dec (qm md) s.data.toList = l ++ M.dec (qm m) (s.data.toList.drop n)
/-- What holds at the head of WholeOf's loop. -/
def RefR {M : Mach} (qm : Int → M.Q) (okm : Int → Prop) (s0 : ByteArray) (w : World) (s1 s6 s7 : Value) (wr : World) : Prop :=
  ∃ (t : ByteArray) (md : Int) (acc : List Int), s1 = .string t ∧ s7 = .int .i64 md ∧ Out wr w.heap.size s6 acc ∧ Below w.heap.size w wr ∧ okm md ∧ acc.length + t.size ≤ s0.size ∧
    M.dec M.init s0.data.toList = acc ++ M.dec (qm md) t.data.toList
/-- How many bytes a slot's string has. -/
def strLen : Value → Nat
  | .string t => t.size
  | _ => 0
theorem cut_list (t : ByteArray) (n : Nat) : (t.extract n t.size).data.toList = t.data.toList.drop n := by simp [List.take_of_length_le]
theorem cut_size (t : ByteArray) (n : Nat) (_h : n ≤ t.size) : (t.extract n t.size).size = t.size - n := by simp
set_option maxRecDepth 100000 in
set_option maxHeartbeats 1000000 in
theorem wholeOf_any {e : Int} {M : Mach} {qm : Int → M.Q} {okm : Int → Prop} (P : Pieces e M qm okm) (s : ByteArray) (w : World) (h1 : 1 ≤ e) (h2 : e ≤ 6) (hs : s.size ≤ 4000) : Calls Try.prog 15 #[.int .i64 e, .string s] w (POE w (M.dec M.init s.data.toList) 0) := by
  have hR : RefR qm okm s w (.string s) (.slice none 0 0) (.int .i64 0) w := ⟨s, 0, [], rfl, rfl, Out.nil _ _, Below.refl _ _, P.start.2, by simp, by rw [P.start.1]; rfl⟩
  replace hR := hid hR
  go_enter Try.func15, Try.ntmps15
  go_wp2_with fail
  go_loopw [1, 6, 7] (fun s1 s6 s7 wr => RefR qm okm s w s1 s6 s7 wr) (fun s1 _ _ _ => strLen s1)
  case atStart => exact hR.out
  case round =>
    clear hR
    obtain ⟨t, md, acc, rfl, rfl, ho, hb, hm, hl, hd⟩ := hrel
    replace hd := hid hd
    by_cases h0 : 0 < t.size
    · obtain ⟨l, n, m, hm2, hn1, hn2, hl1, HP, hd2⟩ := P.piece t md h0 (by omega) hm
      replace HP := hid HP
      replace hd2 := hid hd2
      have e0 : (t.toList == []) = false := by
        cases hx : t.toList == [] with
        | false => rfl
        | true =>
          have hz := congrArg List.length (eq_of_beq hx)
          rw [ByteArray.toList_eq] at hz
          have hz2 : t.size = 0 := hz
          omega
      have e1 : (!(t.toList == [])) = true := by rw [e0]; rfl
      have e2 : t.toList.isEmpty = false := by cases hk : t.toList <;> simp_all
      have e3 : ¬ t.toList = [] := by intro x; rw [x] at e0; cases e0
      have b0 : (0 : Int) ≤ (n : Int) := by omega
      have b1 : (n : Int) ≤ (t.size : Int) := by omega
      go_wp2_with fail
      refine (HP.out _).mono ?_
      rintro r w1 ⟨v, rfl, ho1, hb1⟩
      have hA := ho.below hb1
      have hB := hb.trans (hb1.mono hb.size)
      go_wp2_with (at_builtin; refine list_appO rfl (.tmp 30) (.tmp 31) rfl (v := u6) (v2 := v) rfl rfl hA ho1 hB.size (by omega) ?_; intro v2 w2 ho2 hb2)
      go_roundw
      case rel => exact ⟨t.extract n t.size, m, acc ++ l, rfl, rfl, ho2, hB.trans hb2, hm2, by rw [cut_size t n hn2]; simp; omega, by rw [hd.out, hd2.out, cut_list, List.append_assoc]⟩
      case measure => simp only [strLen]; rw [cut_size t n hn2]; omega
    · obtain rfl : t = ⟨#[]⟩ := by
        obtain ⟨⟨l⟩⟩ := t
        match l with
        | [] => rfl
        | a :: r => exact absurd (Nat.succ_pos _) h0
      have hx : M.dec M.init s.data.toList = acc := by
        rw [hd.out]
        have : M.dec (qm md) (⟨#[]⟩ : ByteArray).data.toList = [] := by rw [show (⟨#[]⟩ : ByteArray).data.toList = [] from rfl, Mach.dec_nil]; exact P.done md hm
        rw [this, List.append_nil]
      have ho' : Out wr w.heap.size u6 (M.dec M.init s.data.toList) := by rw [hx]; exact ho
      clear hx hd h0 ho
      go_wp2_with fail
      go_ret2
      exact ⟨u6, rfl, ho', hb⟩
set_option maxRecDepth 100000 in
set_option maxHeartbeats 400000 in
theorem wholeOf_kind (e : Int) (s : ByteArray) (w : World) (h : ¬ (1 ≤ e ∧ e ≤ 6)) : Calls Try.prog 15 #[.int .i64 e, .string s] w (POE w [] 2) := by
  obtain hx | ⟨hx, hy⟩ : e < 1 ∨ (¬ e < 1 ∧ 6 < e) := by omega
  all_goals
    clear h
    go_enter Try.func15, Try.ntmps15
    go_wp2_with fail
    go_ret2
    exact ⟨_, rfl, Out.nil _ _, Below.refl _ _⟩
set_option maxRecDepth 100000 in
set_option maxHeartbeats 400000 in
theorem wholeOf_long (e : Int) (s : ByteArray) (w : World) (h1 : 1 ≤ e) (h2 : e ≤ 6) (hd : decide ((4000 : Int) < (s.size : Int)) = true) : Calls Try.prog 15 #[.int .i64 e, .string s] w (POE w [] 4) := by
  go_enter Try.func15, Try.ntmps15
  go_wp2_with fail
  go_ret2
  exact ⟨_, rfl, Out.nil _ _, Below.refl _ _⟩
set_option maxRecDepth 100000 in
set_option maxHeartbeats 400000 in
theorem law_of (e n : Int) (s : ByteArray) (l : List Int) (w : World) (hl : l.length ≤ 100000) (H1 : Hid (∀ w1, Calls Try.prog 14 #[.int .i64 e, .string s] w1 (POE w1 l n))) (H2 : Hid (∀ w1, Calls Try.prog 15 #[.int .i64 e, .string s] w1 (POE w1 l n))) :
    Calls Try.prog 3 #[.int .i64 e, .string s] w fun r w' => r = .returned (.bool true) ∧ Below w.heap.size w w' := by
  go_enter Try.func3, Try.ntmps3
  go_wp2_with fail
  refine (H1.out _).mono ?_
  rintro r w1 ⟨v1, rfl, ho1, hb1⟩
  go_wp2_with fail
  refine (H2.out _).mono ?_
  rintro r w2 ⟨v2, rfl, ho2, hb2⟩
  have hS := hid (SameNumbers_any l v1 v2 _ _ w2 hl (ho1.below hb2) ho2)
  have hB := hb1.trans (hb2.mono hb1.size)
  clear ho1 ho2
  go_wp2_with fail
  refine hS.out.mono ?_
  rintro r w3 ⟨rfl, hb3⟩
  go_wp2_with fail
  refine (decodes_law _).mono ?_
  rintro r w4 ⟨rfl, hb4⟩
  go_wp2_with fail
  go_ret
  have hB3 := hB.trans (hb3.mono hB.size)
  exact ⟨rfl, hB3.trans (hb4.mono hB3.size)⟩
end Go.Proofs.Ytloaemijhggheaa

/- Plain mathematics of pieces: a byte that is refused; Twin's pieces. -/
namespace Go.Proofs.Ytloaemijhggheaa
open Go.RowKit

theorem Con.enough {e : Int} {M : Mach} (C : Con e M) (b : UInt8) : ∀ n q, M.ok q → M.rank q < n → M.procF n q b = M.proc q b := by
  intro n
  induction n using Nat.strongRecOn with
  | ind n ih =>
    intro q hq hr
    obtain ⟨k, rfl⟩ : ∃ k, n = k + 1 := ⟨n - 1, by omega⟩
    unfold Mach.proc
    unfold Mach.procF
    cases ha : (M.offer q b).2.2 with
    | false => rfl
    | true =>
      have h1 := C.law.drop q b hq ha
      have h2 := C.law.step q b hq
      rw [ih k (by omega) _ h2 (by omega), ih (M.rank q) (by omega) _ h2 h1]
theorem Con.refuse {e : Int} {M : Mach} (C : Con e M) {q q' : M.Q} {b : UInt8} {l : List Int} (r : List UInt8) (hq : M.ok q) (h : M.offer q b = (q', l, true)) : M.dec q (b :: r) = l ++ M.dec q' (b :: r) := by
  have h1 := C.law.drop q b hq (by rw [h])
  have h2 := C.law.step q b hq
  rw [h] at h1 h2
  have hp : M.proc q b = ((M.proc q' b).1, l ++ (M.proc q' b).2) := by
    have e1 := C.enough b (M.rank q) q' h2 h1
    unfold Mach.proc
    unfold Mach.procF
    rw [h]
    simp only [if_true]
    rw [e1]
    rfl
  unfold Mach.dec
  simp only [Mach.feed, hp]
  simp
theorem list_of (s : ByteArray) (h : 0 < s.size) : s.data.toList = s[0] :: s.data.toList.drop 1 := by
  have : s.data.toList = s.data.toList.drop 0 := rfl
  conv => lhs; rw [this, List.drop_eq_getElem_cons (by simpa using h)]
  rfl
theorem list_of1 (s : ByteArray) (h : 1 < s.size) : s.data.toList.drop 1 = s[1] :: s.data.toList.drop 2 := by
  rw [List.drop_eq_getElem_cons (by simpa using h)]
  rfl
theorem list_end (s : ByteArray) (n : Nat) (h : s.size ≤ n) : s.data.toList.drop n = [] := List.drop_eq_nil_of_le (by simpa using h)
theorem gl_at (s : ByteArray) (i : Nat) (h : i < s.size) : gl s i = nb s[i] := by unfold gl; rw [dif_pos h]
theorem gl_off (s : ByteArray) (i : Nat) (h : s.size ≤ i) : gl s i = -1 := by unfold gl; rw [dif_neg (by omega)]

def decT (q : Option UInt8) (l : List UInt8) : List Int := mT.dec q l
theorem decT_once {q q' : Option UInt8} {b : UInt8} {l : List Int} (r : List UInt8) (h : twOffer q b = (q', l, false)) : decT q (b :: r) = l ++ decT q' r := Mach.dec_once (M := mT) r h
theorem decT_refuse {b k : UInt8} {l : List Int} (r : List UInt8) (hk : twOk (some k)) (h : twOffer (some k) b = (none, l, true)) : decT (some k) (b :: r) = l ++ decT none (b :: r) := conT.refuse (q := some k) r hk h
theorem decT_nil (q : Option UInt8) : decT q [] = optFin q := Mach.dec_nil (M := mT) q
theorem twA (b : UInt8) (h : nb b < 128) : twOffer none b = (none, [nb b], false) := by
  simp only [twOffer]; unfold firstT; rw [if_pos h]
theorem twB (b : UInt8) (h1 : 161 ≤ nb b) (h2 : nb b ≤ 223) : twOffer none b = (none, [65377 + nb b - 161], false) := by
  simp only [twOffer]; unfold firstT; rw [if_neg (by omega), if_pos ⟨h1, h2⟩]
theorem twC (b : UInt8) (h0 : 128 ≤ nb b) (h1 : ¬ (161 ≤ nb b ∧ nb b ≤ 223)) (h2 : ¬ (129 ≤ nb b ∧ nb b ≤ 159)) : twOffer none b = (none, [-1], false) := by
  simp only [twOffer]; unfold firstT; rw [if_neg (by omega), if_neg h1, if_neg h2]
theorem twD (b : UInt8) (h1 : 129 ≤ nb b) (h2 : nb b ≤ 159) : twOffer none b = (some b, [], false) := by
  simp only [twOffer]; unfold firstT; rw [if_neg (by omega), if_neg (by omega), if_pos ⟨h1, h2⟩]
theorem twE (b c : UInt8) (h1 : 64 ≤ nb c) (h2 : nb c ≤ 126) : twOffer (some b) c = (none, [19968 + 188 * (nb b - 129) + nb c - 64], false) := by
  simp only [twOffer]; unfold secondT; rw [if_pos ⟨h1, h2⟩]
theorem twF (b c : UInt8) (h1 : 128 ≤ nb c) (h2 : nb c ≤ 252) : twOffer (some b) c = (none, [19968 + 188 * (nb b - 129) + nb c - 65], false) := by
  simp only [twOffer]; unfold secondT; rw [if_neg (by omega), if_pos ⟨h1, h2⟩]
theorem twG (b c : UInt8) (a : Bool) (h1 : ¬ (64 ≤ nb c ∧ nb c ≤ 126)) (h2 : ¬ (128 ≤ nb c ∧ nb c ≤ 252)) (ha : decide (nb c ≤ 127) = a) : twOffer (some b) c = (none, [-1], a) := by
  simp only [twOffer]; unfold secondT; rw [if_neg h1, if_neg h2, ha]
theorem piecesT : Pieces 3 mT (fun _ => none) (fun md => md = 0) where
  start := ⟨rfl, rfl⟩
  done := fun _ _ => rfl
  piece := fun s md hs _ _ => by
    have hl := list_of s hs
    show ∃ (l : List Int) (n : Nat) (m : Int), m = 0 ∧ 0 < n ∧ n ≤ s.size ∧ l.length ≤ 1 ∧ _ ∧ decT none s.data.toList = l ++ decT none (s.data.toList.drop n)
    by_cases h1 : nb s[0] < 128
    · exact ⟨[nb s[0]], 1, 0, rfl, by omega, by omega, Nat.le_refl 1, fun w => pieceT_a s md w hs h1, by conv => lhs; rw [hl, decT_once _ (twA _ h1)]⟩
    by_cases h2 : 161 ≤ nb s[0] ∧ nb s[0] ≤ 223
    · exact ⟨[65377 + nb s[0] - 161], 1, 0, rfl, by omega, by omega, Nat.le_refl 1, fun w => pieceT_b s md w hs h2.1 h2.2, (congrArg (decT none) hl).trans (decT_once _ (twB _ h2.1 h2.2))⟩
    by_cases h3 : 129 ≤ nb s[0] ∧ nb s[0] ≤ 159
    · have hd : decT none s.data.toList = decT (some s[0]) (s.data.toList.drop 1) := by
        conv => lhs; rw [hl, decT_once _ (twD _ h3.1 h3.2)]
        rfl
      by_cases hz : 1 < s.size
      · have hg := gl_at s 1 hz
        have hl1 := list_of1 s hz
        have hc := nb_lt s[1]
        by_cases a1 : 64 ≤ nb s[1] ∧ nb s[1] ≤ 126
        · exact ⟨[19968 + 188 * (nb s[0] - 129) + gl s 1 - 64], 2, 0, rfl, by omega, by omega, Nat.le_refl 1, fun w => pieceT_d s md w hs h3.1 h3.2 (by omega) (by omega), by rw [hd, hl1, decT_once _ (twE _ _ a1.1 a1.2), hg]; rfl⟩
        by_cases a2 : 128 ≤ nb s[1] ∧ nb s[1] ≤ 252
        · exact ⟨[19968 + 188 * (nb s[0] - 129) + gl s 1 - 65], 2, 0, rfl, by omega, by omega, Nat.le_refl 1, fun w => pieceT_e s md w hs h3.1 h3.2 (by omega) (by omega), by rw [hd, hl1, decT_once _ (twF _ _ a2.1 a2.2), hg]; rfl⟩
        by_cases a3 : nb s[1] ≤ 127
        · exact ⟨[-1], 1, 0, rfl, by omega, by omega, Nat.le_refl 1, fun w => pieceT_g s md w hs h3.1 h3.2 (by omega), by rw [hd, hl1, decT_refuse _ h3 (twG _ _ true a1 a2 (by simp [a3]))]⟩
        · exact ⟨[-1], 2, 0, rfl, by omega, by omega, Nat.le_refl 1, fun w => pieceT_f s md w hs h3.1 h3.2 (by omega), by rw [hd, hl1, decT_once _ (twG _ _ false a1 a2 (by simp; omega))]⟩
      · have hg := gl_off s 1 (by omega)
        exact ⟨[-1], 1, 0, rfl, by omega, by omega, Nat.le_refl 1, fun w => pieceT_g s md w hs h3.1 h3.2 (by omega), by rw [hd, list_end s 1 (by omega), decT_nil, decT_nil]; rfl⟩
    · exact ⟨[-1], 1, 0, rfl, by omega, by omega, Nat.le_refl 1, fun w => pieceT_c s md w hs (by unfold nb at h1; omega) h2 h3, by conv => lhs; rw [hl, decT_once _ (twC _ (by omega) h2 h3)]⟩
end Go.Proofs.Ytloaemijhggheaa
