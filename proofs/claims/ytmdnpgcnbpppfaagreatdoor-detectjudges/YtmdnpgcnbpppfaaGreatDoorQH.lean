/- 3 texts of this proof in one file: DeM, DeC, DeH. -/
import Derived.Test.YtmdnpgcnbpppfaaGreatDoorQS
import Derived.Test.YtmdnpgcnbpppfaaGreatDoorApp
/- The detector as a plain machine; what is final stays. -/
namespace Go.Proofs.YtmdnpgcnbpppfaaGreatDoor

theorem markL_in (l : List UInt8) : (markL l).1 = 0 ∧ (markL l).2 = 0 ∨ (markL l).1 = 1 ∧ (markL l).2 = 3 ∨ (markL l).1 = 5 ∧ (markL l).2 = 2 ∨ (markL l).1 = 6 ∧ (markL l).2 = 2 := by
  unfold markL
  split
  · simp
  split
  · simp
  split <;> simp
theorem findL_in (l : List UInt8) : 0 ≤ findL l ∧ findL l ≤ 6 := by
  unfold findL
  split
  · omega
  · unfold labelOf
    repeat' split
    all_goals omega
theorem asUtf_in (e : Int) (h : 0 ≤ e ∧ e ≤ 6) : 0 ≤ asUtf e ∧ asUtf e ≤ 4 := by unfold asUtf; split <;> omega
theorem bodyL_in (p : UInt8 → Bool) (v : List UInt8) (e : Int) (h : bodyL p v = .hit e) : e ≤ 4 := by
  unfold bodyL at h
  split at h
  · cases h
  split at h
  · cases h
  split at h
  · cases h; exact (asUtf_in _ (findL_in _)).2
  · cases h
theorem atL_in (r : List UInt8) (e : Int) (h : atL r = .hit e) : e ≤ 4 := by
  unfold atL at h
  split at h
  · split at h <;> cases h
  split at h
  · unfold valL at h
    split at h <;> exact bodyL_in _ _ _ h
  · cases h
theorem srchL_in : ∀ r : List UInt8, srchL r ≤ 4
  | [] => by simp [srchL]
  | b :: r => by
    simp only [srchL]
    cases hx : atL (b :: r) with
    | stop => simp
    | skip => exact srchL_in r
    | hit e => exact atL_in _ _ hx
theorem labelL_in (l : List UInt8) : 0 ≤ (labelL l).1 ∧ (labelL l).1 ≤ 4 := by
  have h1 := srchL_nonneg (l.take 256)
  have h2 := srchL_in (l.take 256)
  unfold labelL
  split <;> simp <;> omega

/-- The encoding and the reason. -/
def judgeP (best : List UInt8 → Int) (h : Int) (l : List UInt8) : Int × Int :=
  if 0 < (markL l).1 then ((markL l).1, 1)
  else if 1 ≤ h ∧ h ≤ 6 then (h, 2)
  else if 0 < (labelL l).1 then ((labelL l).1, 3)
  else if 0 < best l then (best l, 4) else (4, 0)
/-- Whether it cannot be another one any more. -/
def finP (ended : Bool) (c : Int) (l : List UInt8) : Bool := ended || (c == 1 || ((c == 2 || c == 3) && !mayL l))
theorem judgeP_in (best : List UInt8 → Int) (hb : ∀ l, 0 ≤ best l ∧ best l ≤ 6) (h : Int) (l : List UInt8) : 1 ≤ (judgeP best h l).1 ∧ (judgeP best h l).1 ≤ 6 ∧ 0 ≤ (judgeP best h l).2 ∧ (judgeP best h l).2 ≤ 4 := by
  have h1 := markL_in l
  have h2 := labelL_in l
  have h3 := hb l
  unfold judgeP
  split
  · simp; omega
  split
  · simp; omega
  split
  · simp; omega
  split <;> simp <;> omega
/-- What is final stays, whatever comes. -/
theorem judge_stays (best : List UInt8 → Int) (h : Int) (l t : List UInt8) (hf : finP false (judgeP best h l).2 l = true) :
    judgeP best h (l ++ t) = judgeP best h l ∧ finP false (judgeP best h (l ++ t)).2 (l ++ t) = true := by
  have hi := markL_in l
  by_cases h1 : 0 < (markL l).1
  · have e1 : judgeP best h l = ((markL l).1, 1) := if_pos h1
    have hm := mark_stays l t (.inl (by omega))
    have e2 : judgeP best h (l ++ t) = ((markL l).1, 1) := by
      unfold judgeP; rw [hm.1, if_pos h1]
    rw [e1, e2]
    exact ⟨rfl, rfl⟩
  · have e0 : ∀ x, 0 < (markL x).1 ∨ judgeP best h x = if 1 ≤ h ∧ h ≤ 6 then (h, 2) else if 0 < (labelL x).1 then ((labelL x).1, 3) else if 0 < best x then (best x, 4) else (4, 0) := fun x => by
      by_cases hx : 0 < (markL x).1
      · exact .inl hx
      · exact .inr (by unfold judgeP; rw [if_neg hx])
    have e1 := (e0 l).resolve_left h1
    have key : ∀ (_ : mayL l = false), markL (l ++ t) = markL l ∧ mayL (l ++ t) = false := fun hm => mark_stays l t (.inr hm)
    by_cases h2 : 1 ≤ h ∧ h ≤ 6
    · rw [if_pos h2] at e1
      rw [e1] at hf ⊢
      have hm : mayL l = false := by simpa [finP] using hf
      obtain ⟨k1, k2⟩ := key hm
      have e2 := (e0 (l ++ t)).resolve_left (by rw [k1]; exact h1)
      rw [if_pos h2] at e2
      rw [e2]
      exact ⟨rfl, by simp [finP, k2]⟩
    · rw [if_neg h2] at e1
      by_cases h3 : 0 < (labelL l).1
      · rw [if_pos h3] at e1
        rw [e1] at hf ⊢
        have hm : mayL l = false := by simpa [finP] using hf
        obtain ⟨k1, k2⟩ := key hm
        have e2 := (e0 (l ++ t)).resolve_left (by rw [k1]; exact h1)
        have k3 := labelL_stays l t (labelL_some l (by omega))
        rw [if_neg h2, k3, if_pos h3] at e2
        rw [e2]
        exact ⟨rfl, by simp [finP, k2]⟩
      · rw [if_neg h3] at e1
        rw [e1] at hf
        split at hf <;> simp [finP] at hf

/-- A verdict, a reply, a detector. -/
structure Vd where
  enc : Int
  why : Int
  fin : Bool
structure Rp where
  code : Int
  vd : Vd
  out : List Int
structure Dt where
  hint : Int
  l : List UInt8
  ended : Bool
  acts : Nat
def Vd.zero : Vd := ⟨0, 0, false⟩
def Rp.err (c : Int) : Rp := ⟨c, .zero, []⟩
/-- What the bytes tell in an encoding; a mark of it is not told. -/
def tellP (dec : Int → List UInt8 → List Int) (e : Int) (l : List UInt8) : List Int :=
  dec e (if 0 < (markL l).1 ∧ (markL l).1 = e then l.drop (markL l).2.toNat else l)
def Dt.verdict (best : List UInt8 → Int) (d : Dt) : Vd :=
  ⟨(judgeP best d.hint d.l).1, (judgeP best d.hint d.l).2, finP d.ended (judgeP best d.hint d.l).2 d.l⟩
/-- One act. -/
def Dt.act (best : List UInt8 → Int) (dec : Int → List UInt8 → List Int) (d : Dt) (k : Int) (b : List UInt8) : Rp × Dt :=
  if d.acts = 300 then (.err 5, d)
  else if k < 1 ∨ 3 < k then (.err 2, { d with acts := d.acts + 1 })
  else if k = 2 then (⟨0, d.verdict best, []⟩, { d with acts := d.acts + 1 })
  else if d.ended then (.err 3, { d with acts := d.acts + 1 })
  else if k = 3 then (⟨0, Dt.verdict best { d with ended := true }, tellP dec (judgeP best d.hint d.l).1 d.l⟩, { d with ended := true, acts := d.acts + 1 })
  else if 4000 < d.l.length + b.length then (.err 4, { d with acts := d.acts + 1 })
  else (⟨0, .zero, []⟩, { d with l := d.l ++ b, acts := d.acts + 1 })
/-- Some acts, in order. -/
def Dt.acts_ (best : List UInt8 → Int) (dec : Int → List UInt8 → List Int) (d : Dt) : List (Int × List UInt8) → Dt
  | [] => d
  | (k, b) :: r => (Dt.act best dec d k b).2.acts_ best dec r
variable (best : List UInt8 → Int) (dec : Int → List UInt8 → List Int)
theorem act_hint (d : Dt) (k : Int) (b : List UInt8) : (Dt.act best dec d k b).2.hint = d.hint := by
  unfold Dt.act; repeat' split
  all_goals rfl
theorem act_count (d : Dt) (k : Int) (b : List UInt8) (h : d.acts ≠ 300) : (Dt.act best dec d k b).2.acts = d.acts + 1 := by
  unfold Dt.act; rw [if_neg h]; repeat' split
  all_goals rfl
theorem act_full (d : Dt) (k : Int) (b : List UInt8) (h : d.acts = 300) : Dt.act best dec d k b = (.err 5, d) := by
  unfold Dt.act; rw [if_pos h]
theorem act_code (d : Dt) (k : Int) (b : List UInt8) : 0 ≤ (Dt.act best dec d k b).1.code ∧ (Dt.act best dec d k b).1.code ≤ 5 := by
  unfold Dt.act; repeat' split
  all_goals simp [Rp.err]
/-- One that is refused changes nothing but the count. -/
theorem act_refused (d : Dt) (k : Int) (b : List UInt8) (h : (Dt.act best dec d k b).1.code ≠ 0) :
    (Dt.act best dec d k b).1 = .err (Dt.act best dec d k b).1.code ∧ (Dt.act best dec d k b).2.l = d.l ∧ (Dt.act best dec d k b).2.ended = d.ended ∧ (Dt.act best dec d k b).2.hint = d.hint := by
  unfold Dt.act at h ⊢
  split
  · exact ⟨rfl, rfl, rfl, rfl⟩
  rename_i h1
  rw [if_neg h1] at h
  split
  · exact ⟨rfl, rfl, rfl, rfl⟩
  rename_i h2
  rw [if_neg h2] at h
  split
  · rename_i h3
    rw [if_pos h3] at h; exact absurd rfl h
  rename_i h3
  rw [if_neg h3] at h
  split
  · exact ⟨rfl, rfl, rfl, rfl⟩
  rename_i h4
  rw [if_neg h4] at h
  split
  · rename_i h5
    rw [if_pos h5] at h; exact absurd rfl h
  rename_i h5
  rw [if_neg h5] at h
  split
  · exact ⟨rfl, rfl, rfl, rfl⟩
  · rename_i h6
    rw [if_neg h6] at h; exact absurd rfl h
/-- The verdict does not hang on the count. -/
theorem verdict_same (a b : Dt) (h1 : a.hint = b.hint) (h2 : a.l = b.l) (h3 : a.ended = b.ended) : a.verdict best = b.verdict best := by
  unfold Dt.verdict; rw [h1, h2, h3]
/-- A verdict that is final is the verdict behind one act more, and final still. -/
theorem act_final (d : Dt) (k : Int) (b : List UInt8) (h : (d.verdict best).fin = true) : (Dt.act best dec d k b).2.verdict best = d.verdict best := by
  unfold Dt.act
  split
  · rfl
  split
  · rfl
  split
  · rfl
  split
  · rfl
  rename_i he
  have he : d.ended = false := by simpa using he
  split
  · unfold Dt.verdict at h ⊢
    simp only at h ⊢
    rw [h]; rfl
  split
  · rfl
  · unfold Dt.verdict at h ⊢
    simp only [he] at h ⊢
    obtain ⟨k1, k2⟩ := judge_stays best d.hint d.l b h
    rw [k1] at k2 ⊢
    rw [k2, h]
/-- The replies to some acts, in order. -/
def Dt.run (d : Dt) : List (Int × List UInt8) → List Rp
  | [] => []
  | (k, b) :: r => (Dt.act best dec d k b).1 :: Dt.run (Dt.act best dec d k b).2 r
theorem run_len : ∀ (d : Dt) (l : List (Int × List UInt8)), (d.run best dec l).length = l.length
  | _, [] => rfl
  | d, (k, b) :: r => by simp only [Dt.run, List.length_cons, run_len (Dt.act best dec d k b).2 r]
theorem run_take : ∀ (d : Dt) (l : List (Int × List UInt8)) (n : Nat), d.run best dec (l.take n) = (d.run best dec l).take n
  | _, [], n => by simp [Dt.run]
  | _, _ :: _, 0 => by simp [Dt.run]
  | d, (k, b) :: r, n + 1 => by simp only [Dt.run, List.take_succ_cons, run_take (Dt.act best dec d k b).2 r n]
theorem acts_snoc : ∀ (d : Dt) (l : List (Int × List UInt8)) (k : Int) (b : List UInt8), d.acts_ best dec (l ++ [(k, b)]) = (Dt.act best dec (d.acts_ best dec l) k b).2
  | _, [], _, _ => rfl
  | d, (k1, b1) :: r, k, b => by simp only [List.cons_append, Dt.acts_, acts_snoc (Dt.act best dec d k1 b1).2 r k b]
theorem run_snoc : ∀ (d : Dt) (l : List (Int × List UInt8)) (k : Int) (b : List UInt8), d.run best dec (l ++ [(k, b)]) = d.run best dec l ++ [(Dt.act best dec (d.acts_ best dec l) k b).1]
  | _, [], _, _ => rfl
  | d, (k1, b1) :: r, k, b => by simp only [List.cons_append, Dt.run, Dt.acts_, run_snoc (Dt.act best dec d k1 b1).2 r k b]
theorem acts_count : ∀ (d : Dt) (l : List (Int × List UInt8)), d.acts + l.length ≤ 300 → (d.acts_ best dec l).acts = d.acts + l.length
  | _, [], _ => rfl
  | d, (k, b) :: r, h => by
    simp only [List.length_cons] at h
    have h1 := act_count best dec d k b (by omega)
    have h2 := acts_count (Dt.act best dec d k b).2 r (by omega)
    simp only [Dt.acts_, List.length_cons]
    rw [h2, h1]; omega
theorem acts_hint : ∀ (d : Dt) (l : List (Int × List UInt8)), (d.acts_ best dec l).hint = d.hint
  | _, [] => rfl
  | d, (k, b) :: r => by simp only [Dt.acts_, acts_hint (Dt.act best dec d k b).2 r, act_hint]
theorem act_long (d : Dt) (k : Int) (b : List UInt8) (h : d.l.length ≤ 4000) : (Dt.act best dec d k b).2.l.length ≤ 4000 := by
  unfold Dt.act
  repeat' split
  all_goals first
    | exact h
    | (simp only [List.length_append]; omega)
theorem acts_long : ∀ (d : Dt) (l : List (Int × List UInt8)), d.l.length ≤ 4000 → (d.acts_ best dec l).l.length ≤ 4000
  | _, [], h => h
  | d, (k, b) :: r, h => acts_long (Dt.act best dec d k b).2 r (act_long best dec d k b h)
/-- A mark in front. -/
theorem judge_mark (h : Int) (l : List UInt8) (hm : 0 < (markL l).1) : judgeP best h l = ((markL l).1, 1) := if_pos hm
theorem tell_mark (l : List UInt8) (hm : 0 < (markL l).1) : tellP dec (markL l).1 l = dec (markL l).1 (l.drop (markL l).2.toNat) := by
  unfold tellP; rw [if_pos ⟨hm, rfl⟩]
theorem mark_utf (s : List UInt8) : markL (239 :: 187 :: 191 :: s) = (1, 3) := by simp [markL]
theorem mark_low (s : List UInt8) : markL (255 :: 254 :: s) = (5, 2) := by simp [markL]
theorem mark_high (s : List UInt8) : markL (254 :: 255 :: s) = (6, 2) := by simp [markL]
/-- What was found by scores. -/
theorem judge_scored (h : Int) (l : List UInt8) (hj : (judgeP best h l).2 = 4) : (judgeP best h l).1 = best l ∧ 0 < best l ∧ tellP dec (best l) l = dec (best l) l := by
  unfold judgeP at hj ⊢
  by_cases h1 : 0 < (markL l).1
  · rw [if_pos h1] at hj; simp at hj
  rw [if_neg h1] at hj ⊢
  by_cases h2 : 1 ≤ h ∧ h ≤ 6
  · rw [if_pos h2] at hj; simp at hj
  rw [if_neg h2] at hj ⊢
  by_cases h3 : 0 < (labelL l).1
  · rw [if_pos h3] at hj; simp at hj
  rw [if_neg h3] at hj ⊢
  by_cases h4 : 0 < best l
  · rw [if_pos h4]
    exact ⟨rfl, h4, by unfold tellP; rw [if_neg (fun k => h1 k.1)]⟩
  · rw [if_neg h4] at hj; simp at hj
end Go.Proofs.YtmdnpgcnbpppfaaGreatDoor

/- What is known of a detector's functions, whatever it keeps. -/
namespace Go.Proofs.YtmdnpgcnbpppfaaGreatDoor
open Go.RowKit

/-- Outside F nothing that was there has changed. -/
structure Only (F : Nat → Prop) (w w' : World) : Prop where
  os : w'.os = w.os
  tape : w'.tape = w.tape
  output : w'.output = w.output
  size : w.heap.size ≤ w'.heap.size
  block : ∀ k, k < w.heap.size → ¬ F k → w'.heap[k]? = w.heap[k]?
theorem Only.below {F : Nat → Prop} {w w' : World} (h : Only F w w') {B : Nat} (hB : B ≤ w.heap.size) (hF : ∀ k, F k → B ≤ k) : Below B w w' :=
  ⟨h.os, h.tape, h.output, h.size, fun k hk => h.block k (by omega) (fun x => by have := hF k x; omega)⟩
theorem Only.of {w w' : World} (F : Nat → Prop) (h : Below w.heap.size w w') : Only F w w' := ⟨h.os, h.tape, h.output, h.size, fun k hk _ => h.block k hk⟩
theorem Only.cell {F : Nat → Prop} {w w' : World} (h : Only F w w') {b : Nat} (h1 : b < w.heap.size) (h2 : ¬ F b) (i : Nat) : w'.cell? ⟨b, i, none⟩ = w.cell? ⟨b, i, none⟩ := World.cell?_of_block (a := ⟨b, i, none⟩) (h.block b h1 h2)
theorem ba_eq {a b : ByteArray} {l : List UInt8} (h1 : a.data.toList = l) (h2 : b.data.toList = l) : a = b := ByteArray.ext (Array.ext' (h1.trans h2.symm))
/-- Are two verdicts the same? -/
def vEq (a b : Vd) : Bool := a.enc == b.enc && (a.why == b.why && a.fin == b.fin)
theorem vEq_self (a : Vd) : vEq a a = true := by simp [vEq]
set_option maxHeartbeats 1000000 in
theorem eqIn_V (w : World) (a b : Vd) : (Op.equalIn 10000 24 (.agg #[.int .i64 a.enc, .int .i64 a.why, .bool a.fin]) (.agg #[.int .i64 b.enc, .int .i64 b.why, .bool b.fin])).run Tryz.prog w = .ok (vEq a b) w := by
  unfold vEq
  cases h1 : a.enc == b.enc
  · go_simp
  cases h2 : a.why == b.why
  · go_simp
  cases h3 : a.fin == b.fin
  · go_simp
  go_simp
theorem run_eqV (w : World) (a0 a1 : Int) (a2 : Bool) (b0 b1 : Int) (b2 : Bool) :
    (binOp .eql 24 (.agg #[.int .i64 a0, .int .i64 a1, .bool a2]) (.agg #[.int .i64 b0, .int .i64 b1, .bool b2])).run Tryz.prog w = .ok (.bool (vEq ⟨a0, a1, a2⟩ ⟨b0, b1, b2⟩)) w := by
  rw [run_eql_struct, eqIn_V w ⟨a0, a1, a2⟩ ⟨b0, b1, b2⟩]; rfl
theorem run_neV (w : World) (a0 a1 : Int) (a2 : Bool) (b0 b1 : Int) (b2 : Bool) :
    (binOp .neq 24 (.agg #[.int .i64 a0, .int .i64 a1, .bool a2]) (.agg #[.int .i64 b0, .int .i64 b1, .bool b2])).run Tryz.prog w = .ok (.bool (!vEq ⟨a0, a1, a2⟩ ⟨b0, b1, b2⟩)) w := by
  rw [run_neq_struct, eqIn_V w ⟨a0, a1, a2⟩ ⟨b0, b1, b2⟩]; rfl
theorem fld_code (c e y : Int) (f : Bool) (A : Option Addr) (n k : Nat) (w : World) : (Instr.field 36 (.agg #[.int .i64 c, .int .i64 e, .int .i64 y, .bool f, .slice A n k]) 0).run Tryz.prog w = .ok (.int .i64 c) w := by kernel_rfl
theorem fld_verdict (c e y : Int) (f : Bool) (A : Option Addr) (n k : Nat) (w : World) : (Instr.field 36 (.agg #[.int .i64 c, .int .i64 e, .int .i64 y, .bool f, .slice A n k]) 1).run Tryz.prog w = .ok (.agg #[.int .i64 e, .int .i64 y, .bool f]) w := by kernel_rfl
theorem fld_out (c e y : Int) (f : Bool) (A : Option Addr) (n k : Nat) (w : World) : (Instr.field 36 (.agg #[.int .i64 c, .int .i64 e, .int .i64 y, .bool f, .slice A n k]) 2).run Tryz.prog w = .ok (.slice A n k) w := by kernel_rfl
/-- A reply as a value: its numbers, and its list. -/
def rpV (r : Rp) (A : Option Addr) (c : Nat) : Value := .agg #[.int .i64 r.code, .int .i64 r.vd.enc, .int .i64 r.vd.why, .bool r.vd.fin, .slice A r.out.length c]
/-- A call hands back a reply. -/
def PRp (w : World) (r : Rp) (e : Ending) (w' : World) : Prop := ∃ A c, e = .returned (rpV r A c) ∧ Out w' w.heap.size (.slice A r.out.length c) r.out
/-- A reply lies in a block. -/
structure Has5 (w : World) (b : Nat) (c e y : Int) (f : Bool) (A : Option Addr) (n k : Nat) : Prop where
  c0 : w.cell? ⟨b, 0, none⟩ = some (.int .i64 c)
  c1 : w.cell? ⟨b, 1, none⟩ = some (.int .i64 e)
  c2 : w.cell? ⟨b, 2, none⟩ = some (.int .i64 y)
  c3 : w.cell? ⟨b, 3, none⟩ = some (.bool f)
  c4 : w.cell? ⟨b, 4, none⟩ = some (.slice A n k)
theorem Has5.new (w : World) (c e y : Int) (f : Bool) (A : Option Addr) (n k : Nat) (t : TypeId) : Has5 (w.alloc (.cells #[.int .i64 c, .int .i64 e, .int .i64 y, .bool f, .slice A n k] t)) w.heap.size c e y f A n k := ⟨by simp [go_sem], by simp [go_sem], by simp [go_sem], by simp [go_sem], by simp [go_sem]⟩
theorem Has5.keep {w w' : World} {b : Nat} {c e y : Int} {f : Bool} {A : Option Addr} {n k : Nat} (h : Has5 w b c e y f A n k) (hk : w'.heap[b]? = w.heap[b]?) : Has5 w' b c e y f A n k :=
  have q : ∀ i, w'.cell? ⟨b, i, none⟩ = w.cell? ⟨b, i, none⟩ := fun i => World.cell?_of_block (a := ⟨b, i, none⟩) hk
  ⟨(q 0).trans h.c0, (q 1).trans h.c1, (q 2).trans h.c2, (q 3).trans h.c3, (q 4).trans h.c4⟩
theorem Has5.lt {w : World} {b : Nat} {c e y : Int} {f : Bool} {A : Option Addr} {n k : Nat} (h : Has5 w b c e y f A n k) : b < w.heap.size := World.block_lt_of_cell? w _ h.c0
theorem Has5.only {F : Nat → Prop} {w w' : World} {b : Nat} {c e y : Int} {f : Bool} {A : Option Addr} {n k : Nat} (h : Has5 w b c e y f A n k) (ho : Only F w w') (hn : ¬ F b) : Has5 w' b c e y f A n k := h.keep (ho.block b h.lt hn)
theorem Has5.below {w w' : World} {b : Nat} {c e y : Int} {f : Bool} {A : Option Addr} {n k : Nat} (h : Has5 w b c e y f A n k) (hb : Below w.heap.size w w') : Has5 w' b c e y f A n k := h.keep (hb.block b h.lt)
theorem Has5.alloc {w : World} {b : Nat} {c e y : Int} {f : Bool} {A : Option Addr} {n k : Nat} (h : Has5 w b c e y f A n k) (o : Obj) : Has5 (w.alloc o) b c e y f A n k := h.keep (Below.heap_alloc w o b h.lt)
theorem nF_next {F F' : Nat → Prop} {b n : Nat} (h : ¬ F b) (hF : ∀ k, F' k → F k ∨ n ≤ k) (hb : b < n) : ¬ F' b := fun x => by rcases hF b x with y | y; exact h y; omega
/-- What a detector's functions do, in a world that holds all that lay in W. -/
structure DetC (W : World) (best : List UInt8 → Int) (dec : Int → List UInt8 → List Int) where
  IsD : World → (Nat → Prop) → Addr → Dt → Prop
  keep : ∀ {w w' : World} {F : Nat → Prop} {a : Addr} {d : Dt}, IsD w F a d → (∀ k, F k → w'.heap[k]? = w.heap[k]?) → IsD w' F a d
  lt : ∀ {w : World} {F : Nat → Prop} {a : Addr} {d : Dt}, IsD w F a d → ∀ k, F k → W.heap.size ≤ k ∧ k < w.heap.size
  good : ∀ {w : World} {F : Nat → Prop} {a : Addr} {d : Dt}, IsD w F a d → d.l.length ≤ 4000 ∧ d.acts ≤ 300
  new : ∀ (s : ByteArray) (w : World), s.size ≤ 140737488355328 → Below W.heap.size W w → Calls Tryz.prog 16 #[.string s] w fun e w' =>
    ∃ a F, e = .returned (.pointer (some a)) ∧ IsD w' F a ⟨findL s.data.toList, [], false, 0⟩ ∧ (∀ k, F k → w.heap.size ≤ k) ∧ Below w.heap.size w w'
  act : ∀ {w : World} {F : Nat → Prop} {a : Addr} {d : Dt} (k : Int) (b : ByteArray), Below W.heap.size W w → IsD w F a d →
    Calls Tryz.prog 14 #[.pointer (some a), .agg #[.int .i64 k, .string b]] w fun e w' =>
    PRp w (Dt.act best dec d k b.data.toList).1 e w' ∧ ∃ F', IsD w' F' a (Dt.act best dec d k b.data.toList).2 ∧ (∀ k, F' k → F k ∨ w.heap.size ≤ k) ∧ Only F w w'
  bytes : ∀ {w : World} {F : Nat → Prop} {a : Addr} {d : Dt}, Below W.heap.size W w → IsD w F a d →
    Calls Tryz.prog 15 #[.pointer (some a)] w fun e w' => ∃ s : ByteArray, e = .returned (.string s) ∧ s.data.toList = d.l ∧ Below w.heap.size w w'
  find : ∀ (s : ByteArray) (w : World), s.size ≤ 140737488355328 → Below W.heap.size W w → Calls Tryz.prog 32 #[.string s] w fun e w' => e = .returned (.int .i64 (findL s.data.toList)) ∧ Below w.heap.size w w'
  judge : ∀ (h : Int) (s : ByteArray) (w : World), s.size ≤ 4000 → Below W.heap.size W w →
    Calls Tryz.prog 8 #[.int .i64 h, .string s] w fun e w' => e = .returned (.agg #[.int .i64 (judgeP best h s.data.toList).1, .int .i64 (judgeP best h s.data.toList).2, .bool false]) ∧ Below w.heap.size w w'
  tell : ∀ (x : Int) (s : ByteArray) (w : World), 1 ≤ x → x ≤ 6 → s.size ≤ 4000 → Below W.heap.size W w →
    Calls Tryz.prog 11 #[.int .i64 x, .string s] w fun e w' => (∃ A c, e = .returned (.slice A (tellP dec x s.data.toList).length c) ∧ Out w' w.heap.size (.slice A (tellP dec x s.data.toList).length c) (tellP dec x s.data.toList)) ∧ Below w.heap.size w w'
variable {W : World} {best : List UInt8 → Int} {dec : Int → List UInt8 → List Int}
theorem DetC.alloc (C : DetC W best dec) {w : World} {F : Nat → Prop} {a : Addr} {d : Dt} (h : C.IsD w F a d) (o : Obj) : C.IsD (w.alloc o) F a d := C.keep h fun k hk => Below.heap_alloc w o k (C.lt h k hk).2
theorem DetC.drew (C : DetC W best dec) {w : World} {F : Nat → Prop} {a : Addr} {d : Dt} (h : C.IsD w F a d) : C.IsD w.drew F a d := C.keep h fun _ _ => rfl
theorem DetC.drewN (C : DetC W best dec) {w : World} {F : Nat → Prop} {a : Addr} {d : Dt} (h : C.IsD w F a d) (n : Nat) : C.IsD (w.drewN n) F a d := C.keep h fun _ _ => rfl
theorem DetC.far (C : DetC W best dec) {w : World} {F : Nat → Prop} {a : Addr} {d : Dt} (h : C.IsD w F a d) {b : Nat} (hb : ¬ F b) (i : Nat) (u : Value) : C.IsD (w.setCell ⟨b, i, none⟩ u) F a d := C.keep h fun k hk => Below.heap_setCell w _ u k (fun e => hb (by subst e; exact hk))
theorem DetC.below (C : DetC W best dec) {w w' : World} {F : Nat → Prop} {a : Addr} {d : Dt} (h : C.IsD w F a d) (hb : Below w.heap.size w w') : C.IsD w' F a d := C.keep h fun k hk => hb.block k (C.lt h k hk).2
theorem DetC.nF (C : DetC W best dec) {w : World} {F : Nat → Prop} {a : Addr} {d : Dt} (h : C.IsD w F a d) {b : Nat} (hb : w.heap.size ≤ b) : ¬ F b := fun x => by have := (C.lt h b x).2; omega
/-- An act, with what comes of it: in one piece. -/
theorem DetC.act' (C : DetC W best dec) {w : World} {F : Nat → Prop} {a : Addr} {d : Dt} (k : Int) (b : ByteArray) (hw : Below W.heap.size W w) (h : C.IsD w F a d) :
    Calls Tryz.prog 14 #[.pointer (some a), .agg #[.int .i64 k, .string b]] w fun e w' =>
    PRp w (Dt.act best dec d k b.data.toList).1 e w' ∧ ∃ F', C.IsD w' F' a (Dt.act best dec d k b.data.toList).2 ∧ (∀ k, F' k → F k ∨ w.heap.size ≤ k) ∧ Only F w w' ∧ Below W.heap.size W w' :=
  (C.act k b hw h).mono fun _ _ ⟨h1, F', h2, h3, h4⟩ => ⟨h1, F', h2, h3, h4, hw.trans (h4.below hw.size fun k hk => (C.lt h k hk).1)⟩
end Go.Proofs.YtmdnpgcnbpppfaaGreatDoor

/- Small facts that every statement about a detector uses. -/
namespace Go.Proofs.YtmdnpgcnbpppfaaGreatDoor
open Go.RowKit
attribute [local go_sem ↓] run_eqV run_neV

variable {W : World} {best : List UInt8 → Int} {dec : Int → List UInt8 → List Int}
theorem bN {B : Nat} {a w : World} (h : Below B a w) (n : Nat) : Below B a (w.drewN n) := ⟨h.os, h.tape, h.output, h.size, h.block⟩
/-- Acts that lie in a slice. -/
def ActsIn (W : World) (v : Value) (l : List (Int × ByteArray)) : Prop :=
  (v = .slice none 0 0 ∧ l = []) ∨ ∃ lb lo cap, v = .slice (some ⟨lb, lo, none⟩) l.length cap ∧ l.length ≤ maxLen ∧ (l ≠ [] → lb < W.heap.size) ∧ ∀ i (h : i < l.length), W.cell? ⟨lb, lo + i * 2, none⟩ = some (.int .i64 l[i].1) ∧ W.cell? ⟨lb, lo + i * 2 + 1, none⟩ = some (.string l[i].2)
/-- Acts as plain data. -/
def plainA (l : List (Int × ByteArray)) : List (Int × List UInt8) := l.map fun p => (p.1, p.2.data.toList)
/-- Where a played detector stands behind k acts. -/
def dtAt (best : List UInt8 → Int) (dec : Int → List UInt8 → List Int) (h0 : Int) (l : List (Int × ByteArray)) (k : Nat) : Dt := Dt.acts_ best dec ⟨h0, [], false, 0⟩ (plainA (l.take k))
theorem Only.trans {F G : Nat → Prop} {a b c : World} (h : Only G a b) (k : Only F b c) (hF : ∀ i, F i → G i ∨ a.heap.size ≤ i) : Only G a c :=
  ⟨k.os.trans h.os, k.tape.trans h.tape, k.output.trans h.output, Nat.le_trans h.size k.size, fun i hi hn => by
    rw [k.block i (Nat.lt_of_lt_of_le hi h.size) (fun x => by rcases hF i x with y | y; exact hn y; omega)]
    exact h.block i hi hn⟩
theorem Only.alloc {G : Nat → Prop} {a b : World} (h : Only G a b) (o : Obj) : Only G a (b.alloc o) := h.trans (Only.of (fun _ => False) ((Below.refl _ _).alloc (Nat.le_refl _) o)) (fun _ x => x.elim)
theorem Only.drew {G : Nat → Prop} {a b : World} (h : Only G a b) : Only G a b.drew := ⟨h.os, h.tape, h.output, h.size, h.block⟩
theorem Only.refl (G : Nat → Prop) (a : World) : Only G a a := ⟨rfl, rfl, rfl, Nat.le_refl _, fun _ _ _ => rfl⟩
theorem dtAt_next (h0 : Int) (l : List (Int × ByteArray)) (k : Nat) (h : k < l.length) : dtAt best dec h0 l (k + 1) = (Dt.act best dec (dtAt best dec h0 l k) l[k].1 l[k].2.data.toList).2 := by
  unfold dtAt plainA
  rw [List.take_add_one, List.getElem?_eq_getElem h, Option.toList_some, List.map_append, List.map_cons, List.map_nil]
  exact acts_snoc best dec _ _ _ _
theorem dtAt_acts (h0 : Int) (l : List (Int × ByteArray)) (k : Nat) (hk : k ≤ l.length) (h3 : k ≤ 300) : (dtAt best dec h0 l k).acts = k := by
  unfold dtAt
  rw [acts_count best dec _ _ (by simp [plainA]; omega)]
  simp [plainA]; omega
theorem dtAt_long (h0 : Int) (l : List (Int × ByteArray)) (k : Nat) : (dtAt best dec h0 l k).l.length ≤ 4000 := acts_long best dec _ _ (by simp)
/-- Another detector stays where one acts. -/
theorem DetC.other (C : DetC W best dec) {w w' : World} {F G : Nat → Prop} {g : Addr} {d : Dt} (hG : C.IsD w G g d) (ho : Only F w w') (hd : ∀ k, G k → ¬ F k) : C.IsD w' G g d := C.keep hG fun k hk => ho.block k (C.lt hG k hk).2 (hd k hk)
/-- A verdict lies in a block. -/
structure Has3 (w : World) (b : Nat) (v : Vd) : Prop where
  c0 : w.cell? ⟨b, 0, none⟩ = some (.int .i64 v.enc)
  c1 : w.cell? ⟨b, 1, none⟩ = some (.int .i64 v.why)
  c2 : w.cell? ⟨b, 2, none⟩ = some (.bool v.fin)
  fz : ∀ i, w.frozen? ⟨b, i, none⟩ = false
theorem Has3.lt {w : World} {b : Nat} {v : Vd} (h : Has3 w b v) : b < w.heap.size := World.block_lt_of_cell? w _ h.c0
theorem Has3.keep {w w' : World} {b : Nat} {v : Vd} (h : Has3 w b v) (hk : w'.heap[b]? = w.heap[b]?) : Has3 w' b v :=
  have q : ∀ i, w'.cell? ⟨b, i, none⟩ = w.cell? ⟨b, i, none⟩ := fun i => World.cell?_of_block (a := ⟨b, i, none⟩) hk
  ⟨(q 0).trans h.c0, (q 1).trans h.c1, (q 2).trans h.c2, fun i => (World.frozen?_of_block (a := ⟨b, i, none⟩) hk).trans (h.fz i)⟩
theorem Has3.new (w : World) (v : Vd) (t : TypeId) : Has3 (w.alloc (.cells #[.int .i64 v.enc, .int .i64 v.why, .bool v.fin] t)) w.heap.size v := ⟨by simp [go_sem], by simp [go_sem], by simp [go_sem], fun i => by simp [go_sem]⟩
theorem Has3.put {w : World} {b : Nat} {v : Vd} (h : Has3 w b v) (u : Vd) : Has3 (((w.setCell ⟨b, 0, none⟩ (.int .i64 u.enc)).setCell ⟨b, 1, none⟩ (.int .i64 u.why)).setCell ⟨b, 2, none⟩ (.bool u.fin)) b u := by
  obtain ⟨h0, h1, h2, hz⟩ := h
  refine ⟨?_, ?_, ?_, fun i => ?_⟩
  all_goals first | (simp [World.cell?_setCell_other, World.cell?_setCell_same, *]; done) | (simp only [World.frozen?_setCell]; exact hz i)
theorem Has3.alloc {w : World} {b : Nat} {v : Vd} (h : Has3 w b v) (o : Obj) : Has3 (w.alloc o) b v := h.keep (Below.heap_alloc w o b h.lt)
theorem Has3.only {F : Nat → Prop} {w w' : World} {b : Nat} {v : Vd} (h : Has3 w b v) (ho : Only F w w') (hn : ¬ F b) : Has3 w' b v := h.keep (ho.block b h.lt hn)
theorem Has3.below {w w' : World} {b : Nat} {v : Vd} (h : Has3 w b v) (hb : Below w.heap.size w w') : Has3 w' b v := h.keep (hb.block b h.lt)
theorem Only.set {G : Nat → Prop} {a b : World} (h : Only G a b) {k : Nat} (hk : G k) (i : Nat) (u : Value) : Only G a (b.setCell ⟨k, i, none⟩ u) :=
  ⟨h.os, h.tape, h.output, by simp [World.setCell]; exact h.size, fun j hj hn => by rw [Below.heap_setCell b ⟨k, i, none⟩ u j (fun e => hn (by subst e; exact hk))]; exact h.block j hj hn⟩
theorem verdict_in (hb : ∀ l, 0 ≤ best l ∧ best l ≤ 6) (d : Dt) : (1 ≤ (d.verdict best).enc ∧ (d.verdict best).enc ≤ 6) ∧ 0 ≤ (d.verdict best).why ∧ (d.verdict best).why ≤ 4 := by
  have := judgeP_in best hb d.hint d.l
  unfold Dt.verdict
  exact ⟨⟨this.1, this.2.1⟩, this.2.2.1, this.2.2.2⟩
theorem Out.set1 {w : World} {B blk : Nat} {v : Value} {l : List Int} (h : Out w B v l) (hb : blk < B) (i : Nat) (u : Value) : Out (w.setCell ⟨blk, i, none⟩ u) B v l :=
  World.ownsRow.kept (row := some blk) h ⟨rfl, rfl, rfl, by simp [World.setCell], fun k _ hne => Below.heap_setCell w _ u k (fun e => hne (by rw [e]))⟩ (by
    cases hv : v.ownBlock with
    | none => exact .inl rfl
    | some k => exact .inr (fun e => by have := (World.ownsRow.lt h k hv).1; injection e with e; omega))
theorem Out.only {F : Nat → Prop} {w w' : World} {B : Nat} {v : Value} {l : List Int} (h : Out w B v l) (ho : Only F w w') (hn : ∀ g, v.ownBlock = some g → ¬ F g) : Out w' B v l := by
  have hlt := fun g hg => (World.ownsRow.lt h g hg).2
  unfold Out World.ownsRow at *
  obtain ⟨h1, h2⟩ := h
  refine ⟨h1, ?_⟩
  rcases h2 with h2 | ⟨g, cap, cur, e1, e2, e3, e4⟩
  · exact .inl h2
  · subst e1
    exact .inr ⟨g, cap, cur, rfl, e2, by rw [ho.block g (hlt g rfl) (hn g rfl)]; exact e3, e4⟩
theorem Out.own {w : World} {B : Nat} {v : Value} {l : List Int} (h : Out w B v l) (g : Nat) (hg : v.ownBlock = some g) : B ≤ g ∧ g < w.heap.size := World.ownsRow.lt h g hg
theorem load3 {w : World} {b : Nat} {v : Vd} (h : Has3 w b v) : (loadVar 24 ⟨b, 0, none⟩).run Tryz.prog w = .ok (.agg #[.int .i64 v.enc, .int .i64 v.why, .bool v.fin]) w := by
  obtain ⟨h0, h1, h2, _⟩ := h
  simp [go_sem, h0, h1, h2]
theorem ret_V {fn : Func} {p : Tmp} (h : fn.results = #[.cell p 24]) {tmps : Array Value} {w : World} {b : Nat} {v : Vd} (hp : tmps.getD p undef = .pointer (some ⟨b, 0, none⟩)) (hW : Has3 w b v) :
    (results fn tmps).run Tryz.prog w = .ok (.agg #[.int .i64 v.enc, .int .i64 v.why, .bool v.fin]) w := by
  have hp' : tmps[p]?.getD undef = .pointer (some ⟨b, 0, none⟩) := by simpa using hp
  simp only [results, h]
  simp [hp', load3 hW, asAddr]
theorem put3 {B b : Nat} {a w : World} (h : Below B a w) (hB : B ≤ b) (x y z : Value) : Below B a (((w.setCell ⟨b, 0, none⟩ x).setCell ⟨b, 1, none⟩ y).setCell ⟨b, 2, none⟩ z) :=
  ((h.setCell (p := ⟨b, 0, none⟩) hB x).setCell (p := ⟨b, 1, none⟩) hB y).setCell (p := ⟨b, 2, none⟩) hB z
theorem markL_le (l : List UInt8) : (markL l).2 ≤ (l.length : Int) := by
  unfold markL
  split
  · rename_i h; have := congrArg List.length h; simp at this; simp; omega
  split
  · rename_i h; have := congrArg List.length h; simp at this; simp; omega
  split
  · rename_i h; have := congrArg List.length h; simp at this; simp; omega
  · simp
theorem far3 (w : World) (b k : Nat) (h : k ≠ b) (x y z : Value) : (((w.setCell ⟨b, 0, none⟩ x).setCell ⟨b, 1, none⟩ y).setCell ⟨b, 2, none⟩ z).heap[k]? = w.heap[k]? := by
  rw [Below.heap_setCell _ _ _ k h, Below.heap_setCell _ _ _ k h, Below.heap_setCell _ _ _ k h]
theorem load5 {w : World} {b : Nat} {c e y : Int} {f : Bool} {A : Option Addr} {n k : Nat} (h : Has5 w b c e y f A n k) : (loadVar 36 ⟨b, 0, none⟩).run Tryz.prog w = .ok (.agg #[.int .i64 c, .int .i64 e, .int .i64 y, .bool f, .slice A n k]) w := by
  obtain ⟨h0, h1, h2, h3, h4⟩ := h
  simp [go_sem, h0, h1, h2, h3, h4]
theorem ret_R {fn : Func} {p : Tmp} (h : fn.results = #[.cell p 36]) {tmps : Array Value} {w : World} {b : Nat} {c e y : Int} {f : Bool} {A : Option Addr} {n k : Nat} (hp : tmps.getD p undef = .pointer (some ⟨b, 0, none⟩)) (hW : Has5 w b c e y f A n k) :
    (results fn tmps).run Tryz.prog w = .ok (.agg #[.int .i64 c, .int .i64 e, .int .i64 y, .bool f, .slice A n k]) w := by
  have hp' : tmps[p]?.getD undef = .pointer (some ⟨b, 0, none⟩) := by simpa using hp
  simp only [results, h]
  simp [hp', load5 hW, asAddr]
theorem Has5.new2 (u : World) (o : Obj) (n : Nat) (hn : u.heap.size = n) (c e y : Int) (f : Bool) (A : Option Addr) (m k : Nat) (t : TypeId) : Has5 ((u.alloc o).alloc (.cells #[.int .i64 c, .int .i64 e, .int .i64 y, .bool f, .slice A m k] t)) (n + 1) c e y f A m k := by
  have h := Has5.new (u.alloc o) c e y f A m k t
  simp only [World.size_alloc, hn] at h
  exact h
theorem Has5.put5 {w : World} {b : Nat} {c e y : Int} {f : Bool} {A : Option Addr} {n k : Nat} (h : Has5 w b c e y f A n k) (c' e' y' : Int) (f' : Bool) (A' : Option Addr) (n' k' : Nat) : Has5 (((((w.setCell ⟨b, 0, none⟩ (.int .i64 c')).setCell ⟨b, 1, none⟩ (.int .i64 e')).setCell ⟨b, 2, none⟩ (.int .i64 y')).setCell ⟨b, 3, none⟩ (.bool f')).setCell ⟨b, 4, none⟩ (.slice A' n' k')) b c' e' y' f' A' n' k' := by
  obtain ⟨h0, h1, h2, h3, h4⟩ := h
  refine ⟨?_, ?_, ?_, ?_, ?_⟩
  all_goals (simp [World.cell?_setCell_other, World.cell?_setCell_same, *])
theorem far5 (w : World) (b k : Nat) (h : k ≠ b) (u0 u1 u2 u3 u4 : Value) : (((((w.setCell ⟨b, 0, none⟩ u0).setCell ⟨b, 1, none⟩ u1).setCell ⟨b, 2, none⟩ u2).setCell ⟨b, 3, none⟩ u3).setCell ⟨b, 4, none⟩ u4).heap[k]? = w.heap[k]? := by
  rw [Below.heap_setCell _ _ _ k h, Below.heap_setCell _ _ _ k h, Below.heap_setCell _ _ _ k h, Below.heap_setCell _ _ _ k h, Below.heap_setCell _ _ _ k h]
theorem Only.own {G : Nat → Prop} {a b : World} (h : Only G a b) {k : Nat} (hk : a.heap.size ≤ k) (i : Nat) (u : Value) : Only G a (b.setCell ⟨k, i, none⟩ u) :=
  ⟨h.os, h.tape, h.output, by simp [World.setCell]; exact h.size, fun j hj hn => by rw [Below.heap_setCell b ⟨k, i, none⟩ u j (show j ≠ k by omega)]; exact h.block j hj hn⟩
theorem Only.own5 {G : Nat → Prop} {a b : World} (h : Only G a b) {k : Nat} (hk : a.heap.size ≤ k) (u0 u1 u2 u3 u4 : Value) : Only G a (((((b.setCell ⟨k, 0, none⟩ u0).setCell ⟨k, 1, none⟩ u1).setCell ⟨k, 2, none⟩ u2).setCell ⟨k, 3, none⟩ u3).setCell ⟨k, 4, none⟩ u4) :=
  ((((h.own hk 0 u0).own hk 1 u1).own hk 2 u2).own hk 3 u3).own hk 4 u4
theorem Only.dN {G : Nat → Prop} {a b : World} (h : Only G a b) (n : Nat) : Only G a (b.drewN n) := ⟨h.os, h.tape, h.output, h.size, h.block⟩
theorem extP_take (x : ByteArray) (k : Nat) : (x.extract 0 k).data.toList = x.data.toList.take k := by simp
theorem extP_drop (x : ByteArray) (k : Nat) : (x.extract k x.size).data.toList = x.data.toList.drop k := by simp [List.take_of_length_le]
end Go.Proofs.YtmdnpgcnbpppfaaGreatDoor
