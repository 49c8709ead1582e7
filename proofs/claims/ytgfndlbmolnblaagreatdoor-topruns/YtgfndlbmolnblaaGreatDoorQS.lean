/- 9 texts of this proof in one file: ShelfC, SnM, SnM2, SnW, SnW2, SnW3, SnMk, SnLaid, SnLaw. -/
import Derived.Shelf.Strings.Prefix
import Derived.Shelf.Small.Strs
import Derived.Test.YtgfndlbmolnblaaGreatDoorProg
import Derived.Test.YtgfndlbmolnblaaGreatDoorQL
import Derived.Deep.QuietTactic
import Derived.BigQuiet
import Derived.Lib.LaidTab
import Derived.Test.YtgfndlbmolnblaaGreatDoorRows
import Derived.Stop.LaidErr
import Derived.MakeChecks
/- The library's contracts of strings.HasPrefix and strings.IndexByte at this program: each fact by the kernel. -/
namespace Go.Proofs.YtgfndlbmolnblaaGreatDoor
open Go.RowKit
open Go.Shelf
def lays99_ren : Go.Shelf.Ren := ⟨fun | 99 => 40 | 206 => 56 | n => n, fun | 3 => 3 | 4 => 4 | 9 => 9 | n => n, fun n => n⟩
theorem lays99 : Go.Proofs.Lays.n99 Tryz.prog lays99_ren := {
  mixed := by kernel_rfl
  f99 := Tryz.func40.trans (congrArg some (by kernel_rfl))
  f206 := Tryz.func56.trans (congrArg some (by kernel_rfl))
  t3 := Tryz.underlying3
  a3 := Tryz.isAgg3
  z3 := Tryz.sizeOf3
  v3 := Tryz.zeroValue3
  t4 := Tryz.underlying4
  a4 := Tryz.isAgg4
  z4 := Tryz.sizeOf4
  v4 := Tryz.zeroValue4
  t9 := Tryz.underlying9
  a9 := Tryz.isAgg9
  z9 := Tryz.sizeOf9
  v9 := Tryz.zeroValue9 }
def lays137_ren : Go.Shelf.Ren := ⟨fun | 137 => 83 | 217 => 102 | 266 => 120 | n => n, fun | 3 => 3 | 5 => 5 | 9 => 9 | n => n, fun n => n⟩
theorem lays137 : Go.Proofs.Lays.n137 Tryz.prog lays137_ren := {
  mixed := by kernel_rfl
  f137 := Tryz.func83.trans (congrArg some (by kernel_rfl))
  f217 := Tryz.func102.trans (congrArg some (by kernel_rfl))
  f266 := Tryz.func120.trans (congrArg some (by kernel_rfl))
  t3 := Tryz.underlying3
  a3 := Tryz.isAgg3
  z3 := Tryz.sizeOf3
  v3 := Tryz.zeroValue3
  t5 := Tryz.underlying5
  a5 := Tryz.isAgg5
  z5 := Tryz.sizeOf5
  v5 := Tryz.zeroValue5
  t9 := Tryz.underlying9
  a9 := Tryz.isAgg9
  z9 := Tryz.sizeOf9
  v9 := Tryz.zeroValue9 }
theorem hasPrefix_c (s p : ByteArray) (w : World) : Calls Tryz.prog 40 #[.string s, .string p] w fun e w' => e = .returned (.bool (Lib.hasPrefix s.data.toList p.data.toList)) ∧ w' = w := Any.strings_HasPrefix lays99 s p w
theorem indexByte_c (s : ByteArray) (c : Int) (w : World) : Calls Tryz.prog 83 #[.string s, .int .u8 c] w fun e w' => e = .returned (.int .i64 (Lib.indexByte s.data.toList c.toNat.toUInt8)) ∧ w' = w := Any.strings_IndexByte lays137 s c w
end Go.Proofs.YtgfndlbmolnblaaGreatDoor

/- Marks and labels among the first bytes as plain functions; that what is sure stays. -/
namespace Go.Proofs.YtgfndlbmolnblaaGreatDoor

/- marks -/
def markL (l : List UInt8) : Int × Int :=
  if l.take 3 = [239, 187, 191] then (1, 3) else if l.take 2 = [255, 254] then (5, 2) else if l.take 2 = [254, 255] then (6, 2) else (0, 0)
def mayL (l : List UInt8) : Bool := l == [] || l == [239] || l == [239, 187] || l == [255] || l == [254]

/- labels -/
/-- The letters that are searched. -/
def kwL : List UInt8 := [99, 104, 97, 114, 115, 101, 116, 61]
inductive Sn where
  | stop
  | skip
  | hit (e : Int)
def isEndB (b : UInt8) : Bool := b == 32 || b == 9 || b == 10 || b == 13 || b == 59 || b == 34 || b == 39 || b == 62
/-- How many bytes stand ahead of the first end. -/
def upTo (p : UInt8 → Bool) : List UInt8 → Nat
  | [] => 0
  | b :: r => if p b then 0 else upTo p r + 1
/-- What a label's number counts for: the wide ones mean Utf. -/
def asUtf (e : Int) : Int := if 5 ≤ e then 1 else e
def bodyL (p : UInt8 → Bool) (v : List UInt8) : Sn :=
  if 40 < upTo p v then .skip
  else if upTo p v = v.length then .stop
  else if 0 < asUtf (findL (v.take (upTo p v))) then .hit (asUtf (findL (v.take (upTo p v)))) else .skip
def valL : List UInt8 → Sn
  | 34 :: v => bodyL (· == 34) v
  | 39 :: v => bodyL (· == 39) v
  | v => bodyL isEndB v
def atL (r : List UInt8) : Sn :=
  if r.length < 8 then (if (r.map lowB).isPrefixOf kwL then .stop else .skip)
  else if (r.map lowB).take 8 = kwL then valL (r.drop 8) else .skip
def srchL : List UInt8 → Int
  | [] => 0
  | b :: r => match atL (b :: r) with
    | .stop => 0
    | .skip => srchL r
    | .hit e => e
/-- The label among the first bytes, and whether that is sure. -/
def labelL (s : List UInt8) : Int × Bool :=
  if 0 < srchL (s.take 256) then (srchL (s.take 256), true) else (0, decide (256 ≤ s.length))

/- what is sure stays -/
theorem upTo_le (p : UInt8 → Bool) : ∀ v : List UInt8, upTo p v ≤ v.length
  | [] => Nat.le_refl _
  | b :: r => by
    simp only [upTo, List.length_cons]
    have := upTo_le p r
    split <;> omega
theorem upTo_app (p : UInt8 → Bool) (t : List UInt8) : ∀ v : List UInt8, upTo p v < v.length → upTo p (v ++ t) = upTo p v
  | [], h => absurd h (Nat.lt_irrefl _)
  | b :: r, h => by
    simp only [upTo, List.cons_append, List.length_cons] at h ⊢
    split
    · rfl
    · rename_i hb
      rw [if_neg hb] at h
      rw [upTo_app p t r (by omega)]
theorem upTo_ge (p : UInt8 → Bool) (t : List UInt8) : ∀ v : List UInt8, upTo p v ≤ upTo p (v ++ t)
  | [] => Nat.zero_le _
  | b :: r => by
    simp only [upTo, List.cons_append]
    have := upTo_ge p t r
    split <;> omega
theorem bodyL_app (p : UInt8 → Bool) (v t : List UInt8) (h : bodyL p v ≠ .stop) : bodyL p (v ++ t) = bodyL p v := by
  unfold bodyL at h ⊢
  by_cases h1 : 40 < upTo p v
  · have := upTo_ge p t v
    rw [if_pos h1, if_pos (by omega)]
  rw [if_neg h1] at h ⊢
  by_cases h2 : upTo p v = v.length
  · rw [if_pos h2] at h; exact absurd rfl h
  · have h3 := upTo_le p v
    have h4 := upTo_app p t v (by omega)
    rw [h4, if_neg h1, if_neg h2, if_neg (by simp; omega), List.take_append_of_le_length (by omega)]
theorem valL_app (v t : List UInt8) (h : valL v ≠ .stop) : valL (v ++ t) = valL v := by
  cases v with
  | nil => exact absurd rfl h
  | cons b r =>
    by_cases h1 : b = 34
    · subst h1; exact bodyL_app _ _ _ h
    by_cases h2 : b = 39
    · subst h2; exact bodyL_app _ _ _ h
    have e : ∀ x : List UInt8, valL (b :: x) = bodyL isEndB (b :: x) := fun x => by
      unfold valL
      split
      · rename_i h3; exact absurd (List.cons.inj h3).1 h1
      · rename_i h3; exact absurd (List.cons.inj h3).1 h2
      · rfl
    rw [e] at h
    rw [List.cons_append, e, e]
    exact bodyL_app isEndB (b :: r) t h
theorem pre_app {a b : List UInt8} : ∀ {k : List UInt8}, (a ++ b).isPrefixOf k = true → a.isPrefixOf k = true := by
  induction a with
  | nil => intro k _; simp [List.isPrefixOf]
  | cons x r ih =>
    intro k h
    cases k with
    | nil => simp at h
    | cons y s =>
      simp only [List.cons_append, List.isPrefixOf, Bool.and_eq_true] at h ⊢
      exact ⟨h.1, ih h.2⟩
theorem take_pre (a b : List UInt8) (h : (a ++ b).take 8 = kwL) (ha : a.length < 8) : a.isPrefixOf kwL = true := by
  rw [← h, List.take_append, List.take_of_length_le (by omega)]
  exact List.isPrefixOf_iff_prefix.2 (List.prefix_append _ _)
theorem atL_app (r t : List UInt8) (h : atL r ≠ .stop) : atL (r ++ t) = atL r := by
  unfold atL at h ⊢
  by_cases h1 : r.length < 8
  · rw [if_pos h1] at h ⊢
    by_cases h2 : (r.map lowB).isPrefixOf kwL = true
    · rw [if_pos h2] at h; exact absurd rfl h
    rw [if_neg h2]
    by_cases h3 : (r ++ t).length < 8
    · rw [if_pos h3, if_neg (fun h4 => h2 (pre_app (by rw [List.map_append] at h4; exact h4)))]
    · rw [if_neg h3, if_neg (fun h4 => h2 (take_pre _ _ (by rw [List.map_append] at h4; exact h4) (by simpa using h1)))]
  · rw [if_neg h1] at h ⊢
    rw [if_neg (by simp; omega), List.map_append, List.take_append_of_le_length (by simp; omega), List.drop_append_of_le_length (by omega)]
    by_cases h2 : (r.map lowB).take 8 = kwL
    · rw [if_pos h2] at h ⊢
      rw [if_pos h2]
      exact valL_app _ _ h
    · rw [if_neg h2, if_neg h2]
theorem bodyL_pos (p : UInt8 → Bool) (v : List UInt8) (e : Int) (h : bodyL p v = .hit e) : 0 < e := by
  unfold bodyL at h
  split at h
  · cases h
  split at h
  · cases h
  split at h
  · rename_i h3; cases h; exact h3
  · cases h
theorem valL_pos (v : List UInt8) (e : Int) (h : valL v = .hit e) : 0 < e := by
  unfold valL at h
  split at h <;> exact bodyL_pos _ _ _ h
theorem atL_pos (r : List UInt8) (e : Int) (h : atL r = .hit e) : 0 < e := by
  unfold atL at h
  split at h
  · split at h <;> cases h
  split at h
  · exact valL_pos _ _ h
  · cases h
theorem srchL_app (t : List UInt8) : ∀ r : List UInt8, 0 < srchL r → srchL (r ++ t) = srchL r
  | [], h => absurd h (by simp [srchL])
  | b :: r, h => by
    simp only [List.cons_append, srchL] at h ⊢
    have ha := atL_app (b :: r) t
    rw [List.cons_append] at ha
    cases hx : atL (b :: r) with
    | stop => rw [hx] at h; exact absurd h (by simp)
    | skip =>
      rw [hx] at h
      rw [ha (by rw [hx]; exact fun k => by cases k), hx]
      exact srchL_app t r h
    | hit e => rw [ha (by rw [hx]; exact fun k => by cases k), hx]
theorem srchL_nonneg : ∀ r : List UInt8, 0 ≤ srchL r
  | [] => by simp [srchL]
  | b :: r => by
    simp only [srchL]
    cases hx : atL (b :: r) with
    | stop => exact Int.le_refl _
    | skip => exact srchL_nonneg r
    | hit e => exact Int.le_of_lt (atL_pos _ _ hx)
/-- What is sure of a label does not change by what comes. -/
theorem labelL_stays (s t : List UInt8) (h : (labelL s).2 = true) : labelL (s ++ t) = labelL s := by
  unfold labelL at h ⊢
  by_cases hz : 256 ≤ s.length
  · rw [List.take_append_of_le_length hz]
    rw [show decide (256 ≤ (s ++ t).length) = decide (256 ≤ s.length) by simp; omega]
  · by_cases hp : 0 < srchL (s.take 256)
    · have e : srchL ((s ++ t).take 256) = srchL (s.take 256) := by
        rw [List.take_of_length_le (by omega : s.length ≤ 256)] at hp ⊢
        rw [List.take_append, List.take_of_length_le (by omega : s.length ≤ 256)]
        exact srchL_app _ s hp
      rw [e, if_pos hp, if_pos hp]
    · rw [if_neg hp] at h
      simp at h
      omega
theorem labelL_some (s : List UInt8) (h : (labelL s).1 ≠ 0) : (labelL s).2 = true := by
  unfold labelL at h ⊢
  split
  · rfl
  · rename_i hp
    rw [if_neg hp] at h
    exact absurd rfl h
theorem labelL_window (s t : List UInt8) (h : s.length = 256) : labelL (s ++ t) = labelL s ∧ (labelL s).2 = true := by
  have h2 : (labelL s).2 = true := by
    unfold labelL
    split
    · rfl
    · simp [h]
  exact ⟨labelL_stays s t h2, h2⟩
theorem mayL_three (a b c : UInt8) (r : List UInt8) : mayL (a :: b :: c :: r) = false := by simp [mayL]
theorem markL_three (a b c : UInt8) (r t : List UInt8) : markL (a :: b :: c :: r ++ t) = markL (a :: b :: c :: r) := by simp [markL]
theorem markL_one (a : UInt8) : markL [a] = (0, 0) := by simp [markL]
/-- What is sure of a mark does not change by what comes. -/
theorem mark_stays (s t : List UInt8) (h : (markL s).1 ≠ 0 ∨ mayL s = false) : markL (s ++ t) = markL s ∧ mayL (s ++ t) = false := by
  match s, h with
  | [], h => simp [markL, mayL] at h
  | [a], h =>
    rw [markL_one] at h ⊢
    have h1 : mayL [a] = false := by simpa using h
    simp [mayL] at h1
    obtain ⟨⟨n1, n2⟩, n3⟩ := h1
    constructor
    · simp [markL, n1, n2, n3]
    · cases t with
      | nil => simp [mayL, n1, n2, n3]
      | cons x r => cases r <;> simp [mayL, n1]
  | [a, b], h =>
    have hm : mayL ([a, b] ++ t) = false := by
      cases t with
      | cons x r => exact mayL_three a b x r
      | nil =>
        rcases h with h | h
        · by_cases c1 : a = 239
          · subst c1; simp [markL] at h
          · simp [mayL, c1]
        · exact h
    refine ⟨?_, hm⟩
    by_cases c1 : a = 239 ∧ b = 187
    · obtain ⟨rfl, rfl⟩ := c1
      rcases h with h | h
      · simp [markL] at h
      · simp [mayL] at h
    · cases t with
      | nil => simp
      | cons x r =>
        have n : ¬ (a = 239 ∧ b = 187 ∧ x = 191) := fun k => c1 ⟨k.1, k.2.1⟩
        simp [markL, n]
  | a :: b :: c :: r, h => exact ⟨markL_three a b c r t, by rw [List.cons_append, List.cons_append, List.cons_append]; exact mayL_three a b c (r ++ t)⟩
end Go.Proofs.YtgfndlbmolnblaaGreatDoor

/- The steps of the search for a label, as the program takes them. -/
namespace Go.Proofs.YtgfndlbmolnblaaGreatDoor

/-- The letters are there. -/
def keyF (r : List UInt8) : Bool := (r.map lowB).take 8 == kwL
/-- The bytes end before that is certain. -/
def keyC (r : List UInt8) : Bool := decide (r.length < 8) && (r.map lowB).isPrefixOf kwL
theorem keyF_len (r : List UInt8) (h : keyF r = true) : 8 ≤ r.length := by
  have h1 := congrArg List.length (eq_of_beq h)
  simp [kwL] at h1
  omega
theorem at_cut (r : List UInt8) (h : keyC r = true) : atL r = .stop := by
  simp only [keyC, Bool.and_eq_true, decide_eq_true_eq] at h
  unfold atL
  rw [if_pos h.1, if_pos h.2]
theorem at_not (r : List UInt8) (h : keyC r = false) (h2 : keyF r = false) : atL r = .skip := by
  unfold atL
  by_cases h1 : r.length < 8
  · rw [if_pos h1]
    simp only [keyC, h1, decide_true, Bool.true_and] at h
    rw [if_neg (by simp [h])]
  · rw [if_neg h1, if_neg (ne_of_beq_false h2)]
theorem at_key (r : List UInt8) (h : keyF r = true) : atL r = valL (r.drop 8) := by
  unfold atL
  have := keyF_len r h
  rw [if_neg (by omega), if_pos (eq_of_beq h)]
/-- Which bytes end a value, and where it begins. -/
def valP : List UInt8 → UInt8 → Bool
  | 34 :: _ => (· == 34)
  | 39 :: _ => (· == 39)
  | _ => isEndB
def valR : List UInt8 → List UInt8
  | 34 :: v => v
  | 39 :: v => v
  | v => v
theorem valL_eq (v : List UInt8) : valL v = bodyL (valP v) (valR v) := by
  unfold valL valP valR
  split <;> simp
/-- The value, and whether it has an end. -/
def valV (v : List UInt8) : List UInt8 := (valR v).take (upTo (valP v) (valR v))
def valE (v : List UInt8) : Bool := decide (upTo (valP v) (valR v) < (valR v).length)
theorem valV_len (v : List UInt8) : (valV v).length = upTo (valP v) (valR v) := by
  unfold valV
  rw [List.length_take]
  have := upTo_le (valP v) (valR v)
  omega
theorem val_long (v : List UInt8) (h : 40 < (valV v).length) : valL v = .skip := by
  rw [valV_len] at h
  rw [valL_eq]; unfold bodyL; rw [if_pos h]
theorem val_open (v : List UInt8) (h : ¬ 40 < (valV v).length) (h2 : valE v = false) : valL v = .stop := by
  rw [valV_len] at h
  simp only [valE, decide_eq_false_iff_not] at h2
  have := upTo_le (valP v) (valR v)
  rw [valL_eq]; unfold bodyL; rw [if_neg h, if_pos (by omega)]
theorem val_end (v : List UInt8) (h : ¬ 40 < (valV v).length) (h2 : valE v = true) : valL v = if 0 < asUtf (findL (valV v)) then .hit (asUtf (findL (valV v))) else .skip := by
  rw [valV_len] at h
  simp only [valE, decide_eq_true_eq] at h2
  rw [valL_eq]; unfold bodyL; rw [if_neg h, if_neg (by omega)]; rfl
theorem labelOf_range (t : List UInt8) : 0 ≤ labelOf t ∧ labelOf t ≤ 6 := by
  unfold labelOf
  repeat' split
  all_goals omega
theorem findL_range (l : List UInt8) : 0 ≤ findL l ∧ findL l ≤ 6 := by
  unfold findL
  split
  · omega
  · exact labelOf_range _
/-- The search from a place on. -/
theorem srch_stop (r : List UInt8) (h : atL r = .stop) : srchL r = 0 := by
  cases r with
  | nil => rfl
  | cons b r => simp only [srchL, h]
theorem srch_skip (b : UInt8) (r : List UInt8) (h : atL (b :: r) = .skip) : srchL (b :: r) = srchL r := by
  simp only [srchL, h]
theorem srch_hit (b : UInt8) (r : List UInt8) (e : Int) (h : atL (b :: r) = .hit e) : srchL (b :: r) = e := by
  simp only [srchL, h]
end Go.Proofs.YtgfndlbmolnblaaGreatDoor

/- The walks over package sniff: the search for a label. -/
namespace Go.Proofs.YtgfndlbmolnblaaGreatDoor
open Go.RowKit

theorem drewN_below {B : Nat} {a w : World} (h : Below B a w) (n : Nat) : Below B a (w.drewN n) := ⟨h.os, h.tape, h.output, h.size, h.block⟩

set_option maxHeartbeats 400000 in
theorem slower_any (b : UInt8) (w : World) : Calls Tryz.prog 82 #[.int .u8 (b.toNat : Int)] w fun e w' => e = .returned (.int .u8 ((lowB b).toNat : Int)) ∧ w = w' := by
  have hlt := b.toNat_lt
  by_cases h : 65 ≤ b.toNat ∧ b.toNat ≤ 90
  · have HB := hid (lowB_yes b h)
    obtain ⟨h1, h2⟩ := h
    go_enter Tryz.func82, Tryz.ntmps82
    go_wp2
    go_ret
    exact ⟨congrArg (fun x => Ending.returned (.int .u8 x)) (by rw [HB.out]; simp [go_sem]; omega), rfl⟩
  · have HB := hid (lowB_no b h)
    have HN := hid h
    clear h
    go_enter Tryz.func82, Tryz.ntmps82
    go_wp2
    all_goals go_ret
    all_goals first
      | (exfalso; have := HN.out; omega)
      | exact ⟨by rw [HB.out]; rfl, rfl⟩

def kwA : ByteArray := ⟨#[99, 104, 97, 114, 115, 101, 116, 61]⟩
theorem kw_at (k : Nat) (h : k < 8) : kwL[k]? = some (kwA[k]'h) := by
  match k, h with
  | 0, _ => rfl
  | 1, _ => rfl
  | 2, _ => rfl
  | 3, _ => rfl
  | 4, _ => rfl
  | 5, _ => rfl
  | 6, _ => rfl
  | 7, _ => rfl

theorem key_ends (s : ByteArray) (k : Nat) (hz : k = s.size) (hk : k < 8) (he : (s.data.toList.map lowB).take k = kwL.take k) : keyC s.data.toList = true ∧ keyF s.data.toList = false := by
  have hl := size_data s
  rw [List.take_of_length_le (by simp; omega)] at he
  constructor
  · unfold keyC
    rw [decide_eq_true (by omega), he]
    exact List.isPrefixOf_iff_prefix.2 (List.take_prefix _ _)
  · cases h : keyF s.data.toList with
    | false => rfl
    | true => have := keyF_len _ h; omega
theorem low_at (s : ByteArray) (k : Nat) (h : k < s.size) : (s.data.toList.map lowB)[k]? = some (lowB s[k]) := by
  have h2 : k < s.data.toList.length := by rw [size_data]; exact h
  rw [List.getElem?_map, List.getElem?_eq_getElem h2]; rfl
theorem key_next (s : ByteArray) (k : Nat) (hk : k < 8) (h : k < s.size) (he : (s.data.toList.map lowB).take k = kwL.take k) (hq : lowB s[k] = kwA[k]'hk) : (s.data.toList.map lowB).take (k + 1) = kwL.take (k + 1) := by
  rw [List.take_add_one, List.take_add_one, he, low_at s k h, kw_at k hk, hq]
theorem key_other (s : ByteArray) (k : Nat) (hk : k < 8) (h : k < s.size) (hq : ¬ lowB s[k] = kwA[k]'hk) : keyC s.data.toList = false ∧ keyF s.data.toList = false := by
  have hl := low_at s k h
  have hw := kw_at k hk
  constructor
  · unfold keyC
    cases hp : (s.data.toList.map lowB).isPrefixOf kwL with
    | false => simp
    | true =>
      obtain ⟨t, ht⟩ := List.isPrefixOf_iff_prefix.1 hp
      rw [← ht, List.getElem?_append_left (by simp; omega), hl] at hw
      exact absurd (Option.some.inj hw) hq
  · cases hp : keyF s.data.toList with
    | false => rfl
    | true =>
      have e := eq_of_beq hp
      rw [← e, List.getElem?_take_of_lt hk, hl] at hw
      exact absurd (Option.some.inj hw) hq
set_option maxRecDepth 100000 in
set_option maxHeartbeats 1000000 in
theorem keyAt_any (s : ByteArray) (w : World) (hs : s.size ≤ 1125899906842624) : Calls Tryz.prog 57 #[.string s] w fun e w' => e = .returned (.tuple #[.bool (keyF s.data.toList), .bool (keyC s.data.toList)]) ∧ Below w.heap.size w w' := by
  have HL : Hid (∀ (b : UInt8) w1, Calls Tryz.prog 82 #[.int .u8 (b.toNat : Int)] w1 fun e w' => e = .returned (.int .u8 ((lowB b).toNat : Int)) ∧ w' = w1) := fun b w1 => (slower_any b w1).mono fun e w' ⟨a, b⟩ => ⟨a, b.symm⟩
  go_enter Tryz.func57, Tryz.ntmps57
  go_wp2_with fail
  go_loopw [5] (fun i wr => ∃ k : Nat, k ≤ 8 ∧ k ≤ s.size ∧ i = .int .i64 k ∧ (s.data.toList.map lowB).take k = kwL.take k ∧ Below w.heap.size w wr) (fun i _ => 8 - (intOf i).toNat)
  case atStart => exact ⟨0, by omega, by omega, rfl, rfl, Below.refl _ _⟩
  case round =>
    obtain ⟨k, hk8, hks, rfl, he, hb⟩ := hrel
    have HE := hid he
    clear he
    by_cases h8 : k = 8
    · subst h8
      have HF : Hid (keyF s.data.toList = true) := beq_iff_eq.2 HE.out
      have HC : Hid (keyC s.data.toList = false) := by
        show _ = _
        have := keyF_len _ HF.out
        unfold keyC
        rw [decide_eq_false (by omega)]; rfl
      go_wp2_with fail
      go_ret2
      exact ⟨by rw [HF.out, HC.out]; rfl, hb⟩
    · have hk : k < 8 := by omega
      by_cases hz : k = s.size
      · have HC : Hid (keyC s.data.toList = true ∧ keyF s.data.toList = false) := key_ends s k hz hk HE.out
        subst hz
        go_wp2_with fail
        go_ret2
        exact ⟨by rw [HC.out.1, HC.out.2]; rfl, hb⟩
      · have hks2 : k < s.size := by omega
        have HS := hid (HL.out s[k])
        have b0 : (0 : Int) ≤ (k : Int) := by omega
        have b1 : (k : Int) < (s.size : Int) := by omega
        have b2 : (k : Int) < 8 := by omega
        by_cases hq : lowB s[k] = kwA[k]'hk
        · have HN := hid (key_next s k hk hks2 HE.out hq)
          have hx : (((lowB s[k]).toNat : Int) != (((⟨#[99, 104, 97, 114, 115, 101, 116, 61]⟩ : ByteArray)[k]'hk).toNat : Int)) = false := by rw [hq]; exact bne_self_eq_false _
          clear hq
          go_wp2_with fail
          go_quiet ((first | (go_at_call 82; exact Calls.quiet_of_same (HS.out _))))
          go_wp2_with fail
          go_roundw
          case rel => exact ⟨k + 1, by omega, by omega, by go_num, HN.out, drewN_below hb _⟩
          case measure => simp [intOf]; omega
        · have HN : Hid (keyC s.data.toList = false ∧ keyF s.data.toList = false) := key_other s k hk hks2 hq
          have hx : (((lowB s[k]).toNat : Int) != (((⟨#[99, 104, 97, 114, 115, 101, 116, 61]⟩ : ByteArray)[k]'hk).toNat : Int)) = true := bne_iff_ne.2 fun h => hq (UInt8.toNat_inj.1 (Int.ofNat.inj h))
          clear hq
          go_wp2_with fail
          go_quiet ((first | (go_at_call 82; exact Calls.quiet_of_same (HS.out _))))
          go_wp2_with fail
          go_ret2
          exact ⟨by rw [HN.out.1, HN.out.2]; rfl, drewN_below hb _⟩

end Go.Proofs.YtgfndlbmolnblaaGreatDoor

/- The walks over package sniff: the value of a label. -/
namespace Go.Proofs.YtgfndlbmolnblaaGreatDoor
open Go.RowKit

/-- A string that stands for a set of bytes. -/
def SetC (set : ByteArray) (p : UInt8 → Bool) : Prop := ∀ (b : UInt8) (w : World), ∃ k : Int, Calls Tryz.prog 83 #[.string set, .int .u8 (b.toNat : Int)] w (fun e w' => e = .returned (.int .i64 k) ∧ w' = w) ∧ (p b = true → 0 ≤ k) ∧ (p b = false → k < 0)
theorem setC_of (set : ByteArray) (p : UInt8 → Bool) (h : ∀ b, (p b = true → 0 ≤ Lib.indexByte set.data.toList b) ∧ (p b = false → Lib.indexByte set.data.toList b < 0)) : SetC set p := fun b w =>
  ⟨_, (indexByte_c set (b.toNat : Int) w).mono fun e w' ⟨h1, h2⟩ => by
    rw [show ((b.toNat : Int)).toNat.toUInt8 = b by simp] at h1
    exact ⟨h1, h2⟩, (h b).1, (h b).2⟩
theorem set34_fin : ∀ n : Fin 256, ((UInt8.ofFin n == 34) = true → 0 ≤ Lib.indexByte [34] (UInt8.ofFin n)) ∧ ((UInt8.ofFin n == 34) = false → Lib.indexByte [34] (UInt8.ofFin n) < 0) := by decide +kernel
theorem set39_fin : ∀ n : Fin 256, ((UInt8.ofFin n == 39) = true → 0 ≤ Lib.indexByte [39] (UInt8.ofFin n)) ∧ ((UInt8.ofFin n == 39) = false → Lib.indexByte [39] (UInt8.ofFin n) < 0) := by decide +kernel
theorem setQ_fin : ∀ n : Fin 256, ((UInt8.ofFin n == 34 || UInt8.ofFin n == 39) = true → 0 ≤ Lib.indexByte [34, 39] (UInt8.ofFin n)) ∧ ((UInt8.ofFin n == 34 || UInt8.ofFin n == 39) = false → Lib.indexByte [34, 39] (UInt8.ofFin n) < 0) := by decide +kernel
theorem setE_fin : ∀ n : Fin 256, (isEndB (UInt8.ofFin n) = true → 0 ≤ Lib.indexByte [32, 9, 10, 13, 59, 62, 34, 39] (UInt8.ofFin n)) ∧ (isEndB (UInt8.ofFin n) = false → Lib.indexByte [32, 9, 10, 13, 59, 62, 34, 39] (UInt8.ofFin n) < 0) := by decide +kernel
theorem setE2_fin : ∀ n : Fin 256, (isEndB (UInt8.ofFin n) = true → 0 ≤ Lib.indexByte [32, 9, 10, 13, 59, 34, 39, 62] (UInt8.ofFin n)) ∧ (isEndB (UInt8.ofFin n) = false → Lib.indexByte [32, 9, 10, 13, 59, 34, 39, 62] (UInt8.ofFin n) < 0) := by decide +kernel
theorem set34 (set : ByteArray) (h : set.data.toList = [34]) : SetC set (· == 34) := setC_of _ _ fun b => by rw [h]; exact set34_fin b.toFin
theorem set39 (set : ByteArray) (h : set.data.toList = [39]) : SetC set (· == 39) := setC_of _ _ fun b => by rw [h]; exact set39_fin b.toFin
theorem setQ : SetC ⟨#[34, 39]⟩ (fun b => b == 34 || b == 39) := setC_of _ _ fun b => setQ_fin b.toFin
theorem setE : SetC ⟨#[32, 9, 10, 13, 59, 62, 34, 39]⟩ isEndB := setC_of _ _ fun b => setE_fin b.toFin
theorem setE2 : SetC ⟨#[32, 9, 10, 13, 59, 34, 39, 62]⟩ isEndB := setC_of _ _ fun b => setE2_fin b.toFin

theorem drop_at (s : ByteArray) (k : Nat) (h : k < s.size) : s.data.toList.drop k = s[k] :: s.data.toList.drop (k + 1) := by
  have h2 : k < s.data.toList.length := by rw [size_data]; exact h
  exact List.drop_eq_getElem_cons h2

theorem ba_ext {a b : ByteArray} (h : a.data.toList = b.data.toList) : a = b := by
  cases a; cases b; exact congrArg ByteArray.mk (Array.toList_inj.1 h)
set_option maxRecDepth 100000 in
set_option maxHeartbeats 1000000 in
theorem upTo_any (s set : ByteArray) (p : UInt8 → Bool) (w : World) (hs : s.size ≤ 1125899906842624) (hp : SetC set p) : Calls Tryz.prog 84 #[.string s, .string set] w fun e w' => e = .returned (.tuple #[.string ⟨(s.data.toList.take (upTo p s.data.toList)).toArray⟩, .bool (decide (upTo p s.data.toList < s.data.toList.length))]) ∧ w' = w := by
  have HP := hid hp
  clear hp
  go_enter Tryz.func84, Tryz.ntmps84
  go_wp2_with fail
  go_loopw [9] (fun i wr => ∃ k : Nat, k ≤ s.size ∧ i = .int .i64 k ∧ upTo p (s.data.toList.drop k) + k = upTo p s.data.toList ∧ wr = w) (fun i _ => s.size - (intOf i).toNat)
  case atStart => exact ⟨0, by omega, rfl, rfl, rfl⟩
  case round =>
    obtain ⟨k, hks, rfl, he, rfl⟩ := hrel
    have HE := hid he
    clear he
    have HZ := hid (size_data s)
    by_cases hk : k < s.size
    · rw [drop_at s k hk] at HE
      by_cases hq : p s[k] = true
      · have HN : Hid (upTo p s.data.toList = k) := by
          show _ = _
          have := HE.out; simp only [upTo, hq, if_true] at this; omega
        obtain ⟨x, hc, hx, _⟩ := HP.out s[k] wr
        replace hx := hx hq
        have HC := hid hc
        clear hc hq
        go_wp2_with fail
        refine HC.out.mono ?_
        rintro e _ ⟨rfl, rfl⟩
        go_wp2_with fail
        go_ret2
        have hv : s.extract 0 k = ⟨(s.data.toList.take (upTo p s.data.toList)).toArray⟩ := ba_ext (by rw [HN.out, Lib.extract_data]; simp)
        have hd : decide (upTo p s.data.toList < s.data.toList.length) = true := decide_eq_true (by rw [HN.out, HZ.out]; exact hk)
        exact ⟨by rw [← hv, hd]; rfl, rfl⟩
      · have hq2 : p s[k] = false := by simpa using hq
        have HN : Hid (upTo p (s.data.toList.drop (k + 1)) + (k + 1) = upTo p s.data.toList) := by
          show _ = _
          have := HE.out; simp only [upTo, hq2, if_neg Bool.false_ne_true] at this; omega
        obtain ⟨x, hc, _, hx⟩ := HP.out s[k] wr
        replace hx := hx hq2
        have HC := hid hc
        clear hc hq hq2
        go_wp2_with fail
        refine HC.out.mono ?_
        rintro e _ ⟨rfl, rfl⟩
        go_wp2_with fail
        go_roundw
        case rel => exact ⟨k + 1, by omega, by go_num, HN.out, trivial⟩
        case measure => simp [intOf]; omega
    · have hk2 : k = s.size := by omega
      have HN : Hid (upTo p s.data.toList = s.size) := by
        show _ = _
        have := HE.out
        rw [List.drop_eq_nil_of_le (by rw [HZ.out]; omega)] at this
        simp only [upTo] at this; omega
      subst hk2
      go_wp2_with fail
      go_ret2
      have hv : s = ⟨(s.data.toList.take (upTo p s.data.toList)).toArray⟩ := ba_ext (by rw [HN.out, List.take_of_length_le (by rw [HZ.out]; exact Nat.le_refl _)])
      have hd : decide (upTo p s.data.toList < s.data.toList.length) = false := decide_eq_false (by rw [HN.out, HZ.out]; omega)
      exact ⟨by rw [← hv, hd]; rfl, rfl⟩

theorem valP_34 (v : List UInt8) : valP (34 :: v) = (· == 34) := rfl
theorem valP_39 (v : List UInt8) : valP (39 :: v) = (· == 39) := rfl
theorem val_plain (v : List UInt8) (b : UInt8) (h1 : b ≠ 34) (h2 : b ≠ 39) : valP (b :: v) = isEndB ∧ valR (b :: v) = b :: v := by
  constructor
  · unfold valP
    split
    · rename_i h3; exact absurd (List.cons.inj h3).1 h1
    · rename_i h3; exact absurd (List.cons.inj h3).1 h2
    · rfl
  · unfold valR
    split
    · rename_i h3; exact absurd (List.cons.inj h3).1 h1
    · rename_i h3; exact absurd (List.cons.inj h3).1 h2
    · rfl
theorem one_at (s : ByteArray) (h : 0 < s.size) : (s.extract 0 1).data.toList = [s[0]] := by
  rw [Lib.extract_data, cons_data s h]; rfl
theorem rest_at (s : ByteArray) (h : 0 < s.size) : s.data.toList = s[0] :: (s.extract 1 s.size).data.toList := by
  rw [Lib.extract_data, List.take_of_length_le (by simp)]
  exact cons_data s h

/-- What valueAt answers. -/
def ValC (l : List UInt8) (w : World) (e : Ending) (w' : World) : Prop := ∃ v : ByteArray, e = .returned (.tuple #[.string v, .bool (valE l)]) ∧ v.data.toList = valV l ∧ Below w.heap.size w w'
set_option maxRecDepth 100000 in
set_option maxHeartbeats 1000000 in
theorem valueAt_plain (s : ByteArray) (w : World) (hs : s.size ≤ 1125899906842624) (hp : valP s.data.toList = isEndB) (hr : valR s.data.toList = s.data.toList) (hq : s.toList.isEmpty = true ∨ ∃ h : 0 < s.size, s[0] ≠ 34 ∧ s[0] ≠ 39) : Calls Tryz.prog 58 #[.string s] w (ValC s.data.toList w) := by
  have HU : Hid (∀ w1, Calls Tryz.prog 84 #[.string s, .string ⟨#[32, 9, 10, 13, 59, 62, 34, 39]⟩] w1 (ValC s.data.toList w1)) := fun w1 => (upTo_any s _ isEndB w1 hs setE).mono fun e w' ⟨h1, h2⟩ => ⟨⟨(s.data.toList.take (upTo isEndB s.data.toList)).toArray⟩, by rw [h1, valE, hp, hr], by rw [valV, hp, hr], h2 ▸ Below.refl _ _⟩
  clear hp hr
  rcases hq with hq | ⟨h0, h1, h2⟩
  · go_enter Tryz.func58, Tryz.ntmps58
    go_wp2_with fail
    refine (HU.out _).mono ?_
    rintro e w1 ⟨v, rfl, hv, hb⟩
    go_wp2_with fail
    go_ret2
    exact ⟨v, rfl, hv, hb⟩
  · have hne := nonempty_of s h0
    obtain ⟨x, hc, _, hx⟩ := setQ s[0] w
    replace hx := hx (by simp [h1, h2])
    have HC := hid hc
    clear hc h1 h2
    go_enter Tryz.func58, Tryz.ntmps58
    go_wp2_with fail
    refine HC.out.mono ?_
    rintro e _ ⟨rfl, rfl⟩
    go_wp2_with fail
    refine (HU.out _).mono ?_
    rintro e w1 ⟨v, rfl, hv, hb⟩
    go_wp2_with fail
    go_ret2
    exact ⟨v, rfl, hv, hb⟩
set_option maxRecDepth 100000 in
set_option maxHeartbeats 1000000 in
theorem valueAt_quote (s : ByteArray) (w : World) (hs : s.size ≤ 1125899906842624) (h0 : 0 < s.size) (hq : s[0] = 34 ∨ s[0] = 39) : Calls Tryz.prog 58 #[.string s] w (ValC s.data.toList w) := by
  have HU : Hid (∀ w1, Calls Tryz.prog 84 #[.string (s.extract 1 s.size), .string (s.extract 0 1)] w1 fun e w' => e = .returned (.tuple #[.string ⟨(valV s.data.toList).toArray⟩, .bool (valE s.data.toList)]) ∧ w' = w1) := fun w1 => by
    have hz : (s.extract 1 s.size).size ≤ 1125899906842624 := by simp; omega
    have hr := rest_at s h0
    have ho := one_at s h0
    rcases hq with hq | hq
    · rw [hq] at hr ho
      rw [hr]
      exact upTo_any _ _ (· == 34) w1 hz (set34 _ ho)
    · rw [hq] at hr ho
      rw [hr]
      exact upTo_any _ _ (· == 39) w1 hz (set39 _ ho)
  have hne := nonempty_of s h0
  obtain ⟨x, hc, hx, _⟩ := setQ s[0] w
  replace hx := hx (by rcases hq with h | h <;> rw [h] <;> rfl)
  have HC := hid hc
  clear hc hq
  have b1 : (1 : Int) ≤ (s.size : Int) := by omega
  go_enter Tryz.func58, Tryz.ntmps58
  go_wp2_with fail
  refine HC.out.mono ?_
  rintro e _ ⟨rfl, rfl⟩
  go_wp2_with fail
  go_quiet ((first | (go_at_call 84; exact Calls.quiet_of_same (HU.out _))))
  go_wp2_with fail
  go_ret2
  exact ⟨_, rfl, rfl, drewN_below (Below.refl _ _) _⟩
theorem valueAt_any (s : ByteArray) (w : World) (hs : s.size ≤ 1125899906842624) : Calls Tryz.prog 58 #[.string s] w (ValC s.data.toList w) := by
  by_cases h0 : 0 < s.size
  · by_cases h1 : s[0] = 34
    · exact valueAt_quote s w hs h0 (.inl h1)
    by_cases h2 : s[0] = 39
    · exact valueAt_quote s w hs h0 (.inr h2)
    have h3 := val_plain (s.extract 1 s.size).data.toList s[0] h1 h2
    rw [← rest_at s h0] at h3
    exact valueAt_plain s w hs h3.1 h3.2 (.inr ⟨h0, h1, h2⟩)
  · have e : s.data.toList = [] := List.length_eq_zero_iff.1 (by rw [size_data]; omega)
    exact valueAt_plain s w hs (by rw [e]; rfl) (by rw [e]; rfl) (.inl (empty_of s h0))
set_option maxHeartbeats 400000 in
theorem readable_any (e : Int) (w : World) (h : 0 ≤ e ∧ e ≤ 6) : Calls Tryz.prog 59 #[.int .i64 e] w fun x w' => x = .returned (.int .i64 (asUtf e)) ∧ w = w' := by
  by_cases h5 : 5 ≤ e
  · have hu : asUtf e = 1 := if_pos h5
    rw [hu]
    obtain h | h : e = 5 ∨ e = 6 := by omega
    all_goals
      subst h
      go_enter Tryz.func59, Tryz.ntmps59
      go_wp2
      go_ret
      exact ⟨rfl, rfl⟩
  · have hu : asUtf e = e := if_neg h5
    rw [hu]
    have e1 : (e == 5) = false := beq_false_of_ne (by omega)
    have e2 : (e == 6) = false := beq_false_of_ne (by omega)
    clear hu
    go_enter Tryz.func59, Tryz.ntmps59
    go_wp2
    go_ret
    exact ⟨rfl, rfl⟩
end Go.Proofs.YtgfndlbmolnblaaGreatDoor

/- The walks over package sniff: the search and the label. -/
namespace Go.Proofs.YtgfndlbmolnblaaGreatDoor
open Go.RowKit

theorem ext_drop (s : ByteArray) (k : Nat) : (s.extract k s.size).data.toList = s.data.toList.drop k := by
  rw [Lib.extract_data, List.take_of_length_le (by simp)]

set_option maxRecDepth 100000 in
set_option maxHeartbeats 4000000 in
theorem search_any (s : ByteArray) (w : World) (hs : s.size ≤ 140737488355328) : Calls Tryz.prog 41 #[.string s] w fun e w' => e = .returned (.int .i64 (srchL s.data.toList)) ∧ Below w.heap.size w w' := by
  have HK : Hid (∀ k w1, Calls Tryz.prog 57 #[.string (s.extract k s.size)] w1 fun e w' => e = .returned (.tuple #[.bool (keyF (s.data.toList.drop k)), .bool (keyC (s.data.toList.drop k))]) ∧ Below w1.heap.size w1 w') := fun k w1 => by
    have := keyAt_any (s.extract k s.size) w1 (by simp; omega)
    rw [ext_drop] at this; exact this
  have HV : Hid (∀ k w1, Calls Tryz.prog 58 #[.string (s.extract k s.size)] w1 (ValC (s.data.toList.drop k) w1)) := fun k w1 => by
    have := valueAt_any (s.extract k s.size) w1 (by simp; omega)
    rw [ext_drop] at this; exact this
  go_enter Tryz.func41, Tryz.ntmps41
  go_wp2_with fail
  go_loopw [11] (fun i wr => ∃ k : Nat, k ≤ s.size ∧ i = .int .i64 k ∧ srchL (s.data.toList.drop k) = srchL s.data.toList ∧ Below w.heap.size w wr) (fun i _ => s.size - (intOf i).toNat)
  case atStart => exact ⟨0, by omega, rfl, rfl, Below.refl _ _⟩
  case round =>
    obtain ⟨k, hks, rfl, he, hb⟩ := hrel
    have HE := hid he
    clear he
    have HZ := hid (size_data s)
    by_cases hk : k < s.size
    · have HA := hid (HK.out k)
      have HD := hid (drop_at s k hk)
      have b1 : (k : Int) ≤ (s.size : Int) := by omega
      cases hc : keyC (s.data.toList.drop k) with
      | true =>
        have HR : Hid (srchL s.data.toList = 0) := by
          show _ = _
          rw [← HE.out]; exact srch_stop _ (at_cut _ hc)
        rw [hc] at HA
        clear hc
        go_wp2_with fail
        refine (HA.out _).mono ?_
        rintro e w1 ⟨rfl, hb1⟩
        go_wp2_with fail
        go_ret
        exact ⟨by rw [HR.out]; rfl, hb.trans (hb1.mono hb.size)⟩
      | false =>
        rw [hc] at HA
        cases hf : keyF (s.data.toList.drop k) with
        | false =>
          have HN : Hid (srchL (s.data.toList.drop (k + 1)) = srchL s.data.toList) := by
            show _ = _
            rw [← HE.out, HD.out]
            have := at_not _ hc hf
            rw [HD.out] at this
            exact (srch_skip _ _ this).symm
          rw [hf] at HA
          clear hf hc
          go_wp2_with fail
          refine (HA.out _).mono ?_
          rintro e w1 ⟨rfl, hb1⟩
          go_wp2_with fail
          go_roundw
          case rel => exact ⟨k + 1, by omega, by go_num, HN.out, hb.trans (hb1.mono hb.size)⟩
          case measure => simp [intOf]; omega
        | true =>
          have h8 : k + 8 ≤ s.size := by
            have := keyF_len _ hf
            rw [List.length_drop, HZ.out] at this; omega
          have HT := hid (at_key _ hf)
          rw [List.drop_drop] at HT
          have HW := hid (HV.out (k + 8))
          rw [hf] at HA
          clear hf hc
          have b8 : (k : Int) + 8 ≤ (s.size : Int) := by omega
          go_wp2_with fail
          refine (HA.out _).mono ?_
          rintro e w1 ⟨rfl, hb1⟩
          go_wp2_with fail
          refine (HW.out _).mono ?_
          rintro e w2 ⟨v, rfl, hv, hb2⟩
          have HB : Hid (Below w.heap.size w w2) := (hb.trans (hb1.mono hb.size)).trans (hb2.mono (hb.trans (hb1.mono hb.size)).size)
          have HL : Hid (v.size = (valV (s.data.toList.drop (k + 8))).length) := by
            show _ = _
            rw [← hv, size_data]
          have HV2 := hid hv
          clear hv hb2 hb1 hb HA HW
          by_cases hlong : 40 < v.size
          · have HN : Hid (srchL (s.data.toList.drop (k + 1)) = srchL s.data.toList) := by
              show _ = _
              rw [← HE.out, HD.out]
              have := HT.out.trans (val_long _ (by rw [← HL.out]; exact hlong))
              rw [HD.out] at this
              exact (srch_skip _ _ this).symm
            have b40 : (40 : Int) < (v.size : Int) := by omega
            go_wp2_with fail
            go_roundw
            case rel => exact ⟨k + 1, by omega, by go_num, HN.out, HB.out⟩
            case measure => simp [intOf]; omega
          · have b40 : ¬ (40 : Int) < (v.size : Int) := by omega
            have HG : Hid (¬ 40 < (valV (s.data.toList.drop (k + 8))).length) := by
              rw [← HL.out]; exact hlong
            cases he : valE (s.data.toList.drop (k + 8)) with
            | false =>
              have HR : Hid (srchL s.data.toList = 0) := by
                show _ = _
                rw [← HE.out]; exact srch_stop _ (HT.out.trans (val_open _ HG.out he))
              clear he
              go_wp2_with fail
              go_ret
              exact ⟨by rw [HR.out]; rfl, HB.out⟩
            | true =>
              have HX := hid (HT.out.trans (val_end _ HG.out he))
              have HF := hid (fun w1 => find_any v w1 (by omega))
              rw [HV2.out] at HF
              have HY := hid (findL_range (valV (s.data.toList.drop (k + 8))))
              clear he HL HV2 HG hlong
              generalize findL (valV (s.data.toList.drop (k + 8))) = x at HX HF HY
              rw [HD.out] at HX HE
              have HQ := hid (fun w1 => readable_any x w1 HY.out)
              by_cases hx : x = 0
              · have HN : Hid (srchL (s.data.toList.drop (k + 1)) = srchL s.data.toList) := by
                  show _ = _
                  rw [← HE.out]
                  refine (srch_skip _ _ ?_).symm
                  rw [HX.out, hx]; rfl
                subst hx
                go_wp2_with fail
                refine (HF.out _).mono ?_
                rintro e w3 ⟨rfl, hb3⟩
                go_wp2_with fail
                go_roundw
                case rel => exact ⟨k + 1, by omega, by go_num, HN.out, HB.out.trans (hb3.mono HB.out.size)⟩
                case measure => simp [intOf]; omega
              · have HR : Hid (srchL s.data.toList = asUtf x) := by
                  show _ = _
                  rw [← HE.out]
                  refine srch_hit _ _ _ ?_
                  rw [HX.out, if_pos]
                  have := HY.out
                  unfold asUtf
                  split <;> omega
                have hn : (x != 0) = true := bne_iff_ne.2 hx
                clear hx
                go_wp2_with fail
                refine (HF.out _).mono ?_
                rintro e w3 ⟨rfl, hb3⟩
                go_wp2_with fail
                refine (HQ.out _).mono ?_
                rintro e w4 ⟨rfl, rfl⟩
                go_wp2_with fail
                go_ret
                exact ⟨by rw [HR.out]; rfl, HB.out.trans (hb3.mono HB.out.size)⟩
    · have hk2 : k = s.size := by omega
      have HR : Hid (srchL s.data.toList = 0) := by
        show _ = _
        rw [← HE.out, List.drop_eq_nil_of_le (by rw [HZ.out]; omega)]; rfl
      subst hk2
      go_wp2_with fail
      go_ret
      exact ⟨by rw [HR.out]; rfl, hb⟩

theorem ext_take (s : ByteArray) (k : Nat) : (s.extract 0 k).data.toList = s.data.toList.take k := by
  rw [Lib.extract_data]; simp
set_option maxRecDepth 100000 in
set_option maxHeartbeats 1000000 in
theorem label_any (s : ByteArray) (w : World) (hs : s.size ≤ 1125899906842624) : Calls Tryz.prog 30 #[.string s] w fun e w' => e = .returned (.tuple #[.int .i64 (labelL s.data.toList).1, .bool (labelL s.data.toList).2]) ∧ Below w.heap.size w w' := by
  have HZ := hid (size_data s)
  have HP := hid (srchL_nonneg (s.data.toList.take 256))
  by_cases hc : 256 ≤ s.size
  · have HS : Hid (∀ w1, Calls Tryz.prog 41 #[.string (s.extract 0 256)] w1 fun e w' => e = .returned (.int .i64 (srchL (s.data.toList.take 256))) ∧ Below w1.heap.size w1 w') := fun w1 => by
      have := search_any (s.extract 0 256) w1 (by simp; omega)
      rw [ext_take] at this; exact this
    have HL : Hid (labelL s.data.toList = if 0 < srchL (s.data.toList.take 256) then (srchL (s.data.toList.take 256), true) else (0, true)) := by
      show _ = _
      unfold labelL
      rw [decide_eq_true (by rw [HZ.out]; exact hc)]
    generalize srchL (s.data.toList.take 256) = x at HP HS HL
    have b1 : (256 : Int) ≤ (s.size : Int) := by omega
    by_cases hx : x = 0
    · subst hx
      go_enter Tryz.func30, Tryz.ntmps30
      go_wp2_with fail
      refine (HS.out _).mono ?_
      rintro e w1 ⟨rfl, hb1⟩
      go_wp2_with fail
      go_ret2
      exact ⟨by rw [HL.out]; rfl, hb1⟩
    · have hn : (x != 0) = true := bne_iff_ne.2 hx
      rw [if_pos (by have := HP.out; omega)] at HL
      clear hx
      go_enter Tryz.func30, Tryz.ntmps30
      go_wp2_with fail
      refine (HS.out _).mono ?_
      rintro e w1 ⟨rfl, hb1⟩
      go_wp2_with fail
      go_ret2
      exact ⟨by rw [HL.out]; rfl, hb1⟩
  · have HS : Hid (∀ w1, Calls Tryz.prog 41 #[.string s] w1 fun e w' => e = .returned (.int .i64 (srchL (s.data.toList.take 256))) ∧ Below w1.heap.size w1 w') := fun w1 => by
      have := search_any s w1 (by omega)
      rw [List.take_of_length_le (by rw [HZ.out]; omega)]; exact this
    have HL : Hid (labelL s.data.toList = if 0 < srchL (s.data.toList.take 256) then (srchL (s.data.toList.take 256), true) else (0, false)) := by
      show _ = _
      unfold labelL
      rw [decide_eq_false (by rw [HZ.out]; exact hc)]
    generalize srchL (s.data.toList.take 256) = x at HP HS HL
    have b1 : decide ((256 : Int) ≤ (s.size : Int)) = false := decide_eq_false (by omega)
    by_cases hx : x = 0
    · subst hx
      go_enter Tryz.func30, Tryz.ntmps30
      go_wp2_with fail
      refine (HS.out _).mono ?_
      rintro e w1 ⟨rfl, hb1⟩
      go_wp2_with fail
      go_ret2
      exact ⟨by rw [HL.out]; rfl, hb1⟩
    · have hn : (x != 0) = true := bne_iff_ne.2 hx
      rw [if_pos (by have := HP.out; omega)] at HL
      clear hx
      go_enter Tryz.func30, Tryz.ntmps30
      go_wp2_with fail
      refine (HS.out _).mono ?_
      rintro e w1 ⟨rfl, hb1⟩
      go_wp2_with fail
      go_ret2
      exact ⟨by rw [HL.out]; rfl, hb1⟩
end Go.Proofs.YtgfndlbmolnblaaGreatDoor

/- The walks over package sniff: marks. -/
namespace Go.Proofs.YtgfndlbmolnblaaGreatDoor
open Go.RowKit

/-- The two tables of package sniff hold what its text lays. -/
structure Laid (w : World) : Prop where
  m0 : w.cell? ⟨0, 0, none⟩ = some (.string ⟨#[239, 187, 191]⟩)
  m1 : w.cell? ⟨0, 1, none⟩ = some (.string ⟨#[255, 254]⟩)
  m2 : w.cell? ⟨0, 2, none⟩ = some (.string ⟨#[254, 255]⟩)
  e0 : w.cell? ⟨1, 0, none⟩ = some (.int .i64 1)
  e1 : w.cell? ⟨1, 1, none⟩ = some (.int .i64 5)
  e2 : w.cell? ⟨1, 2, none⟩ = some (.int .i64 6)
  big : 2 ≤ w.heap.size
theorem Laid.below {w w' : World} (h : Laid w) (hb : Below w.heap.size w w') : Laid w' := by
  have hbig := h.big
  have k : ∀ p : Addr, p.block < 2 → w'.cell? p = w.cell? p := fun p hp => hb.cell (by omega)
  exact ⟨(k _ (by decide)).trans h.m0, (k _ (by decide)).trans h.m1, (k _ (by decide)).trans h.m2, (k _ (by decide)).trans h.e0, (k _ (by decide)).trans h.e1, (k _ (by decide)).trans h.e2, Nat.le_trans hbig hb.size⟩

theorem mark_pre (s : ByteArray) (p : List UInt8) : Lib.hasPrefix s.data.toList p = decide (s.data.toList.take p.length = p) := by
  unfold Lib.hasPrefix
  rw [Bool.eq_iff_iff, List.isPrefixOf_iff_prefix, decide_eq_true_eq, List.prefix_iff_eq_take]
  exact eq_comm

theorem ix0 (w : World) : (Instr.index 70 (.agg #[.string ⟨#[239, 187, 191]⟩, .string ⟨#[255, 254]⟩, .string ⟨#[254, 255]⟩]) (.int .i64 0)).run Tryz.prog w = .ok (.string ⟨#[239, 187, 191]⟩) w := by kernel_rfl
theorem ix1 (w : World) : (Instr.index 70 (.agg #[.string ⟨#[239, 187, 191]⟩, .string ⟨#[255, 254]⟩, .string ⟨#[254, 255]⟩]) (.int .i64 1)).run Tryz.prog w = .ok (.string ⟨#[255, 254]⟩) w := by kernel_rfl
theorem ix2 (w : World) : (Instr.index 70 (.agg #[.string ⟨#[239, 187, 191]⟩, .string ⟨#[255, 254]⟩, .string ⟨#[254, 255]⟩]) (.int .i64 2)).run Tryz.prog w = .ok (.string ⟨#[254, 255]⟩) w := by kernel_rfl
attribute [local go_sem] ix0 ix1 ix2
def markB (b0 b1 b2 : Bool) : Int × Int := if b0 then (1, 3) else if b1 then (5, 2) else if b2 then (6, 2) else (0, 0)
theorem markB_eq (s : ByteArray) : markL s.data.toList = markB (Lib.hasPrefix s.data.toList [239, 187, 191]) (Lib.hasPrefix s.data.toList [255, 254]) (Lib.hasPrefix s.data.toList [254, 255]) := by
  rw [mark_pre, mark_pre, mark_pre]
  unfold markL markB
  simp only [decide_eq_true_eq, List.length_cons, List.length_nil]
set_option maxRecDepth 100000 in
set_option maxHeartbeats 1000000 in
theorem mark_any (s : ByteArray) (w : World) (hl : Laid w) : Calls Tryz.prog 29 #[.string s] w fun e w' => e = .returned (.tuple #[.int .i64 (markL s.data.toList).1, .int .i64 (markL s.data.toList).2]) ∧ w' = w := by
  obtain ⟨m0, m1, m2, e0, e1, e2, _⟩ := hl
  have H0 := hid (fun w1 => hasPrefix_c s ⟨#[239, 187, 191]⟩ w1)
  have H1 := hid (fun w1 => hasPrefix_c s ⟨#[255, 254]⟩ w1)
  have H2 := hid (fun w1 => hasPrefix_c s ⟨#[254, 255]⟩ w1)
  change Hid (∀ w1, Calls _ _ _ w1 fun e w' => e = .returned (.bool (Lib.hasPrefix s.data.toList [239, 187, 191])) ∧ w' = w1) at H0
  change Hid (∀ w1, Calls _ _ _ w1 fun e w' => e = .returned (.bool (Lib.hasPrefix s.data.toList [255, 254])) ∧ w' = w1) at H1
  change Hid (∀ w1, Calls _ _ _ w1 fun e w' => e = .returned (.bool (Lib.hasPrefix s.data.toList [254, 255])) ∧ w' = w1) at H2
  rw [markB_eq]
  generalize Lib.hasPrefix s.data.toList [239, 187, 191] = b0 at H0 ⊢
  generalize Lib.hasPrefix s.data.toList [255, 254] = b1 at H1 ⊢
  generalize Lib.hasPrefix s.data.toList [254, 255] = b2 at H2 ⊢
  go_enter Tryz.func29, Tryz.ntmps29
  go_wp2_with fail
  go_loop [7] (fun i => i = .int .i64 0 ∨ (i = .int .i64 1 ∧ b0 = false) ∨ (i = .int .i64 2 ∧ b0 = false ∧ b1 = false) ∨ (i = .int .i64 3 ∧ b0 = false ∧ b1 = false ∧ b2 = false)) (fun i => 3 - (intOf i).toNat)
  case atStart => exact .inl rfl
  case round =>
    rcases hrel with rfl | ⟨rfl, rfl⟩ | ⟨rfl, rfl, rfl⟩ | ⟨rfl, rfl, rfl, rfl⟩
    · cases b0 with
      | true =>
        go_wp2_with fail
        refine (H0.out _).mono ?_
        rintro e _ ⟨rfl, rfl⟩
        go_wp2_with fail
        go_ret2
        exact ⟨rfl, rfl⟩
      | false =>
        go_wp2_with fail
        refine (H0.out _).mono ?_
        rintro e _ ⟨rfl, rfl⟩
        go_wp2_with fail
        go_round
        case rel => simp
        case measure => decide
    · cases b1 with
      | true =>
        go_wp2_with fail
        refine (H1.out _).mono ?_
        rintro e _ ⟨rfl, rfl⟩
        go_wp2_with fail
        go_ret2
        exact ⟨rfl, rfl⟩
      | false =>
        go_wp2_with fail
        refine (H1.out _).mono ?_
        rintro e _ ⟨rfl, rfl⟩
        go_wp2_with fail
        go_round
        case rel => simp
        case measure => decide
    · cases b2 with
      | true =>
        go_wp2_with fail
        refine (H2.out _).mono ?_
        rintro e _ ⟨rfl, rfl⟩
        go_wp2_with fail
        go_ret2
        exact ⟨rfl, rfl⟩
      | false =>
        go_wp2_with fail
        refine (H2.out _).mono ?_
        rintro e _ ⟨rfl, rfl⟩
        go_wp2_with fail
        go_round
        case rel => simp
        case measure => decide
    · go_wp2_with fail
      go_ret2
      exact ⟨rfl, rfl⟩

/-- A proper beginning of a mark. -/
def mayB (l p : List UInt8) : Bool := decide (l.length < p.length) && Lib.hasPrefix p l
theorem may_eq (l : List UInt8) : mayL l = (mayB l [239, 187, 191] || (mayB l [255, 254] || mayB l [254, 255])) := by
  match l with
  | [] => rfl
  | [a] =>
    simp only [mayL, mayB, Lib.hasPrefix, List.isPrefixOf]
    rw [Bool.eq_iff_iff]
    simp [or_assoc]
  | [a, b] =>
    simp only [mayL, mayB, Lib.hasPrefix, List.isPrefixOf]
    rw [Bool.eq_iff_iff]
    simp
  | a :: b :: c :: r =>
    have e : ∀ p : List UInt8, p.length ≤ 3 → mayB (a :: b :: c :: r) p = false := fun p hp => by
      unfold mayB; rw [decide_eq_false (by simp only [List.length_cons]; omega)]; rfl
    have e1 := e [239, 187, 191] (by decide)
    have e2 := e [255, 254] (by decide)
    have e3 := e [254, 255] (by decide)
    rw [e1, e2, e3]
    exact mayL_three a b c r
set_option maxRecDepth 100000 in
set_option maxHeartbeats 1000000 in
theorem mayMark_any (s : ByteArray) (w : World) (hl : Laid w) : Calls Tryz.prog 74 #[.string s] w fun e w' => e = .returned (.bool (mayL s.data.toList)) ∧ w' = w := by
  obtain ⟨m0, m1, m2, e0, e1, e2, _⟩ := hl
  clear e0 e1 e2
  have HZ := hid (size_data s)
  have H0 : Hid (∀ w1, Calls Tryz.prog 40 #[.string ⟨#[239, 187, 191]⟩, .string s] w1 fun e w' => e = .returned (.bool (Lib.hasPrefix [239, 187, 191] s.data.toList)) ∧ w' = w1) := fun w1 => hasPrefix_c ⟨#[239, 187, 191]⟩ s w1
  have G0 : Hid (mayB s.data.toList [239, 187, 191] = (decide (s.size < 3) && Lib.hasPrefix [239, 187, 191] s.data.toList)) := by
    show _ = _
    unfold mayB; rw [HZ.out]; rfl
  have H1 : Hid (∀ w1, Calls Tryz.prog 40 #[.string ⟨#[255, 254]⟩, .string s] w1 fun e w' => e = .returned (.bool (Lib.hasPrefix [255, 254] s.data.toList)) ∧ w' = w1) := fun w1 => hasPrefix_c ⟨#[255, 254]⟩ s w1
  have G1 : Hid (mayB s.data.toList [255, 254] = (decide (s.size < 2) && Lib.hasPrefix [255, 254] s.data.toList)) := by
    show _ = _
    unfold mayB; rw [HZ.out]; rfl
  have H2 : Hid (∀ w1, Calls Tryz.prog 40 #[.string ⟨#[254, 255]⟩, .string s] w1 fun e w' => e = .returned (.bool (Lib.hasPrefix [254, 255] s.data.toList)) ∧ w' = w1) := fun w1 => hasPrefix_c ⟨#[254, 255]⟩ s w1
  have G2 : Hid (mayB s.data.toList [254, 255] = (decide (s.size < 2) && Lib.hasPrefix [254, 255] s.data.toList)) := by
    show _ = _
    unfold mayB; rw [HZ.out]; rfl
  rw [may_eq]
  generalize mayB s.data.toList [239, 187, 191] = c0 at G0 ⊢
  generalize Lib.hasPrefix [239, 187, 191] s.data.toList = b0 at G0 H0
  generalize mayB s.data.toList [255, 254] = c1 at G1 ⊢
  generalize Lib.hasPrefix [255, 254] s.data.toList = b1 at G1 H1
  generalize mayB s.data.toList [254, 255] = c2 at G2 ⊢
  generalize Lib.hasPrefix [254, 255] s.data.toList = b2 at G2 H2
  clear HZ
  go_enter Tryz.func74, Tryz.ntmps74
  go_wp2_with fail
  go_loop [6] (fun i => i = .int .i64 0 ∨ (i = .int .i64 1 ∧ c0 = false) ∨ (i = .int .i64 2 ∧ c0 = false ∧ c1 = false) ∨ (i = .int .i64 3 ∧ c0 = false ∧ c1 = false ∧ c2 = false)) (fun i => 3 - (intOf i).toNat)
  case atStart => exact .inl rfl
  case round =>
    rcases hrel with rfl | ⟨rfl, rfl⟩ | ⟨rfl, rfl, rfl⟩ | ⟨rfl, rfl, rfl, rfl⟩
    · by_cases hd : s.size < 3
      · have hd2 : decide ((s.size : Int) < 3) = true := decide_eq_true (by omega)
        cases b0 with
        | true =>
          obtain rfl : c0 = true := by rw [G0.out, decide_eq_true hd]; rfl
          clear hd
          go_wp2_with fail
          refine (H0.out _).mono ?_
          rintro e _ ⟨rfl, rfl⟩
          go_wp2_with fail
          go_ret
          exact ⟨by simp, rfl⟩
        | false =>
          obtain rfl : c0 = false := by rw [G0.out, decide_eq_true hd]; rfl
          clear hd
          go_wp2_with fail
          refine (H0.out _).mono ?_
          rintro e _ ⟨rfl, rfl⟩
          go_wp2_with fail
          go_round
          case rel => simp
          case measure => decide
      · have hd2 : decide ((s.size : Int) < 3) = false := decide_eq_false (by omega)
        obtain rfl : c0 = false := by rw [G0.out, decide_eq_false hd]; rfl
        clear hd
        go_wp2_with fail
        go_round
        case rel => simp
        case measure => decide
    · by_cases hd : s.size < 2
      · have hd2 : decide ((s.size : Int) < 2) = true := decide_eq_true (by omega)
        cases b1 with
        | true =>
          obtain rfl : c1 = true := by rw [G1.out, decide_eq_true hd]; rfl
          clear hd
          go_wp2_with fail
          refine (H1.out _).mono ?_
          rintro e _ ⟨rfl, rfl⟩
          go_wp2_with fail
          go_ret
          exact ⟨by simp, rfl⟩
        | false =>
          obtain rfl : c1 = false := by rw [G1.out, decide_eq_true hd]; rfl
          clear hd
          go_wp2_with fail
          refine (H1.out _).mono ?_
          rintro e _ ⟨rfl, rfl⟩
          go_wp2_with fail
          go_round
          case rel => simp
          case measure => decide
      · have hd2 : decide ((s.size : Int) < 2) = false := decide_eq_false (by omega)
        obtain rfl : c1 = false := by rw [G1.out, decide_eq_false hd]; rfl
        clear hd
        go_wp2_with fail
        go_round
        case rel => simp
        case measure => decide
    · by_cases hd : s.size < 2
      · have hd2 : decide ((s.size : Int) < 2) = true := decide_eq_true (by omega)
        cases b2 with
        | true =>
          obtain rfl : c2 = true := by rw [G2.out, decide_eq_true hd]; rfl
          clear hd
          go_wp2_with fail
          refine (H2.out _).mono ?_
          rintro e _ ⟨rfl, rfl⟩
          go_wp2_with fail
          go_ret
          exact ⟨by simp, rfl⟩
        | false =>
          obtain rfl : c2 = false := by rw [G2.out, decide_eq_true hd]; rfl
          clear hd
          go_wp2_with fail
          refine (H2.out _).mono ?_
          rintro e _ ⟨rfl, rfl⟩
          go_wp2_with fail
          go_round
          case rel => simp
          case measure => decide
      · have hd2 : decide ((s.size : Int) < 2) = false := decide_eq_false (by omega)
        obtain rfl : c2 = false := by rw [G2.out, decide_eq_false hd]; rfl
        clear hd
        go_wp2_with fail
        go_round
        case rel => simp
        case measure => decide
    · go_wp2_with fail
      go_ret
      exact ⟨rfl, rfl⟩
end Go.Proofs.YtgfndlbmolnblaaGreatDoor

/- What the rows list of package sniff's two tables, as the walks ask it. -/
namespace Go.Proofs.YtgfndlbmolnblaaGreatDoor

/-- A table of strings as a row lists it. -/
def strData {H : Type} (zs : List (List UInt8)) : DataW H := .agg (zs.map fun z => .lit (.string z))
/-- An array of strings that reads as the table holds the table's strings, cell for cell. -/
theorem cells_of_strs {H : Type} {enc : TypeId × Value → H} {P : Program} {w : World} {base : Nat} {sp : Nat → Bool} {held : Bool} {fuel : Nat} {t e : TypeId} {n : Nat} {cs : List Value} {zs : List (List UInt8)} {p : List MemPlace}
    (ht : P.underlying t = some (.array n e)) (he : P.underlying e = some .string) (hce : P.cellsOf e = 1) (hct : P.cellsOf t = n)
    (h : DataW.trod enc P w base sp held fuel t cs = some (strData zs, p)) : cs = zs.map fun z => Value.string ⟨z.toArray⟩ := by
  cases fuel with
  | zero => simp [DataW.trod] at h
  | succ fuel =>
    simp only [DataW.trod, ht, hce, hct, Nat.mul_one] at h
    split at h
    · rename_i hl
      obtain ⟨xs, hm, hx⟩ := Option.map_eq_some_iff.1 h
      have hxs : xs.map (·.1) = zs.map fun z => (DataW.lit (.string z) : DataW H) := by
        have := congrArg Prod.fst hx
        simpa [strData] using this
      have hxl : xs.length = n := by simpa using Lib.mapM_length hm
      have hzl : zs.length = n := by
        have := congrArg List.length hxs
        simp at this
        omega
      apply List.ext_getElem?
      intro i
      by_cases hi : i < n
      · obtain ⟨b, hb, hf⟩ := Lib.mapM_at hm i i (by simp [hi])
        obtain ⟨z, hc, rfl, _⟩ := DataW.trod_string he hf
        have h1 : cs[i]? = some (.string z) := by
          have := congrArg (·[0]?) hc
          simpa [List.getElem?_take, List.getElem?_drop] using this
        have h2 : (xs.map (·.1))[i]? = some (DataW.lit (.string z.data.toList) : DataW H) := by simp [hb]
        rw [hxs] at h2
        simp only [List.getElem?_map, Option.map_eq_some_iff, DataW.lit.injEq, Lit.string.injEq] at h2
        obtain ⟨z', hz', e2⟩ := h2
        rw [h1, List.getElem?_map, hz', e2]
        simp
      · rw [List.getElem?_eq_none (by omega), List.getElem?_eq_none (by simp; omega)]
    · cases h
theorem strs_of_head {P : Program} {W : World} {name : String} {zs : List (List UInt8)} {rest : List (String × DataW Unit)} {g : Nat} {t e : TypeId} {n : Nat}
    (hg : P.globalNamed name = some g) (hty : (P.globals[g]?).map (·.type) = some t) (ht : P.underlying t = some (.array n e)) (he : P.underlying e = some .string) (hce : P.cellsOf e = 1) (hct : P.cellsOf t = n)
    (h : laidMet P ((name, strData zs) :: rest) W) : W.var? P name = some (zs.map fun z => Value.string ⟨z.toArray⟩).toArray := by
  obtain ⟨ps, ⟨g', t', cs, fuel, p, q, hg', ht', hvar, hd, _, _⟩, _⟩ := h
  obtain rfl := Option.some.inj (hg.symm.trans hg')
  obtain rfl := Option.some.inj (hty.symm.trans ht')
  rw [hvar, ← cells_of_strs ht he hce hct hd]

theorem gMarks : Tryz.prog.globalNamed "plumbline/sniff.marks" = some 0 := by kernel_rfl
theorem gMarked : Tryz.prog.globalNamed "plumbline/sniff.marked" = some 1 := by kernel_rfl
theorem tMarks : (Tryz.prog.globals[0]?).map (·.type) = some 70 := by kernel_rfl
theorem tMarked : (Tryz.prog.globals[1]?).map (·.type) = some 72 := by kernel_rfl

/-- The tables hold what the rows list. -/
theorem laid_of {W : World} {x : String × DataW Unit} {rest : List (String × DataW Unit)} (h : laidMet Tryz.prog (x :: ("plumbline/sniff.marks", Rows.laid_plumbline_sniff_marks) :: ("plumbline/sniff.marked", Rows.laid_plumbline_sniff_marked) :: rest) W) : Laid W := by
  have h1 := h.tail
  have h2 := h1.tail
  have k1 := strs_of_head (zs := [[239, 187, 191], [255, 254], [254, 255]]) gMarks tMarks Tryz.underlying70 Tryz.underlying9 (by kernel_rfl) (by kernel_rfl) h1
  have k2 := Lib.tabIs_of_head (k := .i64) (zs := [1, 5, 6]) gMarked tMarked Tryz.underlying72 Tryz.underlying3 (by kernel_rfl) (by kernel_rfl) h2
  have c := fun i => World.var?_cell gMarks k1 i
  have e0 := k2.cell gMarked 0 (by decide)
  exact ⟨c 0, c 1, c 2, e0, k2.cell gMarked 1 (by decide), k2.cell gMarked 2 (by decide), World.block_lt_of_cell? W _ e0⟩
end Go.Proofs.YtgfndlbmolnblaaGreatDoor

/- The walks over the laws SniffWindow and SniffStays. -/
namespace Go.Proofs.YtgfndlbmolnblaaGreatDoor
open Go.RowKit

def exA : ByteArray := ⟨#[255, 254, 97]⟩
def exB : ByteArray := ⟨#[60, 109, 101, 116, 97, 32, 99, 104, 97, 114, 115, 101, 116, 61, 34, 116, 119, 105, 110, 34, 62]⟩
theorem exA_is : markL [255, 254, 97] = (5, 2) := by decide +kernel
theorem exB_is : labelL [60, 109, 101, 116, 97, 32, 99, 104, 97, 114, 115, 101, 116, 61, 34, 116, 119, 105, 110, 34, 62] = (3, true) := by decide +kernel

end Go.Proofs.YtgfndlbmolnblaaGreatDoor
