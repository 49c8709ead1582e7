/- 11 texts of this proof in one file: ShelfC, SnM, SnM2, SnW, SnW2, SnW3, SnMk, SnLaid, SnLaw, SnRef, SnRef2. -/
import Derived.Shelf.Strings.Prefix
import Derived.Shelf.Small.Strs
import Derived.Test.YtmdnpgcnbpppfaaGreatDoorProg
import Derived.Test.YtmdnpgcnbpppfaaGreatDoorQL
import Derived.Deep.QuietTactic
import Derived.BigQuiet
import Derived.Lib.LaidTab
import Derived.Test.YtmdnpgcnbpppfaaGreatDoorRows
import Derived.Stop.LaidErr
import Derived.MakeChecks
import Derived.Deep.DeepCutAuto
/- The library's contracts of strings.HasPrefix and strings.IndexByte at this program: each fact by the kernel. -/
namespace Go.Proofs.YtmdnpgcnbpppfaaGreatDoor
open Go.RowKit
open Go.Shelf
def lays99_ren : Go.Shelf.Ren := ⟨fun | 99 => 36 | 206 => 52 | n => n, fun | 3 => 3 | 4 => 4 | 9 => 9 | n => n, fun n => n⟩
theorem lays99 : Go.Proofs.Lays.n99 Tryz.prog lays99_ren := {
  mixed := by kernel_rfl
  f99 := Tryz.func36.trans (congrArg some (by kernel_rfl))
  f206 := Tryz.func52.trans (congrArg some (by kernel_rfl))
  t3 := Tryz.underlying3
  a3 := Tryz.isAgg3
  z3 := Tryz.sizeOf3
  v3 := Tryz.zeroValue3
  t4 := Tryz.underlying4
  a4 := Tryz.isAgg4
  z4 := Tryz.sizeOf4
  v4 := Tryz.zeroValue4
  t9 := Tryz.underlying9
  a9 := Tryz.isAgg9
  z9 := Tryz.sizeOf9
  v9 := Tryz.zeroValue9 }
def lays137_ren : Go.Shelf.Ren := ⟨fun | 137 => 41 | 217 => 59 | 266 => 90 | n => n, fun | 3 => 3 | 5 => 5 | 9 => 9 | n => n, fun n => n⟩
theorem lays137 : Go.Proofs.Lays.n137 Tryz.prog lays137_ren := {
  mixed := by kernel_rfl
  f137 := Tryz.func41.trans (congrArg some (by kernel_rfl))
  f217 := Tryz.func59.trans (congrArg some (by kernel_rfl))
  f266 := Tryz.func90.trans (congrArg some (by kernel_rfl))
  t3 := Tryz.underlying3
  a3 := Tryz.isAgg3
  z3 := Tryz.sizeOf3
  v3 := Tryz.zeroValue3
  t5 := Tryz.underlying5
  a5 := Tryz.isAgg5
  z5 := Tryz.sizeOf5
  v5 := Tryz.zeroValue5
  t9 := Tryz.underlying9
  a9 := Tryz.isAgg9
  z9 := Tryz.sizeOf9
  v9 := Tryz.zeroValue9 }
theorem hasPrefix_c (s p : ByteArray) (w : World) : Calls Tryz.prog 36 #[.string s, .string p] w fun e w' => e = .returned (.bool (Lib.hasPrefix s.data.toList p.data.toList)) ∧ w' = w := Any.strings_HasPrefix lays99 s p w
theorem indexByte_c (s : ByteArray) (c : Int) (w : World) : Calls Tryz.prog 41 #[.string s, .int .u8 c] w fun e w' => e = .returned (.int .i64 (Lib.indexByte s.data.toList c.toNat.toUInt8)) ∧ w' = w := Any.strings_IndexByte lays137 s c w
end Go.Proofs.YtmdnpgcnbpppfaaGreatDoor

/- Marks and labels among the first bytes as plain functions; that what is sure stays. -/
namespace Go.Proofs.YtmdnpgcnbpppfaaGreatDoor

/- marks -/
def markL (l : List UInt8) : Int × Int :=
  if l.take 3 = [239, 187, 191] then (1, 3) else if l.take 2 = [255, 254] then (5, 2) else if l.take 2 = [254, 255] then (6, 2) else (0, 0)
def mayL (l : List UInt8) : Bool := l == [] || l == [239] || l == [239, 187] || l == [255] || l == [254]

/- labels -/
/-- The letters that are searched. -/
def kwL : List UInt8 := [99, 104, 97, 114, 115, 101, 116, 61]
inductive Sn where
  | stop
  | skip
  | hit (e : Int)
def isEndB (b : UInt8) : Bool := b == 32 || b == 9 || b == 10 || b == 13 || b == 59 || b == 34 || b == 39 || b == 62
/-- How many bytes stand ahead of the first end. -/
def upTo (p : UInt8 → Bool) : List UInt8 → Nat
  | [] => 0
  | b :: r => if p b then 0 else upTo p r + 1
/-- What a label's number counts for: the wide ones mean Utf. -/
def asUtf (e : Int) : Int := if 5 ≤ e then 1 else e
def bodyL (p : UInt8 → Bool) (v : List UInt8) : Sn :=
  if 40 < upTo p v then .skip
  else if upTo p v = v.length then .stop
  else if 0 < asUtf (findL (v.take (upTo p v))) then .hit (asUtf (findL (v.take (upTo p v)))) else .skip
def valL : List UInt8 → Sn
  | 34 :: v => bodyL (· == 34) v
  | 39 :: v => bodyL (· == 39) v
  | v => bodyL isEndB v
def atL (r : List UInt8) : Sn :=
  if r.length < 8 then (if (r.map lowB).isPrefixOf kwL then .stop else .skip)
  else if (r.map lowB).take 8 = kwL then valL (r.drop 8) else .skip
def srchL : List UInt8 → Int
  | [] => 0
  | b :: r => match atL (b :: r) with
    | .stop => 0
    | .skip => srchL r
    | .hit e => e
/-- The label among the first bytes, and whether that is sure. -/
def labelL (s : List UInt8) : Int × Bool :=
  if 0 < srchL (s.take 256) then (srchL (s.take 256), true) else (0, decide (256 ≤ s.length))

/- what is sure stays -/
theorem upTo_le (p : UInt8 → Bool) : ∀ v : List UInt8, upTo p v ≤ v.length
  | [] => Nat.le_refl _
  | b :: r => by
    simp only [upTo, List.length_cons]
    have := upTo_le p r
    split <;> omega
theorem upTo_app (p : UInt8 → Bool) (t : List UInt8) : ∀ v : List UInt8, upTo p v < v.length → upTo p (v ++ t) = upTo p v
  | [], h => absurd h (Nat.lt_irrefl _)
  | b :: r, h => by
    simp only [upTo, List.cons_append, List.length_cons] at h ⊢
    split
    · rfl
    · rename_i hb
      rw [if_neg hb] at h
      rw [upTo_app p t r (by omega)]
theorem upTo_ge (p : UInt8 → Bool) (t : List UInt8) : ∀ v : List UInt8, upTo p v ≤ upTo p (v ++ t)
  | [] => Nat.zero_le _
  | b :: r => by
    simp only [upTo, List.cons_append]
    have := upTo_ge p t r
    split <;> omega
theorem bodyL_app (p : UInt8 → Bool) (v t : List UInt8) (h : bodyL p v ≠ .stop) : bodyL p (v ++ t) = bodyL p v := by
  unfold bodyL at h ⊢
  by_cases h1 : 40 < upTo p v
  · have := upTo_ge p t v
    rw [if_pos h1, if_pos (by omega)]
  rw [if_neg h1] at h ⊢
  by_cases h2 : upTo p v = v.length
  · rw [if_pos h2] at h; exact absurd rfl h
  · have h3 := upTo_le p v
    have h4 := upTo_app p t v (by omega)
    rw [h4, if_neg h1, if_neg h2, if_neg (by simp; omega), List.take_append_of_le_length (by omega)]
theorem valL_app (v t : List UInt8) (h : valL v ≠ .stop) : valL (v ++ t) = valL v := by
  cases v with
  | nil => exact absurd rfl h
  | cons b r =>
    by_cases h1 : b = 34
    · subst h1; exact bodyL_app _ _ _ h
    by_cases h2 : b = 39
    · subst h2; exact bodyL_app _ _ _ h
    have e : ∀ x : List UInt8, valL (b :: x) = bodyL isEndB (b :: x) := fun x => by
      unfold valL
      split
      · rename_i h3; exact absurd (List.cons.inj h3).1 h1
      · rename_i h3; exact absurd (List.cons.inj h3).1 h2
      · rfl
    rw [e] at h
    rw [List.cons_append, e, e]
    exact bodyL_app isEndB (b :: r) t h
theorem pre_app {a b : List UInt8} : ∀ {k : List UInt8}, (a ++ b).isPrefixOf k = true → a.isPrefixOf k = true := by
  induction a with
  | nil => intro k _; simp [List.isPrefixOf]
  | cons x r ih =>
    intro k h
    cases k with
    | nil => simp at h
    | cons y s =>
      simp only [List.cons_append, List.isPrefixOf, Bool.and_eq_true] at h ⊢
      exact ⟨h.1, ih h.2⟩
theorem take_pre (a b : List UInt8) (h : (a ++ b).take 8 = kwL) (ha : a.length < 8) : a.isPrefixOf kwL = true := by
  rw [← h, List.take_append, List.take_of_length_le (by omega)]
  exact List.isPrefixOf_iff_prefix.2 (List.prefix_append _ _)
theorem atL_app (r t : List UInt8) (h : atL r ≠ .stop) : atL (r ++ t) = atL r := by
  unfold atL at h ⊢
  by_cases h1 : r.length < 8
  · rw [if_pos h1] at h ⊢
    by_cases h2 : (r.map lowB).isPrefixOf kwL = true
    · rw [if_pos h2] at h; exact absurd rfl h
    rw [if_neg h2]
    by_cases h3 : (r ++ t).length < 8
    · rw [if_pos h3, if_neg (fun h4 => h2 (pre_app (by rw [List.map_append] at h4; exact h4)))]
    · rw [if_neg h3, if_neg (fun h4 => h2 (take_pre _ _ (by rw [List.map_append] at h4; exact h4) (by simpa using h1)))]
  · rw [if_neg h1] at h ⊢
    rw [if_neg (by simp; omega), List.map_append, List.take_append_of_le_length (by simp; omega), List.drop_append_of_le_length (by omega)]
    by_cases h2 : (r.map lowB).take 8 = kwL
    · rw [if_pos h2] at h ⊢
      rw [if_pos h2]
      exact valL_app _ _ h
    · rw [if_neg h2, if_neg h2]
theorem bodyL_pos (p : UInt8 → Bool) (v : List UInt8) (e : Int) (h : bodyL p v = .hit e) : 0 < e := by
  unfold bodyL at h
  split at h
  · cases h
  split at h
  · cases h
  split at h
  · rename_i h3; cases h; exact h3
  · cases h
theorem valL_pos (v : List UInt8) (e : Int) (h : valL v = .hit e) : 0 < e := by
  unfold valL at h
  split at h <;> exact bodyL_pos _ _ _ h
theorem atL_pos (r : List UInt8) (e : Int) (h : atL r = .hit e) : 0 < e := by
  unfold atL at h
  split at h
  · split at h <;> cases h
  split at h
  · exact valL_pos _ _ h
  · cases h
theorem srchL_app (t : List UInt8) : ∀ r : List UInt8, 0 < srchL r → srchL (r ++ t) = srchL r
  | [], h => absurd h (by simp [srchL])
  | b :: r, h => by
    simp only [List.cons_append, srchL] at h ⊢
    have ha := atL_app (b :: r) t
    rw [List.cons_append] at ha
    cases hx : atL (b :: r) with
    | stop => rw [hx] at h; exact absurd h (by simp)
    | skip =>
      rw [hx] at h
      rw [ha (by rw [hx]; exact fun k => by cases k), hx]
      exact srchL_app t r h
    | hit e => rw [ha (by rw [hx]; exact fun k => by cases k), hx]
theorem srchL_nonneg : ∀ r : List UInt8, 0 ≤ srchL r
  | [] => by simp [srchL]
  | b :: r => by
    simp only [srchL]
    cases hx : atL (b :: r) with
    | stop => exact Int.le_refl _
    | skip => exact srchL_nonneg r
    | hit e => exact Int.le_of_lt (atL_pos _ _ hx)
/-- What is sure of a label does not change by what comes. -/
theorem labelL_stays (s t : List UInt8) (h : (labelL s).2 = true) : labelL (s ++ t) = labelL s := by
  unfold labelL at h ⊢
  by_cases hz : 256 ≤ s.length
  · rw [List.take_append_of_le_length hz]
    rw [show decide (256 ≤ (s ++ t).length) = decide (256 ≤ s.length) by simp; omega]
  · by_cases hp : 0 < srchL (s.take 256)
    · have e : srchL ((s ++ t).take 256) = srchL (s.take 256) := by
        rw [List.take_of_length_le (by omega : s.length ≤ 256)] at hp ⊢
        rw [List.take_append, List.take_of_length_le (by omega : s.length ≤ 256)]
        exact srchL_app _ s hp
      rw [e, if_pos hp, if_pos hp]
    · rw [if_neg hp] at h
      simp at h
      omega
theorem labelL_some (s : List UInt8) (h : (labelL s).1 ≠ 0) : (labelL s).2 = true := by
  unfold labelL at h ⊢
  split
  · rfl
  · rename_i hp
    rw [if_neg hp] at h
    exact absurd rfl h
theorem labelL_window (s t : List UInt8) (h : s.length = 256) : labelL (s ++ t) = labelL s ∧ (labelL s).2 = true := by
  have h2 : (labelL s).2 = true := by
    unfold labelL
    split
    · rfl
    · simp [h]
  exact ⟨labelL_stays s t h2, h2⟩
theorem mayL_three (a b c : UInt8) (r : List UInt8) : mayL (a :: b :: c :: r) = false := by simp [mayL]
theorem markL_three (a b c : UInt8) (r t : List UInt8) : markL (a :: b :: c :: r ++ t) = markL (a :: b :: c :: r) := by simp [markL]
theorem markL_one (a : UInt8) : markL [a] = (0, 0) := by simp [markL]
/-- What is sure of a mark does not change by what comes. -/
theorem mark_stays (s t : List UInt8) (h : (markL s).1 ≠ 0 ∨ mayL s = false) : markL (s ++ t) = markL s ∧ mayL (s ++ t) = false := by
  match s, h with
  | [], h => simp [markL, mayL] at h
  | [a], h =>
    rw [markL_one] at h ⊢
    have h1 : mayL [a] = false := by simpa using h
    simp [mayL] at h1
    obtain ⟨⟨n1, n2⟩, n3⟩ := h1
    constructor
    · simp [markL, n1, n2, n3]
    · cases t with
      | nil => simp [mayL, n1, n2, n3]
      | cons x r => cases r <;> simp [mayL, n1]
  | [a, b], h =>
    have hm : mayL ([a, b] ++ t) = false := by
      cases t with
      | cons x r => exact mayL_three a b x r
      | nil =>
        rcases h with h | h
        · by_cases c1 : a = 239
          · subst c1; simp [markL] at h
          · simp [mayL, c1]
        · exact h
    refine ⟨?_, hm⟩
    by_cases c1 : a = 239 ∧ b = 187
    · obtain ⟨rfl, rfl⟩ := c1
      rcases h with h | h
      · simp [markL] at h
      · simp [mayL] at h
    · cases t with
      | nil => simp
      | cons x r =>
        have n : ¬ (a = 239 ∧ b = 187 ∧ x = 191) := fun k => c1 ⟨k.1, k.2.1⟩
        simp [markL, n]
  | a :: b :: c :: r, h => exact ⟨markL_three a b c r t, by rw [List.cons_append, List.cons_append, List.cons_append]; exact mayL_three a b c (r ++ t)⟩
end Go.Proofs.YtmdnpgcnbpppfaaGreatDoor

/- The steps of the search for a label, as the program takes them. -/
namespace Go.Proofs.YtmdnpgcnbpppfaaGreatDoor

/-- The letters are there. -/
def keyF (r : List UInt8) : Bool := (r.map lowB).take 8 == kwL
/-- The bytes end before that is certain. -/
def keyC (r : List UInt8) : Bool := decide (r.length < 8) && (r.map lowB).isPrefixOf kwL
theorem keyF_len (r : List UInt8) (h : keyF r = true) : 8 ≤ r.length := by
  have h1 := congrArg List.length (eq_of_beq h)
  simp [kwL] at h1
  omega
theorem at_cut (r : List UInt8) (h : keyC r = true) : atL r = .stop := by
  simp only [keyC, Bool.and_eq_true, decide_eq_true_eq] at h
  unfold atL
  rw [if_pos h.1, if_pos h.2]
theorem at_not (r : List UInt8) (h : keyC r = false) (h2 : keyF r = false) : atL r = .skip := by
  unfold atL
  by_cases h1 : r.length < 8
  · rw [if_pos h1]
    simp only [keyC, h1, decide_true, Bool.true_and] at h
    rw [if_neg (by simp [h])]
  · rw [if_neg h1, if_neg (ne_of_beq_false h2)]
theorem at_key (r : List UInt8) (h : keyF r = true) : atL r = valL (r.drop 8) := by
  unfold atL
  have := keyF_len r h
  rw [if_neg (by omega), if_pos (eq_of_beq h)]
/-- Which bytes end a value, and where it begins. -/
def valP : List UInt8 → UInt8 → Bool
  | 34 :: _ => (· == 34)
  | 39 :: _ => (· == 39)
  | _ => isEndB
def valR : List UInt8 → List UInt8
  | 34 :: v => v
  | 39 :: v => v
  | v => v
theorem valL_eq (v : List UInt8) : valL v = bodyL (valP v) (valR v) := by
  unfold valL valP valR
  split <;> simp
/-- The value, and whether it has an end. -/
def valV (v : List UInt8) : List UInt8 := (valR v).take (upTo (valP v) (valR v))
def valE (v : List UInt8) : Bool := decide (upTo (valP v) (valR v) < (valR v).length)
theorem valV_len (v : List UInt8) : (valV v).length = upTo (valP v) (valR v) := by
  unfold valV
  rw [List.length_take]
  have := upTo_le (valP v) (valR v)
  omega
theorem val_long (v : List UInt8) (h : 40 < (valV v).length) : valL v = .skip := by
  rw [valV_len] at h
  rw [valL_eq]; unfold bodyL; rw [if_pos h]
theorem val_open (v : List UInt8) (h : ¬ 40 < (valV v).length) (h2 : valE v = false) : valL v = .stop := by
  rw [valV_len] at h
  simp only [valE, decide_eq_false_iff_not] at h2
  have := upTo_le (valP v) (valR v)
  rw [valL_eq]; unfold bodyL; rw [if_neg h, if_pos (by omega)]
theorem val_end (v : List UInt8) (h : ¬ 40 < (valV v).length) (h2 : valE v = true) : valL v = if 0 < asUtf (findL (valV v)) then .hit (asUtf (findL (valV v))) else .skip := by
  rw [valV_len] at h
  simp only [valE, decide_eq_true_eq] at h2
  rw [valL_eq]; unfold bodyL; rw [if_neg h, if_neg (by omega)]; rfl
theorem labelOf_range (t : List UInt8) : 0 ≤ labelOf t ∧ labelOf t ≤ 6 := by
  unfold labelOf
  repeat' split
  all_goals omega
theorem findL_range (l : List UInt8) : 0 ≤ findL l ∧ findL l ≤ 6 := by
  unfold findL
  split
  · omega
  · exact labelOf_range _
/-- The search from a place on. -/
theorem srch_stop (r : List UInt8) (h : atL r = .stop) : srchL r = 0 := by
  cases r with
  | nil => rfl
  | cons b r => simp only [srchL, h]
theorem srch_skip (b : UInt8) (r : List UInt8) (h : atL (b :: r) = .skip) : srchL (b :: r) = srchL r := by
  simp only [srchL, h]
theorem srch_hit (b : UInt8) (r : List UInt8) (e : Int) (h : atL (b :: r) = .hit e) : srchL (b :: r) = e := by
  simp only [srchL, h]
end Go.Proofs.YtmdnpgcnbpppfaaGreatDoor

/- The walks over package sniff: the search for a label. -/
namespace Go.Proofs.YtmdnpgcnbpppfaaGreatDoor
open Go.RowKit

theorem drewN_below {B : Nat} {a w : World} (h : Below B a w) (n : Nat) : Below B a (w.drewN n) := ⟨h.os, h.tape, h.output, h.size, h.block⟩

set_option maxHeartbeats 400000 in
theorem slower_any (b : UInt8) (w : World) : Calls Tryz.prog 76 #[.int .u8 (b.toNat : Int)] w fun e w' => e = .returned (.int .u8 ((lowB b).toNat : Int)) ∧ w = w' := by
  have hlt := b.toNat_lt
  by_cases h : 65 ≤ b.toNat ∧ b.toNat ≤ 90
  · have HB := hid (lowB_yes b h)
    obtain ⟨h1, h2⟩ := h
    go_enter Tryz.func76, Tryz.ntmps76
    go_wp2
    go_ret
    exact ⟨congrArg (fun x => Ending.returned (.int .u8 x)) (by rw [HB.out]; simp [go_sem]; omega), rfl⟩
  · have HB := hid (lowB_no b h)
    have HN := hid h
    clear h
    go_enter Tryz.func76, Tryz.ntmps76
    go_wp2
    all_goals go_ret
    all_goals first
      | (exfalso; have := HN.out; omega)
      | exact ⟨by rw [HB.out]; rfl, rfl⟩

def kwA : ByteArray := ⟨#[99, 104, 97, 114, 115, 101, 116, 61]⟩
theorem kw_at (k : Nat) (h : k < 8) : kwL[k]? = some (kwA[k]'h) := by
  match k, h with
  | 0, _ => rfl
  | 1, _ => rfl
  | 2, _ => rfl
  | 3, _ => rfl
  | 4, _ => rfl
  | 5, _ => rfl
  | 6, _ => rfl
  | 7, _ => rfl

theorem key_ends (s : ByteArray) (k : Nat) (hz : k = s.size) (hk : k < 8) (he : (s.data.toList.map lowB).take k = kwL.take k) : keyC s.data.toList = true ∧ keyF s.data.toList = false := by
  have hl := size_data s
  rw [List.take_of_length_le (by simp; omega)] at he
  constructor
  · unfold keyC
    rw [decide_eq_true (by omega), he]
    exact List.isPrefixOf_iff_prefix.2 (List.take_prefix _ _)
  · cases h : keyF s.data.toList with
    | false => rfl
    | true => have := keyF_len _ h; omega
theorem low_at (s : ByteArray) (k : Nat) (h : k < s.size) : (s.data.toList.map lowB)[k]? = some (lowB s[k]) := by
  have h2 : k < s.data.toList.length := by rw [size_data]; exact h
  rw [List.getElem?_map, List.getElem?_eq_getElem h2]; rfl
theorem key_next (s : ByteArray) (k : Nat) (hk : k < 8) (h : k < s.size) (he : (s.data.toList.map lowB).take k = kwL.take k) (hq : lowB s[k] = kwA[k]'hk) : (s.data.toList.map lowB).take (k + 1) = kwL.take (k + 1) := by
  rw [List.take_add_one, List.take_add_one, he, low_at s k h, kw_at k hk, hq]
theorem key_other (s : ByteArray) (k : Nat) (hk : k < 8) (h : k < s.size) (hq : ¬ lowB s[k] = kwA[k]'hk) : keyC s.data.toList = false ∧ keyF s.data.toList = false := by
  have hl := low_at s k h
  have hw := kw_at k hk
  constructor
  · unfold keyC
    cases hp : (s.data.toList.map lowB).isPrefixOf kwL with
    | false => simp
    | true =>
      obtain ⟨t, ht⟩ := List.isPrefixOf_iff_prefix.1 hp
      rw [← ht, List.getElem?_append_left (by simp; omega), hl] at hw
      exact absurd (Option.some.inj hw) hq
  · cases hp : keyF s.data.toList with
    | false => rfl
    | true =>
      have e := eq_of_beq hp
      rw [← e, List.getElem?_take_of_lt hk, hl] at hw
      exact absurd (Option.some.inj hw) hq
set_option maxRecDepth 100000 in
set_option maxHeartbeats 1000000 in
theorem keyAt_any (s : ByteArray) (w : World) (hs : s.size ≤ 1125899906842624) : Calls Tryz.prog 53 #[.string s] w fun e w' => e = .returned (.tuple #[.bool (keyF s.data.toList), .bool (keyC s.data.toList)]) ∧ Below w.heap.size w w' := by
  have HL : Hid (∀ (b : UInt8) w1, Calls Tryz.prog 76 #[.int .u8 (b.toNat : Int)] w1 fun e w' => e = .returned (.int .u8 ((lowB b).toNat : Int)) ∧ w' = w1) := fun b w1 => (slower_any b w1).mono fun e w' ⟨a, b⟩ => ⟨a, b.symm⟩
  go_enter Tryz.func53, Tryz.ntmps53
  go_wp2_with fail
  go_loopw [5] (fun i wr => ∃ k : Nat, k ≤ 8 ∧ k ≤ s.size ∧ i = .int .i64 k ∧ (s.data.toList.map lowB).take k = kwL.take k ∧ Below w.heap.size w wr) (fun i _ => 8 - (intOf i).toNat)
  case atStart => exact ⟨0, by omega, by omega, rfl, rfl, Below.refl _ _⟩
  case round =>
    obtain ⟨k, hk8, hks, rfl, he, hb⟩ := hrel
    have HE := hid he
    clear he
    by_cases h8 : k = 8
    · subst h8
      have HF : Hid (keyF s.data.toList = true) := beq_iff_eq.2 HE.out
      have HC : Hid (keyC s.data.toList = false) := by
        show _ = _
        have := keyF_len _ HF.out
        unfold keyC
        rw [decide_eq_false (by omega)]; rfl
      go_wp2_with fail
      go_ret2
      exact ⟨by rw [HF.out, HC.out]; rfl, hb⟩
    · have hk : k < 8 := by omega
      by_cases hz : k = s.size
      · have HC : Hid (keyC s.data.toList = true ∧ keyF s.data.toList = false) := key_ends s k hz hk HE.out
        subst hz
        go_wp2_with fail
        go_ret2
        exact ⟨by rw [HC.out.1, HC.out.2]; rfl, hb⟩
      · have hks2 : k < s.size := by omega
        have HS := hid (HL.out s[k])
        have b0 : (0 : Int) ≤ (k : Int) := by omega
        have b1 : (k : Int) < (s.size : Int) := by omega
        have b2 : (k : Int) < 8 := by omega
        by_cases hq : lowB s[k] = kwA[k]'hk
        · have HN := hid (key_next s k hk hks2 HE.out hq)
          have hx : (((lowB s[k]).toNat : Int) != (((⟨#[99, 104, 97, 114, 115, 101, 116, 61]⟩ : ByteArray)[k]'hk).toNat : Int)) = false := by rw [hq]; exact bne_self_eq_false _
          clear hq
          go_wp2_with fail
          go_quiet ((first | (go_at_call 76; exact Calls.quiet_of_same (HS.out _))))
          go_wp2_with fail
          go_roundw
          case rel => exact ⟨k + 1, by omega, by omega, by go_num, HN.out, drewN_below hb _⟩
          case measure => simp [intOf]; omega
        · have HN : Hid (keyC s.data.toList = false ∧ keyF s.data.toList = false) := key_other s k hk hks2 hq
          have hx : (((lowB s[k]).toNat : Int) != (((⟨#[99, 104, 97, 114, 115, 101, 116, 61]⟩ : ByteArray)[k]'hk).toNat : Int)) = true := bne_iff_ne.2 fun h => hq (UInt8.toNat_inj.1 (Int.ofNat.inj h))
          clear hq
          go_wp2_with fail
          go_quiet ((first | (go_at_call 76; exact Calls.quiet_of_same (HS.out _))))
          go_wp2_with fail
          go_ret2
          exact ⟨by rw [HN.out.1, HN.out.2]; rfl, drewN_below hb _⟩

end Go.Proofs.YtmdnpgcnbpppfaaGreatDoor

/- The walks over package sniff: the value of a label. -/
namespace Go.Proofs.YtmdnpgcnbpppfaaGreatDoor
open Go.RowKit

/-- A string that stands for a set of bytes. -/
def SetC (set : ByteArray) (p : UInt8 → Bool) : Prop := ∀ (b : UInt8) (w : World), ∃ k : Int, Calls Tryz.prog 41 #[.string set, .int .u8 (b.toNat : Int)] w (fun e w' => e = .returned (.int .i64 k) ∧ w' = w) ∧ (p b = true → 0 ≤ k) ∧ (p b = false → k < 0)
theorem setC_of (set : ByteArray) (p : UInt8 → Bool) (h : ∀ b, (p b = true → 0 ≤ Lib.indexByte set.data.toList b) ∧ (p b = false → Lib.indexByte set.data.toList b < 0)) : SetC set p := fun b w =>
  ⟨_, (indexByte_c set (b.toNat : Int) w).mono fun e w' ⟨h1, h2⟩ => by
    rw [show ((b.toNat : Int)).toNat.toUInt8 = b by simp] at h1
    exact ⟨h1, h2⟩, (h b).1, (h b).2⟩
theorem set34_fin : ∀ n : Fin 256, ((UInt8.ofFin n == 34) = true → 0 ≤ Lib.indexByte [34] (UInt8.ofFin n)) ∧ ((UInt8.ofFin n == 34) = false → Lib.indexByte [34] (UInt8.ofFin n) < 0) := by decide +kernel
theorem set39_fin : ∀ n : Fin 256, ((UInt8.ofFin n == 39) = true → 0 ≤ Lib.indexByte [39] (UInt8.ofFin n)) ∧ ((UInt8.ofFin n == 39) = false → Lib.indexByte [39] (UInt8.ofFin n) < 0) := by decide +kernel
theorem setQ_fin : ∀ n : Fin 256, ((UInt8.ofFin n == 34 || UInt8.ofFin n == 39) = true → 0 ≤ Lib.indexByte [34, 39] (UInt8.ofFin n)) ∧ ((UInt8.ofFin n == 34 || UInt8.ofFin n == 39) = false → Lib.indexByte [34, 39] (UInt8.ofFin n) < 0) := by decide +kernel
theorem setE_fin : ∀ n : Fin 256, (isEndB (UInt8.ofFin n) = true → 0 ≤ Lib.indexByte [32, 9, 10, 13, 59, 62, 34, 39] (UInt8.ofFin n)) ∧ (isEndB (UInt8.ofFin n) = false → Lib.indexByte [32, 9, 10, 13, 59, 62, 34, 39] (UInt8.ofFin n) < 0) := by decide +kernel
theorem setE2_fin : ∀ n : Fin 256, (isEndB (UInt8.ofFin n) = true → 0 ≤ Lib.indexByte [32, 9, 10, 13, 59, 34, 39, 62] (UInt8.ofFin n)) ∧ (isEndB (UInt8.ofFin n) = false → Lib.indexByte [32, 9, 10, 13, 59, 34, 39, 62] (UInt8.ofFin n) < 0) := by decide +kernel
theorem set34 (set : ByteArray) (h : set.data.toList = [34]) : SetC set (· == 34) := setC_of _ _ fun b => by rw [h]; exact set34_fin b.toFin
theorem set39 (set : ByteArray) (h : set.data.toList = [39]) : SetC set (· == 39) := setC_of _ _ fun b => by rw [h]; exact set39_fin b.toFin
theorem setQ : SetC ⟨#[34, 39]⟩ (fun b => b == 34 || b == 39) := setC_of _ _ fun b => setQ_fin b.toFin
theorem setE : SetC ⟨#[32, 9, 10, 13, 59, 62, 34, 39]⟩ isEndB := setC_of _ _ fun b => setE_fin b.toFin
theorem setE2 : SetC ⟨#[32, 9, 10, 13, 59, 34, 39, 62]⟩ isEndB := setC_of _ _ fun b => setE2_fin b.toFin

theorem drop_at (s : ByteArray) (k : Nat) (h : k < s.size) : s.data.toList.drop k = s[k] :: s.data.toList.drop (k + 1) := by
  have h2 : k < s.data.toList.length := by rw [size_data]; exact h
  exact List.drop_eq_getElem_cons h2

theorem ba_ext {a b : ByteArray} (h : a.data.toList = b.data.toList) : a = b := by
  cases a; cases b; exact congrArg ByteArray.mk (Array.toList_inj.1 h)
set_option maxRecDepth 100000 in
set_option maxHeartbeats 1000000 in
theorem upTo_any (s set : ByteArray) (p : UInt8 → Bool) (w : World) (hs : s.size ≤ 1125899906842624) (hp : SetC set p) : Calls Tryz.prog 77 #[.string s, .string set] w fun e w' => e = .returned (.tuple #[.string ⟨(s.data.toList.take (upTo p s.data.toList)).toArray⟩, .bool (decide (upTo p s.data.toList < s.data.toList.length))]) ∧ w' = w := by
  have HP := hid hp
  clear hp
  go_enter Tryz.func77, Tryz.ntmps77
  go_wp2_with fail
  go_loopw [9] (fun i wr => ∃ k : Nat, k ≤ s.size ∧ i = .int .i64 k ∧ upTo p (s.data.toList.drop k) + k = upTo p s.data.toList ∧ wr = w) (fun i _ => s.size - (intOf i).toNat)
  case atStart => exact ⟨0, by omega, rfl, rfl, rfl⟩
  case round =>
    obtain ⟨k, hks, rfl, he, rfl⟩ := hrel
    have HE := hid he
    clear he
    have HZ := hid (size_data s)
    by_cases hk : k < s.size
    · rw [drop_at s k hk] at HE
      by_cases hq : p s[k] = true
      · have HN : Hid (upTo p s.data.toList = k) := by
          show _ = _
          have := HE.out; simp only [upTo, hq, if_true] at this; omega
        obtain ⟨x, hc, hx, _⟩ := HP.out s[k] wr
        replace hx := hx hq
        have HC := hid hc
        clear hc hq
        go_wp2_with fail
        refine HC.out.mono ?_
        rintro e _ ⟨rfl, rfl⟩
        go_wp2_with fail
        go_ret2
        have hv : s.extract 0 k = ⟨(s.data.toList.take (upTo p s.data.toList)).toArray⟩ := ba_ext (by rw [HN.out, Lib.extract_data]; simp)
        have hd : decide (upTo p s.data.toList < s.data.toList.length) = true := decide_eq_true (by rw [HN.out, HZ.out]; exact hk)
        exact ⟨by rw [← hv, hd]; rfl, rfl⟩
      · have hq2 : p s[k] = false := by simpa using hq
        have HN : Hid (upTo p (s.data.toList.drop (k + 1)) + (k + 1) = upTo p s.data.toList) := by
          show _ = _
          have := HE.out; simp only [upTo, hq2, if_neg Bool.false_ne_true] at this; omega
        obtain ⟨x, hc, _, hx⟩ := HP.out s[k] wr
        replace hx := hx hq2
        have HC := hid hc
        clear hc hq hq2
        go_wp2_with fail
        refine HC.out.mono ?_
        rintro e _ ⟨rfl, rfl⟩
        go_wp2_with fail
        go_roundw
        case rel => exact ⟨k + 1, by omega, by go_num, HN.out, trivial⟩
        case measure => simp [intOf]; omega
    · have hk2 : k = s.size := by omega
      have HN : Hid (upTo p s.data.toList = s.size) := by
        show _ = _
        have := HE.out
        rw [List.drop_eq_nil_of_le (by rw [HZ.out]; omega)] at this
        simp only [upTo] at this; omega
      subst hk2
      go_wp2_with fail
      go_ret2
      have hv : s = ⟨(s.data.toList.take (upTo p s.data.toList)).toArray⟩ := ba_ext (by rw [HN.out, List.take_of_length_le (by rw [HZ.out]; exact Nat.le_refl _)])
      have hd : decide (upTo p s.data.toList < s.data.toList.length) = false := decide_eq_false (by rw [HN.out, HZ.out]; omega)
      exact ⟨by rw [← hv, hd]; rfl, rfl⟩

theorem valP_34 (v : List UInt8) : valP (34 :: v) = (· == 34) := rfl
theorem valP_39 (v : List UInt8) : valP (39 :: v) = (· == 39) := rfl
theorem val_plain (v : List UInt8) (b : UInt8) (h1 : b ≠ 34) (h2 : b ≠ 39) : valP (b :: v) = isEndB ∧ valR (b :: v) = b :: v := by
  constructor
  · unfold valP
    split
    · rename_i h3; exact absurd (List.cons.inj h3).1 h1
    · rename_i h3; exact absurd (List.cons.inj h3).1 h2
    · rfl
  · unfold valR
    split
    · rename_i h3; exact absurd (List.cons.inj h3).1 h1
    · rename_i h3; exact absurd (List.cons.inj h3).1 h2
    · rfl
theorem one_at (s : ByteArray) (h : 0 < s.size) : (s.extract 0 1).data.toList = [s[0]] := by
  rw [Lib.extract_data, cons_data s h]; rfl
theorem rest_at (s : ByteArray) (h : 0 < s.size) : s.data.toList = s[0] :: (s.extract 1 s.size).data.toList := by
  rw [Lib.extract_data, List.take_of_length_le (by simp)]
  exact cons_data s h

/-- What valueAt answers. -/
def ValC (l : List UInt8) (w : World) (e : Ending) (w' : World) : Prop := ∃ v : ByteArray, e = .returned (.tuple #[.string v, .bool (valE l)]) ∧ v.data.toList = valV l ∧ Below w.heap.size w w'
set_option maxRecDepth 100000 in
set_option maxHeartbeats 1000000 in
theorem valueAt_plain (s : ByteArray) (w : World) (hs : s.size ≤ 1125899906842624) (hp : valP s.data.toList = isEndB) (hr : valR s.data.toList = s.data.toList) (hq : s.toList.isEmpty = true ∨ ∃ h : 0 < s.size, s[0] ≠ 34 ∧ s[0] ≠ 39) : Calls Tryz.prog 54 #[.string s] w (ValC s.data.toList w) := by
  have HU : Hid (∀ w1, Calls Tryz.prog 77 #[.string s, .string ⟨#[32, 9, 10, 13, 59, 62, 34, 39]⟩] w1 (ValC s.data.toList w1)) := fun w1 => (upTo_any s _ isEndB w1 hs setE).mono fun e w' ⟨h1, h2⟩ => ⟨⟨(s.data.toList.take (upTo isEndB s.data.toList)).toArray⟩, by rw [h1, valE, hp, hr], by rw [valV, hp, hr], h2 ▸ Below.refl _ _⟩
  clear hp hr
  rcases hq with hq | ⟨h0, h1, h2⟩
  · go_enter Tryz.func54, Tryz.ntmps54
    go_wp2_with fail
    refine (HU.out _).mono ?_
    rintro e w1 ⟨v, rfl, hv, hb⟩
    go_wp2_with fail
    go_ret2
    exact ⟨v, rfl, hv, hb⟩
  · have hne := nonempty_of s h0
    obtain ⟨x, hc, _, hx⟩ := setQ s[0] w
    replace hx := hx (by simp [h1, h2])
    have HC := hid hc
    clear hc h1 h2
    go_enter Tryz.func54, Tryz.ntmps54
    go_wp2_with fail
    refine HC.out.mono ?_
    rintro e _ ⟨rfl, rfl⟩
    go_wp2_with fail
    refine (HU.out _).mono ?_
    rintro e w1 ⟨v, rfl, hv, hb⟩
    go_wp2_with fail
    go_ret2
    exact ⟨v, rfl, hv, hb⟩
set_option maxRecDepth 100000 in
set_option maxHeartbeats 1000000 in
theorem valueAt_quote (s : ByteArray) (w : World) (hs : s.size ≤ 1125899906842624) (h0 : 0 < s.size) (hq : s[0] = 34 ∨ s[0] = 39) : Calls Tryz.prog 54 #[.string s] w (ValC s.data.toList w) := by
  have HU : Hid (∀ w1, Calls Tryz.prog 77 #[.string (s.extract 1 s.size), .string (s.extract 0 1)] w1 fun e w' => e = .returned (.tuple #[.string ⟨(valV s.data.toList).toArray⟩, .bool (valE s.data.toList)]) ∧ w' = w1) := fun w1 => by
    have hz : (s.extract 1 s.size).size ≤ 1125899906842624 := by simp; omega
    have hr := rest_at s h0
    have ho := one_at s h0
    rcases hq with hq | hq
    · rw [hq] at hr ho
      rw [hr]
      exact upTo_any _ _ (· == 34) w1 hz (set34 _ ho)
    · rw [hq] at hr ho
      rw [hr]
      exact upTo_any _ _ (· == 39) w1 hz (set39 _ ho)
  have hne := nonempty_of s h0
  obtain ⟨x, hc, hx, _⟩ := setQ s[0] w
  replace hx := hx (by rcases hq with h | h <;> rw [h] <;> rfl)
  have HC := hid hc
  clear hc hq
  have b1 : (1 : Int) ≤ (s.size : Int) := by omega
  go_enter Tryz.func54, Tryz.ntmps54
  go_wp2_with fail
  refine HC.out.mono ?_
  rintro e _ ⟨rfl, rfl⟩
  go_wp2_with fail
  go_quiet ((first | (go_at_call 77; exact Calls.quiet_of_same (HU.out _))))
  go_wp2_with fail
  go_ret2
  exact ⟨_, rfl, rfl, drewN_below (Below.refl _ _) _⟩
theorem valueAt_any (s : ByteArray) (w : World) (hs : s.size ≤ 1125899906842624) : Calls Tryz.prog 54 #[.string s] w (ValC s.data.toList w) := by
  by_cases h0 : 0 < s.size
  · by_cases h1 : s[0] = 34
    · exact valueAt_quote s w hs h0 (.inl h1)
    by_cases h2 : s[0] = 39
    · exact valueAt_quote s w hs h0 (.inr h2)
    have h3 := val_plain (s.extract 1 s.size).data.toList s[0] h1 h2
    rw [← rest_at s h0] at h3
    exact valueAt_plain s w hs h3.1 h3.2 (.inr ⟨h0, h1, h2⟩)
  · have e : s.data.toList = [] := List.length_eq_zero_iff.1 (by rw [size_data]; omega)
    exact valueAt_plain s w hs (by rw [e]; rfl) (by rw [e]; rfl) (.inl (empty_of s h0))
set_option maxHeartbeats 400000 in
theorem readable_any (e : Int) (w : World) (h : 0 ≤ e ∧ e ≤ 6) : Calls Tryz.prog 55 #[.int .i64 e] w fun x w' => x = .returned (.int .i64 (asUtf e)) ∧ w = w' := by
  by_cases h5 : 5 ≤ e
  · have hu : asUtf e = 1 := if_pos h5
    rw [hu]
    obtain h | h : e = 5 ∨ e = 6 := by omega
    all_goals
      subst h
      go_enter Tryz.func55, Tryz.ntmps55
      go_wp2
      go_ret
      exact ⟨rfl, rfl⟩
  · have hu : asUtf e = e := if_neg h5
    rw [hu]
    have e1 : (e == 5) = false := beq_false_of_ne (by omega)
    have e2 : (e == 6) = false := beq_false_of_ne (by omega)
    clear hu
    go_enter Tryz.func55, Tryz.ntmps55
    go_wp2
    go_ret
    exact ⟨rfl, rfl⟩
end Go.Proofs.YtmdnpgcnbpppfaaGreatDoor

/- The walks over package sniff: the search and the label. -/
namespace Go.Proofs.YtmdnpgcnbpppfaaGreatDoor
open Go.RowKit

theorem ext_drop (s : ByteArray) (k : Nat) : (s.extract k s.size).data.toList = s.data.toList.drop k := by
  rw [Lib.extract_data, List.take_of_length_le (by simp)]

set_option maxRecDepth 100000 in
set_option maxHeartbeats 4000000 in
theorem search_any (s : ByteArray) (w : World) (hs : s.size ≤ 140737488355328) : Calls Tryz.prog 37 #[.string s] w fun e w' => e = .returned (.int .i64 (srchL s.data.toList)) ∧ Below w.heap.size w w' := by
  have HK : Hid (∀ k w1, Calls Tryz.prog 53 #[.string (s.extract k s.size)] w1 fun e w' => e = .returned (.tuple #[.bool (keyF (s.data.toList.drop k)), .bool (keyC (s.data.toList.drop k))]) ∧ Below w1.heap.size w1 w') := fun k w1 => by
    have := keyAt_any (s.extract k s.size) w1 (by simp; omega)
    rw [ext_drop] at this; exact this
  have HV : Hid (∀ k w1, Calls Tryz.prog 54 #[.string (s.extract k s.size)] w1 (ValC (s.data.toList.drop k) w1)) := fun k w1 => by
    have := valueAt_any (s.extract k s.size) w1 (by simp; omega)
    rw [ext_drop] at this; exact this
  go_enter Tryz.func37, Tryz.ntmps37
  go_wp2_with fail
  go_loopw [11] (fun i wr => ∃ k : Nat, k ≤ s.size ∧ i = .int .i64 k ∧ srchL (s.data.toList.drop k) = srchL s.data.toList ∧ Below w.heap.size w wr) (fun i _ => s.size - (intOf i).toNat)
  case atStart => exact ⟨0, by omega, rfl, rfl, Below.refl _ _⟩
  case round =>
    obtain ⟨k, hks, rfl, he, hb⟩ := hrel
    have HE := hid he
    clear he
    have HZ := hid (size_data s)
    by_cases hk : k < s.size
    · have HA := hid (HK.out k)
      have HD := hid (drop_at s k hk)
      have b1 : (k : Int) ≤ (s.size : Int) := by omega
      cases hc : keyC (s.data.toList.drop k) with
      | true =>
        have HR : Hid (srchL s.data.toList = 0) := by
          show _ = _
          rw [← HE.out]; exact srch_stop _ (at_cut _ hc)
        rw [hc] at HA
        clear hc
        go_wp2_with fail
        refine (HA.out _).mono ?_
        rintro e w1 ⟨rfl, hb1⟩
        go_wp2_with fail
        go_ret
        exact ⟨by rw [HR.out]; rfl, hb.trans (hb1.mono hb.size)⟩
      | false =>
        rw [hc] at HA
        cases hf : keyF (s.data.toList.drop k) with
        | false =>
          have HN : Hid (srchL (s.data.toList.drop (k + 1)) = srchL s.data.toList) := by
            show _ = _
            rw [← HE.out, HD.out]
            have := at_not _ hc hf
            rw [HD.out] at this
            exact (srch_skip _ _ this).symm
          rw [hf] at HA
          clear hf hc
          go_wp2_with fail
          refine (HA.out _).mono ?_
          rintro e w1 ⟨rfl, hb1⟩
          go_wp2_with fail
          go_roundw
          case rel => exact ⟨k + 1, by omega, by go_num, HN.out, hb.trans (hb1.mono hb.size)⟩
          case measure => simp [intOf]; omega
        | true =>
          have h8 : k + 8 ≤ s.size := by
            have := keyF_len _ hf
            rw [List.length_drop, HZ.out] at this; omega
          have HT := hid (at_key _ hf)
          rw [List.drop_drop] at HT
          have HW := hid (HV.out (k + 8))
          rw [hf] at HA
          clear hf hc
          have b8 : (k : Int) + 8 ≤ (s.size : Int) := by omega
          go_wp2_with fail
          refine (HA.out _).mono ?_
          rintro e w1 ⟨rfl, hb1⟩
          go_wp2_with fail
          refine (HW.out _).mono ?_
          rintro e w2 ⟨v, rfl, hv, hb2⟩
          have HB : Hid (Below w.heap.size w w2) := (hb.trans (hb1.mono hb.size)).trans (hb2.mono (hb.trans (hb1.mono hb.size)).size)
          have HL : Hid (v.size = (valV (s.data.toList.drop (k + 8))).length) := by
            show _ = _
            rw [← hv, size_data]
          have HV2 := hid hv
          clear hv hb2 hb1 hb HA HW
          by_cases hlong : 40 < v.size
          · have HN : Hid (srchL (s.data.toList.drop (k + 1)) = srchL s.data.toList) := by
              show _ = _
              rw [← HE.out, HD.out]
              have := HT.out.trans (val_long _ (by rw [← HL.out]; exact hlong))
              rw [HD.out] at this
              exact (srch_skip _ _ this).symm
            have b40 : (40 : Int) < (v.size : Int) := by omega
            go_wp2_with fail
            go_roundw
            case rel => exact ⟨k + 1, by omega, by go_num, HN.out, HB.out⟩
            case measure => simp [intOf]; omega
          · have b40 : ¬ (40 : Int) < (v.size : Int) := by omega
            have HG : Hid (¬ 40 < (valV (s.data.toList.drop (k + 8))).length) := by
              rw [← HL.out]; exact hlong
            cases he : valE (s.data.toList.drop (k + 8)) with
            | false =>
              have HR : Hid (srchL s.data.toList = 0) := by
                show _ = _
                rw [← HE.out]; exact srch_stop _ (HT.out.trans (val_open _ HG.out he))
              clear he
              go_wp2_with fail
              go_ret
              exact ⟨by rw [HR.out]; rfl, HB.out⟩
            | true =>
              have HX := hid (HT.out.trans (val_end _ HG.out he))
              have HF := hid (fun w1 => find_any v w1 (by omega))
              rw [HV2.out] at HF
              have HY := hid (findL_range (valV (s.data.toList.drop (k + 8))))
              clear he HL HV2 HG hlong
              generalize findL (valV (s.data.toList.drop (k + 8))) = x at HX HF HY
              rw [HD.out] at HX HE
              have HQ := hid (fun w1 => readable_any x w1 HY.out)
              by_cases hx : x = 0
              · have HN : Hid (srchL (s.data.toList.drop (k + 1)) = srchL s.data.toList) := by
                  show _ = _
                  rw [← HE.out]
                  refine (srch_skip _ _ ?_).symm
                  rw [HX.out, hx]; rfl
                subst hx
                go_wp2_with fail
                refine (HF.out _).mono ?_
                rintro e w3 ⟨rfl, hb3⟩
                go_wp2_with fail
                go_roundw
                case rel => exact ⟨k + 1, by omega, by go_num, HN.out, HB.out.trans (hb3.mono HB.out.size)⟩
                case measure => simp [intOf]; omega
              · have HR : Hid (srchL s.data.toList = asUtf x) := by
                  show _ = _
                  rw [← HE.out]
                  refine srch_hit _ _ _ ?_
                  rw [HX.out, if_pos]
                  have := HY.out
                  unfold asUtf
                  split <;> omega
                have hn : (x != 0) = true := bne_iff_ne.2 hx
                clear hx
                go_wp2_with fail
                refine (HF.out _).mono ?_
                rintro e w3 ⟨rfl, hb3⟩
                go_wp2_with fail
                refine (HQ.out _).mono ?_
                rintro e w4 ⟨rfl, rfl⟩
                go_wp2_with fail
                go_ret
                exact ⟨by rw [HR.out]; rfl, HB.out.trans (hb3.mono HB.out.size)⟩
    · have hk2 : k = s.size := by omega
      have HR : Hid (srchL s.data.toList = 0) := by
        show _ = _
        rw [← HE.out, List.drop_eq_nil_of_le (by rw [HZ.out]; omega)]; rfl
      subst hk2
      go_wp2_with fail
      go_ret
      exact ⟨by rw [HR.out]; rfl, hb⟩

theorem ext_take (s : ByteArray) (k : Nat) : (s.extract 0 k).data.toList = s.data.toList.take k := by
  rw [Lib.extract_data]; simp
set_option maxRecDepth 100000 in
set_option maxHeartbeats 1000000 in
theorem label_any (s : ByteArray) (w : World) (hs : s.size ≤ 1125899906842624) : Calls Tryz.prog 21 #[.string s] w fun e w' => e = .returned (.tuple #[.int .i64 (labelL s.data.toList).1, .bool (labelL s.data.toList).2]) ∧ Below w.heap.size w w' := by
  have HZ := hid (size_data s)
  have HP := hid (srchL_nonneg (s.data.toList.take 256))
  by_cases hc : 256 ≤ s.size
  · have HS : Hid (∀ w1, Calls Tryz.prog 37 #[.string (s.extract 0 256)] w1 fun e w' => e = .returned (.int .i64 (srchL (s.data.toList.take 256))) ∧ Below w1.heap.size w1 w') := fun w1 => by
      have := search_any (s.extract 0 256) w1 (by simp; omega)
      rw [ext_take] at this; exact this
    have HL : Hid (labelL s.data.toList = if 0 < srchL (s.data.toList.take 256) then (srchL (s.data.toList.take 256), true) else (0, true)) := by
      show _ = _
      unfold labelL
      rw [decide_eq_true (by rw [HZ.out]; exact hc)]
    generalize srchL (s.data.toList.take 256) = x at HP HS HL
    have b1 : (256 : Int) ≤ (s.size : Int) := by omega
    by_cases hx : x = 0
    · subst hx
      go_enter Tryz.func21, Tryz.ntmps21
      go_wp2_with fail
      refine (HS.out _).mono ?_
      rintro e w1 ⟨rfl, hb1⟩
      go_wp2_with fail
      go_ret2
      exact ⟨by rw [HL.out]; rfl, hb1⟩
    · have hn : (x != 0) = true := bne_iff_ne.2 hx
      rw [if_pos (by have := HP.out; omega)] at HL
      clear hx
      go_enter Tryz.func21, Tryz.ntmps21
      go_wp2_with fail
      refine (HS.out _).mono ?_
      rintro e w1 ⟨rfl, hb1⟩
      go_wp2_with fail
      go_ret2
      exact ⟨by rw [HL.out]; rfl, hb1⟩
  · have HS : Hid (∀ w1, Calls Tryz.prog 37 #[.string s] w1 fun e w' => e = .returned (.int .i64 (srchL (s.data.toList.take 256))) ∧ Below w1.heap.size w1 w') := fun w1 => by
      have := search_any s w1 (by omega)
      rw [List.take_of_length_le (by rw [HZ.out]; omega)]; exact this
    have HL : Hid (labelL s.data.toList = if 0 < srchL (s.data.toList.take 256) then (srchL (s.data.toList.take 256), true) else (0, false)) := by
      show _ = _
      unfold labelL
      rw [decide_eq_false (by rw [HZ.out]; exact hc)]
    generalize srchL (s.data.toList.take 256) = x at HP HS HL
    have b1 : decide ((256 : Int) ≤ (s.size : Int)) = false := decide_eq_false (by omega)
    by_cases hx : x = 0
    · subst hx
      go_enter Tryz.func21, Tryz.ntmps21
      go_wp2_with fail
      refine (HS.out _).mono ?_
      rintro e w1 ⟨rfl, hb1⟩
      go_wp2_with fail
      go_ret2
      exact ⟨by rw [HL.out]; rfl, hb1⟩
    · have hn : (x != 0) = true := bne_iff_ne.2 hx
      rw [if_pos (by have := HP.out; omega)] at HL
      clear hx
      go_enter Tryz.func21, Tryz.ntmps21
      go_wp2_with fail
      refine (HS.out _).mono ?_
      rintro e w1 ⟨rfl, hb1⟩
      go_wp2_with fail
      go_ret2
      exact ⟨by rw [HL.out]; rfl, hb1⟩
end Go.Proofs.YtmdnpgcnbpppfaaGreatDoor

/- The walks over package sniff: marks. -/
namespace Go.Proofs.YtmdnpgcnbpppfaaGreatDoor
open Go.RowKit

/-- The two tables of package sniff hold what its text lays. -/
structure Laid (w : World) : Prop where
  m0 : w.cell? ⟨0, 0, none⟩ = some (.string ⟨#[239, 187, 191]⟩)
  m1 : w.cell? ⟨0, 1, none⟩ = some (.string ⟨#[255, 254]⟩)
  m2 : w.cell? ⟨0, 2, none⟩ = some (.string ⟨#[254, 255]⟩)
  e0 : w.cell? ⟨1, 0, none⟩ = some (.int .i64 1)
  e1 : w.cell? ⟨1, 1, none⟩ = some (.int .i64 5)
  e2 : w.cell? ⟨1, 2, none⟩ = some (.int .i64 6)
  big : 2 ≤ w.heap.size
theorem Laid.below {w w' : World} (h : Laid w) (hb : Below w.heap.size w w') : Laid w' := by
  have hbig := h.big
  have k : ∀ p : Addr, p.block < 2 → w'.cell? p = w.cell? p := fun p hp => hb.cell (by omega)
  exact ⟨(k _ (by decide)).trans h.m0, (k _ (by decide)).trans h.m1, (k _ (by decide)).trans h.m2, (k _ (by decide)).trans h.e0, (k _ (by decide)).trans h.e1, (k _ (by decide)).trans h.e2, Nat.le_trans hbig hb.size⟩

theorem mark_pre (s : ByteArray) (p : List UInt8) : Lib.hasPrefix s.data.toList p = decide (s.data.toList.take p.length = p) := by
  unfold Lib.hasPrefix
  rw [Bool.eq_iff_iff, List.isPrefixOf_iff_prefix, decide_eq_true_eq, List.prefix_iff_eq_take]
  exact eq_comm

theorem ix0 (w : World) : (Instr.index 66 (.agg #[.string ⟨#[239, 187, 191]⟩, .string ⟨#[255, 254]⟩, .string ⟨#[254, 255]⟩]) (.int .i64 0)).run Tryz.prog w = .ok (.string ⟨#[239, 187, 191]⟩) w := by kernel_rfl
theorem ix1 (w : World) : (Instr.index 66 (.agg #[.string ⟨#[239, 187, 191]⟩, .string ⟨#[255, 254]⟩, .string ⟨#[254, 255]⟩]) (.int .i64 1)).run Tryz.prog w = .ok (.string ⟨#[255, 254]⟩) w := by kernel_rfl
theorem ix2 (w : World) : (Instr.index 66 (.agg #[.string ⟨#[239, 187, 191]⟩, .string ⟨#[255, 254]⟩, .string ⟨#[254, 255]⟩]) (.int .i64 2)).run Tryz.prog w = .ok (.string ⟨#[254, 255]⟩) w := by kernel_rfl
attribute [local go_sem] ix0 ix1 ix2
def markB (b0 b1 b2 : Bool) : Int × Int := if b0 then (1, 3) else if b1 then (5, 2) else if b2 then (6, 2) else (0, 0)
theorem markB_eq (s : ByteArray) : markL s.data.toList = markB (Lib.hasPrefix s.data.toList [239, 187, 191]) (Lib.hasPrefix s.data.toList [255, 254]) (Lib.hasPrefix s.data.toList [254, 255]) := by
  rw [mark_pre, mark_pre, mark_pre]
  unfold markL markB
  simp only [decide_eq_true_eq, List.length_cons, List.length_nil]
set_option maxRecDepth 100000 in
set_option maxHeartbeats 1000000 in
theorem mark_any (s : ByteArray) (w : World) (hl : Laid w) : Calls Tryz.prog 20 #[.string s] w fun e w' => e = .returned (.tuple #[.int .i64 (markL s.data.toList).1, .int .i64 (markL s.data.toList).2]) ∧ w' = w := by
  obtain ⟨m0, m1, m2, e0, e1, e2, _⟩ := hl
  have H0 := hid (fun w1 => hasPrefix_c s ⟨#[239, 187, 191]⟩ w1)
  have H1 := hid (fun w1 => hasPrefix_c s ⟨#[255, 254]⟩ w1)
  have H2 := hid (fun w1 => hasPrefix_c s ⟨#[254, 255]⟩ w1)
  change Hid (∀ w1, Calls _ _ _ w1 fun e w' => e = .returned (.bool (Lib.hasPrefix s.data.toList [239, 187, 191])) ∧ w' = w1) at H0
  change Hid (∀ w1, Calls _ _ _ w1 fun e w' => e = .returned (.bool (Lib.hasPrefix s.data.toList [255, 254])) ∧ w' = w1) at H1
  change Hid (∀ w1, Calls _ _ _ w1 fun e w' => e = .returned (.bool (Lib.hasPrefix s.data.toList [254, 255])) ∧ w' = w1) at H2
  rw [markB_eq]
  generalize Lib.hasPrefix s.data.toList [239, 187, 191] = b0 at H0 ⊢
  generalize Lib.hasPrefix s.data.toList [255, 254] = b1 at H1 ⊢
  generalize Lib.hasPrefix s.data.toList [254, 255] = b2 at H2 ⊢
  go_enter Tryz.func20, Tryz.ntmps20
  go_wp2_with fail
  go_loop [7] (fun i => i = .int .i64 0 ∨ (i = .int .i64 1 ∧ b0 = false) ∨ (i = .int .i64 2 ∧ b0 = false ∧ b1 = false) ∨ (i = .int .i64 3 ∧ b0 = false ∧ b1 = false ∧ b2 = false)) (fun i => 3 - (intOf i).toNat)
  case atStart => exact .inl rfl
  case round =>
    rcases hrel with rfl | ⟨rfl, rfl⟩ | ⟨rfl, rfl, rfl⟩ | ⟨rfl, rfl, rfl, rfl⟩
    · cases b0 with
      | true =>
        go_wp2_with fail
        refine (H0.out _).mono ?_
        rintro e _ ⟨rfl, rfl⟩
        go_wp2_with fail
        go_ret2
        exact ⟨rfl, rfl⟩
      | false =>
        go_wp2_with fail
        refine (H0.out _).mono ?_
        rintro e _ ⟨rfl, rfl⟩
        go_wp2_with fail
        go_round
        case rel => simp
        case measure => decide
    · cases b1 with
      | true =>
        go_wp2_with fail
        refine (H1.out _).mono ?_
        rintro e _ ⟨rfl, rfl⟩
        go_wp2_with fail
        go_ret2
        exact ⟨rfl, rfl⟩
      | false =>
        go_wp2_with fail
        refine (H1.out _).mono ?_
        rintro e _ ⟨rfl, rfl⟩
        go_wp2_with fail
        go_round
        case rel => simp
        case measure => decide
    · cases b2 with
      | true =>
        go_wp2_with fail
        refine (H2.out _).mono ?_
        rintro e _ ⟨rfl, rfl⟩
        go_wp2_with fail
        go_ret2
        exact ⟨rfl, rfl⟩
      | false =>
        go_wp2_with fail
        refine (H2.out _).mono ?_
        rintro e _ ⟨rfl, rfl⟩
        go_wp2_with fail
        go_round
        case rel => simp
        case measure => decide
    · go_wp2_with fail
      go_ret2
      exact ⟨rfl, rfl⟩

/-- A proper beginning of a mark. -/
def mayB (l p : List UInt8) : Bool := decide (l.length < p.length) && Lib.hasPrefix p l
theorem may_eq (l : List UInt8) : mayL l = (mayB l [239, 187, 191] || (mayB l [255, 254] || mayB l [254, 255])) := by
  match l with
  | [] => rfl
  | [a] =>
    simp only [mayL, mayB, Lib.hasPrefix, List.isPrefixOf]
    rw [Bool.eq_iff_iff]
    simp [or_assoc]
  | [a, b] =>
    simp only [mayL, mayB, Lib.hasPrefix, List.isPrefixOf]
    rw [Bool.eq_iff_iff]
    simp
  | a :: b :: c :: r =>
    have e : ∀ p : List UInt8, p.length ≤ 3 → mayB (a :: b :: c :: r) p = false := fun p hp => by
      unfold mayB; rw [decide_eq_false (by simp only [List.length_cons]; omega)]; rfl
    have e1 := e [239, 187, 191] (by decide)
    have e2 := e [255, 254] (by decide)
    have e3 := e [254, 255] (by decide)
    rw [e1, e2, e3]
    exact mayL_three a b c r
set_option maxRecDepth 100000 in
set_option maxHeartbeats 1000000 in
theorem mayMark_any (s : ByteArray) (w : World) (hl : Laid w) : Calls Tryz.prog 70 #[.string s] w fun e w' => e = .returned (.bool (mayL s.data.toList)) ∧ w' = w := by
  obtain ⟨m0, m1, m2, e0, e1, e2, _⟩ := hl
  clear e0 e1 e2
  have HZ := hid (size_data s)
  have H0 : Hid (∀ w1, Calls Tryz.prog 36 #[.string ⟨#[239, 187, 191]⟩, .string s] w1 fun e w' => e = .returned (.bool (Lib.hasPrefix [239, 187, 191] s.data.toList)) ∧ w' = w1) := fun w1 => hasPrefix_c ⟨#[239, 187, 191]⟩ s w1
  have G0 : Hid (mayB s.data.toList [239, 187, 191] = (decide (s.size < 3) && Lib.hasPrefix [239, 187, 191] s.data.toList)) := by
    show _ = _
    unfold mayB; rw [HZ.out]; rfl
  have H1 : Hid (∀ w1, Calls Tryz.prog 36 #[.string ⟨#[255, 254]⟩, .string s] w1 fun e w' => e = .returned (.bool (Lib.hasPrefix [255, 254] s.data.toList)) ∧ w' = w1) := fun w1 => hasPrefix_c ⟨#[255, 254]⟩ s w1
  have G1 : Hid (mayB s.data.toList [255, 254] = (decide (s.size < 2) && Lib.hasPrefix [255, 254] s.data.toList)) := by
    show _ = _
    unfold mayB; rw [HZ.out]; rfl
  have H2 : Hid (∀ w1, Calls Tryz.prog 36 #[.string ⟨#[254, 255]⟩, .string s] w1 fun e w' => e = .returned (.bool (Lib.hasPrefix [254, 255] s.data.toList)) ∧ w' = w1) := fun w1 => hasPrefix_c ⟨#[254, 255]⟩ s w1
  have G2 : Hid (mayB s.data.toList [254, 255] = (decide (s.size < 2) && Lib.hasPrefix [254, 255] s.data.toList)) := by
    show _ = _
    unfold mayB; rw [HZ.out]; rfl
  rw [may_eq]
  generalize mayB s.data.toList [239, 187, 191] = c0 at G0 ⊢
  generalize Lib.hasPrefix [239, 187, 191] s.data.toList = b0 at G0 H0
  generalize mayB s.data.toList [255, 254] = c1 at G1 ⊢
  generalize Lib.hasPrefix [255, 254] s.data.toList = b1 at G1 H1
  generalize mayB s.data.toList [254, 255] = c2 at G2 ⊢
  generalize Lib.hasPrefix [254, 255] s.data.toList = b2 at G2 H2
  clear HZ
  go_enter Tryz.func70, Tryz.ntmps70
  go_wp2_with fail
  go_loop [6] (fun i => i = .int .i64 0 ∨ (i = .int .i64 1 ∧ c0 = false) ∨ (i = .int .i64 2 ∧ c0 = false ∧ c1 = false) ∨ (i = .int .i64 3 ∧ c0 = false ∧ c1 = false ∧ c2 = false)) (fun i => 3 - (intOf i).toNat)
  case atStart => exact .inl rfl
  case round =>
    rcases hrel with rfl | ⟨rfl, rfl⟩ | ⟨rfl, rfl, rfl⟩ | ⟨rfl, rfl, rfl, rfl⟩
    · by_cases hd : s.size < 3
      · have hd2 : decide ((s.size : Int) < 3) = true := decide_eq_true (by omega)
        cases b0 with
        | true =>
          obtain rfl : c0 = true := by rw [G0.out, decide_eq_true hd]; rfl
          clear hd
          go_wp2_with fail
          refine (H0.out _).mono ?_
          rintro e _ ⟨rfl, rfl⟩
          go_wp2_with fail
          go_ret
          exact ⟨by simp, rfl⟩
        | false =>
          obtain rfl : c0 = false := by rw [G0.out, decide_eq_true hd]; rfl
          clear hd
          go_wp2_with fail
          refine (H0.out _).mono ?_
          rintro e _ ⟨rfl, rfl⟩
          go_wp2_with fail
          go_round
          case rel => simp
          case measure => decide
      · have hd2 : decide ((s.size : Int) < 3) = false := decide_eq_false (by omega)
        obtain rfl : c0 = false := by rw [G0.out, decide_eq_false hd]; rfl
        clear hd
        go_wp2_with fail
        go_round
        case rel => simp
        case measure => decide
    · by_cases hd : s.size < 2
      · have hd2 : decide ((s.size : Int) < 2) = true := decide_eq_true (by omega)
        cases b1 with
        | true =>
          obtain rfl : c1 = true := by rw [G1.out, decide_eq_true hd]; rfl
          clear hd
          go_wp2_with fail
          refine (H1.out _).mono ?_
          rintro e _ ⟨rfl, rfl⟩
          go_wp2_with fail
          go_ret
          exact ⟨by simp, rfl⟩
        | false =>
          obtain rfl : c1 = false := by rw [G1.out, decide_eq_true hd]; rfl
          clear hd
          go_wp2_with fail
          refine (H1.out _).mono ?_
          rintro e _ ⟨rfl, rfl⟩
          go_wp2_with fail
          go_round
          case rel => simp
          case measure => decide
      · have hd2 : decide ((s.size : Int) < 2) = false := decide_eq_false (by omega)
        obtain rfl : c1 = false := by rw [G1.out, decide_eq_false hd]; rfl
        clear hd
        go_wp2_with fail
        go_round
        case rel => simp
        case measure => decide
    · by_cases hd : s.size < 2
      · have hd2 : decide ((s.size : Int) < 2) = true := decide_eq_true (by omega)
        cases b2 with
        | true =>
          obtain rfl : c2 = true := by rw [G2.out, decide_eq_true hd]; rfl
          clear hd
          go_wp2_with fail
          refine (H2.out _).mono ?_
          rintro e _ ⟨rfl, rfl⟩
          go_wp2_with fail
          go_ret
          exact ⟨by simp, rfl⟩
        | false =>
          obtain rfl : c2 = false := by rw [G2.out, decide_eq_true hd]; rfl
          clear hd
          go_wp2_with fail
          refine (H2.out _).mono ?_
          rintro e _ ⟨rfl, rfl⟩
          go_wp2_with fail
          go_round
          case rel => simp
          case measure => decide
      · have hd2 : decide ((s.size : Int) < 2) = false := decide_eq_false (by omega)
        obtain rfl : c2 = false := by rw [G2.out, decide_eq_false hd]; rfl
        clear hd
        go_wp2_with fail
        go_round
        case rel => simp
        case measure => decide
    · go_wp2_with fail
      go_ret
      exact ⟨rfl, rfl⟩
end Go.Proofs.YtmdnpgcnbpppfaaGreatDoor

/- What the rows list of package sniff's two tables, as the walks ask it. -/
namespace Go.Proofs.YtmdnpgcnbpppfaaGreatDoor

/-- A table of strings as a row lists it. -/
def strData {H : Type} (zs : List (List UInt8)) : DataW H := .agg (zs.map fun z => .lit (.string z))
/-- An array of strings that reads as the table holds the table's strings, cell for cell. -/
theorem cells_of_strs {H : Type} {enc : TypeId × Value → H} {P : Program} {w : World} {base : Nat} {sp : Nat → Bool} {held : Bool} {fuel : Nat} {t e : TypeId} {n : Nat} {cs : List Value} {zs : List (List UInt8)} {p : List MemPlace}
    (ht : P.underlying t = some (.array n e)) (he : P.underlying e = some .string) (hce : P.cellsOf e = 1) (hct : P.cellsOf t = n)
    (h : DataW.trod enc P w base sp held fuel t cs = some (strData zs, p)) : cs = zs.map fun z => Value.string ⟨z.toArray⟩ := by
  cases fuel with
  | zero => simp [DataW.trod] at h
  | succ fuel =>
    simp only [DataW.trod, ht, hce, hct, Nat.mul_one] at h
    split at h
    · rename_i hl
      obtain ⟨xs, hm, hx⟩ := Option.map_eq_some_iff.1 h
      have hxs : xs.map (·.1) = zs.map fun z => (DataW.lit (.string z) : DataW H) := by
        have := congrArg Prod.fst hx
        simpa [strData] using this
      have hxl : xs.length = n := by simpa using Lib.mapM_length hm
      have hzl : zs.length = n := by
        have := congrArg List.length hxs
        simp at this
        omega
      apply List.ext_getElem?
      intro i
      by_cases hi : i < n
      · obtain ⟨b, hb, hf⟩ := Lib.mapM_at hm i i (by simp [hi])
        obtain ⟨z, hc, rfl, _⟩ := DataW.trod_string he hf
        have h1 : cs[i]? = some (.string z) := by
          have := congrArg (·[0]?) hc
          simpa [List.getElem?_take, List.getElem?_drop] using this
        have h2 : (xs.map (·.1))[i]? = some (DataW.lit (.string z.data.toList) : DataW H) := by simp [hb]
        rw [hxs] at h2
        simp only [List.getElem?_map, Option.map_eq_some_iff, DataW.lit.injEq, Lit.string.injEq] at h2
        obtain ⟨z', hz', e2⟩ := h2
        rw [h1, List.getElem?_map, hz', e2]
        simp
      · rw [List.getElem?_eq_none (by omega), List.getElem?_eq_none (by simp; omega)]
    · cases h
theorem strs_of_head {P : Program} {W : World} {name : String} {zs : List (List UInt8)} {rest : List (String × DataW Unit)} {g : Nat} {t e : TypeId} {n : Nat}
    (hg : P.globalNamed name = some g) (hty : (P.globals[g]?).map (·.type) = some t) (ht : P.underlying t = some (.array n e)) (he : P.underlying e = some .string) (hce : P.cellsOf e = 1) (hct : P.cellsOf t = n)
    (h : laidMet P ((name, strData zs) :: rest) W) : W.var? P name = some (zs.map fun z => Value.string ⟨z.toArray⟩).toArray := by
  obtain ⟨ps, ⟨g', t', cs, fuel, p, q, hg', ht', hvar, hd, _, _⟩, _⟩ := h
  obtain rfl := Option.some.inj (hg.symm.trans hg')
  obtain rfl := Option.some.inj (hty.symm.trans ht')
  rw [hvar, ← cells_of_strs ht he hce hct hd]

theorem gMarks : Tryz.prog.globalNamed "plumbline/sniff.marks" = some 0 := by kernel_rfl
theorem gMarked : Tryz.prog.globalNamed "plumbline/sniff.marked" = some 1 := by kernel_rfl
theorem tMarks : (Tryz.prog.globals[0]?).map (·.type) = some 66 := by kernel_rfl
theorem tMarked : (Tryz.prog.globals[1]?).map (·.type) = some 68 := by kernel_rfl

/-- The tables hold what the rows list. -/
theorem laid_of {W : World} {x : String × DataW Unit} {rest : List (String × DataW Unit)} (h : laidMet Tryz.prog (x :: ("plumbline/sniff.marks", Rows.laid_plumbline_sniff_marks) :: ("plumbline/sniff.marked", Rows.laid_plumbline_sniff_marked) :: rest) W) : Laid W := by
  have h1 := h.tail
  have h2 := h1.tail
  have k1 := strs_of_head (zs := [[239, 187, 191], [255, 254], [254, 255]]) gMarks tMarks Tryz.underlying66 Tryz.underlying9 (by kernel_rfl) (by kernel_rfl) h1
  have k2 := Lib.tabIs_of_head (k := .i64) (zs := [1, 5, 6]) gMarked tMarked Tryz.underlying68 Tryz.underlying3 (by kernel_rfl) (by kernel_rfl) h2
  have c := fun i => World.var?_cell gMarks k1 i
  have e0 := k2.cell gMarked 0 (by decide)
  exact ⟨c 0, c 1, c 2, e0, k2.cell gMarked 1 (by decide), k2.cell gMarked 2 (by decide), World.block_lt_of_cell? W _ e0⟩
end Go.Proofs.YtmdnpgcnbpppfaaGreatDoor

/- The walks over the laws SniffWindow and SniffStays. -/
namespace Go.Proofs.YtmdnpgcnbpppfaaGreatDoor
open Go.RowKit

def exA : ByteArray := ⟨#[255, 254, 97]⟩
def exB : ByteArray := ⟨#[60, 109, 101, 116, 97, 32, 99, 104, 97, 114, 115, 101, 116, 61, 34, 116, 119, 105, 110, 34, 62]⟩
theorem exA_is : markL [255, 254, 97] = (5, 2) := by decide +kernel
theorem exB_is : labelL [60, 109, 101, 116, 97, 32, 99, 104, 97, 114, 115, 101, 116, 61, 34, 116, 119, 105, 110, 34, 62] = (3, true) := by decide +kernel

end Go.Proofs.YtmdnpgcnbpppfaaGreatDoor

/- The walks over the reference: marks. -/
namespace Go.Proofs.YtmdnpgcnbpppfaaGreatDoor
open Go.RowKit

set_option maxRecDepth 100000 in
set_option maxHeartbeats 1000000 in
theorem markOf_any (s : ByteArray) (w : World) : Calls Tryz.prog 23 #[.string s] w fun e w' => e = .returned (.tuple #[.int .i64 (markL s.data.toList).1, .int .i64 (markL s.data.toList).2]) ∧ w' = w := by
  have H0 := hid (fun w1 => hasPrefix_c s ⟨#[239, 187, 191]⟩ w1)
  have H1 := hid (fun w1 => hasPrefix_c s ⟨#[255, 254]⟩ w1)
  have H2 := hid (fun w1 => hasPrefix_c s ⟨#[254, 255]⟩ w1)
  change Hid (∀ w1, Calls _ _ _ w1 fun e w' => e = .returned (.bool (Lib.hasPrefix s.data.toList [239, 187, 191])) ∧ w' = w1) at H0
  change Hid (∀ w1, Calls _ _ _ w1 fun e w' => e = .returned (.bool (Lib.hasPrefix s.data.toList [255, 254])) ∧ w' = w1) at H1
  change Hid (∀ w1, Calls _ _ _ w1 fun e w' => e = .returned (.bool (Lib.hasPrefix s.data.toList [254, 255])) ∧ w' = w1) at H2
  rw [markB_eq]
  generalize Lib.hasPrefix s.data.toList [239, 187, 191] = b0 at H0 ⊢
  generalize Lib.hasPrefix s.data.toList [255, 254] = b1 at H1 ⊢
  generalize Lib.hasPrefix s.data.toList [254, 255] = b2 at H2 ⊢
  go_enter Tryz.func23, Tryz.ntmps23
  go_wp2_with fail
  refine (H0.out _).mono ?_
  rintro e _ ⟨rfl, rfl⟩
  cases b0 with
  | true =>
    go_wp2_with fail
    go_ret2
    exact ⟨rfl, rfl⟩
  | false =>
    go_wp2_with fail
    refine (H1.out _).mono ?_
    rintro e _ ⟨rfl, rfl⟩
    cases b1 with
    | true =>
      go_wp2_with fail
      go_ret2
      exact ⟨rfl, rfl⟩
    | false =>
      go_wp2_with fail
      refine (H2.out _).mono ?_
      rintro e _ ⟨rfl, rfl⟩
      cases b2 with
      | true =>
        go_wp2_with fail
        go_ret2
        exact ⟨rfl, rfl⟩
      | false =>
        go_wp2_with fail
        go_ret2
        exact ⟨rfl, rfl⟩
set_option maxRecDepth 100000 in
set_option maxHeartbeats 1000000 in
theorem mayBe_any (s : ByteArray) (w : World) : Calls Tryz.prog 51 #[.string s] w fun e w' => e = .returned (.bool (mayL s.data.toList)) ∧ w' = w := by
  have HM : Hid (mayL s.data.toList = (s.toList == [] || s.toList == [239] || s.toList == [239, 187] || s.toList == [255] || s.toList == [254])) := by
    show _ = _
    rw [Lib.toList_data]; rfl
  go_enter Tryz.func51, Tryz.ntmps51
  go_wp2_with fail
  all_goals
    go_ret
    refine ⟨?_, rfl⟩
    rw [HM.out]
    simp [*]
end Go.Proofs.YtmdnpgcnbpppfaaGreatDoor

/- The walk over the reference: the label among the first bytes. -/
namespace Go.Proofs.YtmdnpgcnbpppfaaGreatDoor
open Go.RowKit

theorem decide_size (u : ByteArray) (n : Nat) (h : u.size ≤ n) : u.data.toList.take n = u.data.toList := List.take_of_length_le (by rw [size_data]; exact h)

/-- The filled row lies in its block. -/
structure LowRow (l : List UInt8) (B : Nat) (wr : World) : Prop where
  cell : ∀ j, j < l.length → wr.cell? ⟨B, j, none⟩ = some (.int .u8 ((lowB (l.getD j 0)).toNat : Int))
  big : B < wr.heap.size
theorem LowRow.below {l : List UInt8} {B : Nat} {a b : World} (h : LowRow l B a) (hb : Below a.heap.size a b) : LowRow l B b :=
  ⟨fun j hj => by rw [hb.cell (p := ⟨B, j, none⟩) h.big]; exact h.cell j hj, Nat.lt_of_lt_of_le h.big hb.size⟩
theorem LowRow.back {u : ByteArray} {B : Nat} {wr : World} (h : LowRow u.data.toList B wr) (k : Nat) (hk : k ≤ u.size) (cap : Nat) :
    (convert 57 9 (.slice (some ⟨B, k, none⟩) (u.size - k) cap)).run Tryz.prog wr = .ok (.string ⟨((u.data.toList.drop k).map lowB).toArray⟩) wr := by
  have hl : ((u.data.toList.drop k).map lowB).length = u.size - k := by simp
  have := run_convert_bytes_back (P := Tryz.prog) wr 57 9 5 ⟨B, k, none⟩ cap ((u.data.toList.drop k).map lowB) Tryz.underlying57 Tryz.underlying5 Tryz.underlying9 (fun j hj => by
    have hj' : k + j < u.size := by omega
    have e : (⟨B, k, none⟩ : Addr).add j = ⟨B, k + j, none⟩ := by simp [Addr.add]
    rw [e, h.cell (k + j) (by simpa using hj')]
    simp [hj'])
  rw [hl] at this
  exact this

theorem PutInv.low {u : ByteArray} {B : Nat} {w wr : World} (h : PutInv u.data.toList u.size B w wr) (hu : 0 < u.size) : LowRow u.data.toList B wr :=
  ⟨fun j hj => by
    obtain ⟨n, hn, he⟩ := h.cell j hj
    rw [hn, he (by rw [← size_data]; exact hj)], by
    obtain ⟨n, hn, _⟩ := h.cell 0 (by rw [size_data]; exact hu)
    exact World.block_lt_of_cell? _ _ hn⟩
set_option maxRecDepth 100000 in
set_option maxHeartbeats 4000000 in
theorem labelOf_any (s : ByteArray) (w : World) (m : Int) (hs : s.size ≤ 140737488355328) (hm : w.cell? ⟨2, 0, none⟩ = some (.int .i64 m)) :
    Calls Tryz.prog 24 #[.string s] w fun e w' => e = .returned (.tuple #[.int .i64 (labelL s.data.toList).1, .bool (labelL s.data.toList).2]) ∧ Below w.heap.size w w' := by
  have HZ := hid (size_data s)
  have HMX := hid hm
  clear hm
  have HR : Hid (∀ u : ByteArray, u.data.toList = s.data.toList.take 256 → labelL s.data.toList = if 0 < srchL u.data.toList then (srchL u.data.toList, true) else (0, decide ((256 : Int) ≤ (s.size : Int)))) := fun u hu => by
    rw [hu]; unfold labelL
    rw [show decide ((256 : Int) ≤ (s.size : Int)) = decide (256 ≤ s.data.toList.length) by rw [HZ.out, Bool.eq_iff_iff, decide_eq_true_eq, decide_eq_true_eq]; omega]
  go_enter Tryz.func24, Tryz.ntmps24
  go_upto_if 16 with fail
  go_cut [0] (fun v wx => ∃ u : ByteArray, v = .string u ∧ u.data.toList = s.data.toList.take 256 ∧ w = wx)
  case first =>
    by_cases hc : 256 ≤ s.size
    · have b1 : (256 : Int) ≤ (s.size : Int) := by omega
      go_wp2_with fail
      go_meet
      exact ⟨_, rfl, ext_take s 256, rfl⟩
    · have b1 : decide ((256 : Int) ≤ (s.size : Int)) = false := decide_eq_false (by omega)
      go_wp2_with fail
      go_meet
      exact ⟨_, rfl, (decide_size s 256 (by omega)).symm, rfl⟩
  case rest =>
    obtain ⟨u, rfl, hu, rfl⟩ := hcut
    replace HR := hid (HR.out u hu)
    have hz : u.size ≤ 256 := by
      rw [← size_data, hu]; simp; omega
    clear hu HZ hs
    generalize decide ((256 : Int) ≤ (s.size : Int)) = whole at HR ⊢
    have hmk := run_make_row' (P := Tryz.prog) 57 5 (.int .u8 0) 1 Tryz.underlying57 info5 rfl .i64 .i64 u.size (by omega) (by omega)
    go_wp2_with fail
    clear hmk
    have hst := PutInv.start u.data.toList u.size (size_data u) w
    have HL := hid (size_data u)
    go_loopw [24] (fun i wr => ∃ k : Nat, k ≤ u.size ∧ i = .int .i64 k ∧ PutInv u.data.toList k w.heap.size w wr) (fun i _ => u.size - (intOf i).toNat)
    case atStart => exact ⟨0, Nat.zero_le _, rfl, hst⟩
    case round =>
      clear hst
      obtain ⟨k, hk, rfl, hinv⟩ := hrel
      by_cases hlt : k < u.size
      · obtain ⟨n0, hc, _⟩ := hinv.cell k (by rw [HL.out]; exact hlt)
        have hf := hinv.free k (by rw [HL.out]; exact hlt)
        have HX := hid (getD_data u k hlt)
        by_cases hyes : 65 ≤ u[k].toNat ∧ u[k].toNat ≤ 90
        · obtain ⟨h1, h2⟩ := hyes
          have hb : (u[k].toNat : Int) + 32 = ((lowB (u.data.toList.getD k 0)).toNat : Int) := by
            rw [HX.out, lowB_yes _ ⟨h1, h2⟩]; omega
          have HP := hid ((hinv.any (u[k].toNat : Int)).put (by rw [HL.out]; exact hlt) _ hb)
          clear hb
          go_wp2_with fail
          go_roundw
          case rel => exact ⟨k + 1, by omega, by go_num, HP.out⟩
          case measure => simp [intOf]; omega
        · have hb : (u[k].toNat : Int) = ((lowB (u.data.toList.getD k 0)).toNat : Int) := by
            rw [HX.out, lowB_no _ hyes]
          have HP := hid (hinv.put (by rw [HL.out]; exact hlt) _ hb)
          clear hb
          go_wp2_with fail
          all_goals
            go_roundw
            case rel => exact ⟨k + 1, by omega, by go_num, HP.out⟩
            case measure => simp [intOf]; omega
      · have hk' : k = u.size := by omega
        subst hk'
        have HLow := hid (fun h : 0 < u.size => hinv.low h)
        have HBe := hid hinv.below
        clear hinv hlt hk
        go_wp2_with fail
        go_loopw [52] (fun i wr2 => ∃ k : Nat, k ≤ u.size ∧ i = .int .i64 k ∧ srchL (u.data.toList.drop k) = srchL u.data.toList ∧ (0 < u.size → LowRow u.data.toList w.heap.size wr2) ∧ Below w.heap.size w wr2) (fun i _ => u.size - (intOf i).toNat)
        case atStart => exact ⟨0, Nat.zero_le _, rfl, rfl, HLow.out, HBe.out⟩
        case round =>
          obtain ⟨k, hk, rfl, he, hlow, hbe⟩ := hrel
          by_cases hlt : k < u.size
          · have HD := hid (drop_at u k hlt)
            have HE := hid he
            have HLO := hid (hlow (by omega))
            have HB2 := hid hbe
            obtain ⟨r, hr, hcv⟩ : ∃ r : ByteArray, r.data.toList = (u.data.toList.drop k).map lowB ∧ ∀ cap, (convert 57 9 (.slice (some ⟨w.heap.size, k, none⟩) (u.size - k) cap)).run Tryz.prog wr = .ok (.string r) wr := ⟨_, rfl, fun cap => (hlow (by omega)).back k hk cap⟩
            have HRR := hid hr
            have hrz : r.size = u.size - k := by
              rw [← size_data, hr]; simp
            have HRZ := hid hrz
            clear he hlow hbe hr hrz
            have b0 : (0 : Int) ≤ (k : Int) := by omega
            have b1 : (k : Int) ≤ (u.size : Int) := by omega
            by_cases h8 : r.size < 8
            · have d8 : decide ((r.size : Int) < 8) = true := decide_eq_true (by omega)
              have HP := hid (fun w1 => hasPrefix_c ⟨#[99, 104, 97, 114, 115, 101, 116, 61]⟩ r w1)
              have HC : Hid (Lib.hasPrefix [99, 104, 97, 114, 115, 101, 116, 61] r.data.toList = keyC (u.data.toList.drop k) ∧ keyF (u.data.toList.drop k) = false) := by
                constructor
                · unfold keyC Lib.hasPrefix
                  rw [decide_eq_true (by rw [List.length_drop, HL.out, ← HRZ.out]; exact h8), HRR.out]; rfl
                · cases hf : keyF (u.data.toList.drop k) with
                  | false => rfl
                  | true => have := keyF_len _ hf; rw [List.length_drop, HL.out, ← HRZ.out] at this; omega
              change Hid (∀ w1, Calls _ _ _ w1 fun e w' => e = .returned (.bool (Lib.hasPrefix [99, 104, 97, 114, 115, 101, 116, 61] r.data.toList)) ∧ w' = w1) at HP
              rw [HC.out.1] at HP
              cases hc : keyC (u.data.toList.drop k) with
              | true =>
                have HR2 : Hid (labelL s.data.toList = (0, whole)) := by
                  show _ = _
                  rw [HR.out, ← HE.out, srch_stop _ (at_cut _ hc)]; rfl
                rw [hc] at HP
                clear h8 hc
                go_wp2_with fail
                refine (HP.out _).mono ?_
                rintro e w2 ⟨rfl, rfl⟩
                go_wp2_with fail
                go_ret2
                exact ⟨by rw [HR2.out]; rfl, HB2.out⟩
              | false =>
                have HN : Hid (srchL (u.data.toList.drop (k + 1)) = srchL u.data.toList) := by
                  show _ = _
                  have := at_not _ hc HC.out.2
                  rw [HD.out] at this
                  rw [← HE.out, HD.out]
                  exact (srch_skip _ _ this).symm
                rw [hc] at HP
                clear h8 hc
                go_wp2_with fail
                refine (HP.out _).mono ?_
                rintro e w2 ⟨rfl, rfl⟩
                go_wp2_with fail
                go_roundw
                case rel => exact ⟨k + 1, by omega, by go_num, HN.out, fun _ => HLO.out, HB2.out⟩
                case measure => simp [intOf]; omega
            · have d8 : decide ((r.size : Int) < 8) = false := decide_eq_false (by omega)
              have b8 : (8 : Int) ≤ (r.size : Int) := by omega
              have HK : Hid (((r.extract 0 8).toList == [99, 104, 97, 114, 115, 101, 116, 61]) = keyF (u.data.toList.drop k)) := by
                show _ = _
                rw [Lib.toList_data, ext_take, HRR.out]; rfl
              have HCN : Hid (keyC (u.data.toList.drop k) = false) := by
                show _ = _
                unfold keyC
                rw [decide_eq_false (by rw [List.length_drop, HL.out, ← HRZ.out]; exact h8)]; rfl
              cases hf : keyF (u.data.toList.drop k) with
              | false =>
                have HN : Hid (srchL (u.data.toList.drop (k + 1)) = srchL u.data.toList) := by
                  show _ = _
                  have := at_not _ HCN.out hf
                  rw [HD.out] at this
                  rw [← HE.out, HD.out]
                  exact (srch_skip _ _ this).symm
                have dk : (!((r.extract 0 8).toList == [99, 104, 97, 114, 115, 101, 116, 61])) = true := by rw [HK.out, hf]; rfl
                clear h8 hf
                go_wp2_with fail
                go_roundw
                case rel => exact ⟨k + 1, by omega, by go_num, HN.out, fun _ => HLO.out, HB2.out⟩
                case measure => simp [intOf]; omega
              | true =>
                have dk : (!((r.extract 0 8).toList == [99, 104, 97, 114, 115, 101, 116, 61])) = false := by rw [HK.out, hf]; rfl
                have hk8 : k + 8 ≤ u.size := by have := HRZ.out; omega
                have b9 : (k : Int) + 8 ≤ (u.size : Int) := by omega
                have HT := hid (at_key _ hf)
                rw [List.drop_drop] at HT
                clear h8 hf
                go_upto_region 19 with fail
                go_cut [9] (fun v wx => ∃ x : ByteArray, v = .string x ∧ x.data.toList = u.data.toList.drop (k + 8) ∧ x.size ≤ 256 ∧ wr = wx)
                case first =>
                  go_wp2_with fail
                  go_meet
                  exact ⟨_, rfl, ext_drop u (k + 8), by simp; omega, rfl⟩
                case rest =>
                obtain ⟨x, rfl, hx, hxz, rfl⟩ := hcut
                rw [← hx] at HT
                clear hx hcv dk d8 b8 b9 HK HCN HRR HRZ
                go_upto_region 21 with fail
                go_cut [82] (fun b wx => ∃ q : Bool, b = .bool q ∧ wr = wx ∧ (q = true → ∃ h : 0 < x.size, x[0] = 34 ∨ x[0] = 39) ∧ (q = false → valP x.data.toList = isEndB ∧ valR x.data.toList = x.data.toList))
                case first =>
                  by_cases h0 : 0 < x.size
                  · have hne := nonempty_of x h0
                    by_cases h1 : x[0] = 34
                    · have e34 : ((x[0].toNat : Int) == 34) = true := by rw [h1]; rfl
                      have HQ : Hid (x[0] = 34) := h1
                      clear h1
                      go_wp2_with fail
                      go_meet
                      exact ⟨true, rfl, rfl, fun _ => ⟨h0, .inl HQ.out⟩, fun h => by cases h⟩
                    · have e34 : ((x[0].toNat : Int) == 34) = false := beq_false_of_ne fun h => h1 (UInt8.toNat_inj.1 (Int.ofNat.inj h))
                      by_cases h2 : x[0] = 39
                      · have e39 : ((x[0].toNat : Int) == 39) = true := by rw [h2]; rfl
                        have HQ : Hid (x[0] = 39) := h2
                        clear h1 h2
                        go_wp2_with fail
                        go_meet
                        exact ⟨true, rfl, rfl, fun _ => ⟨h0, .inr HQ.out⟩, fun h => by cases h⟩
                      · have e39 : ((x[0].toNat : Int) == 39) = false := beq_false_of_ne fun h => h2 (UInt8.toNat_inj.1 (Int.ofNat.inj h))
                        have hvp := val_plain (x.extract 1 x.size).data.toList x[0] h1 h2
                        rw [← rest_at x h0] at hvp
                        have HQ := hid hvp
                        clear h1 h2 hvp
                        go_wp2_with fail
                        go_meet
                        exact ⟨false, rfl, rfl, (fun h => by cases h), fun _ => HQ.out⟩
                  · have hne := empty_of x h0
                    have HQ : Hid (x.data.toList = []) := List.length_eq_zero_iff.1 (by rw [size_data]; omega)
                    clear h0
                    go_wp2_with fail
                    go_meet
                    exact ⟨false, rfl, rfl, (fun h => by cases h), fun _ => by rw [HQ.out]; exact ⟨rfl, rfl⟩⟩
                case rest =>
                obtain ⟨q, rfl, rfl, hq1, hq2⟩ := hcut
                have HQ1 := hid hq1
                have HQ2 := hid hq2
                clear hq1 hq2
                go_upto_if 82 with fail
                go_cut [9, 10] (fun v e wx => ∃ vv ee : ByteArray, v = .string vv ∧ e = .string ee ∧ vv.data.toList = valR x.data.toList ∧ SetC ee (valP x.data.toList) ∧ vv.size ≤ 256 ∧ Below wr.heap.size wr wx)
                case first =>
                  cases q with
                  | true =>
                    obtain ⟨h0, hq⟩ := HQ1.out rfl
                    have HQ := hid hq
                    clear hq HQ1 HQ2
                    have c1 : (1 : Int) ≤ (x.size : Int) := by omega
                    go_wp2_with fail
                    go_quiet (fail)
                    go_wp2_with fail
                    go_meet
                    refine ⟨_, _, rfl, rfl, ?_, ?_, by simp; omega, drewN_below (Below.refl _ _) _⟩
                    · have hr := rest_at x h0
                      rw [hr]
                      rcases HQ.out with h | h <;> rw [h] <;> rfl
                    · have hr := rest_at x h0
                      have ho := one_at x h0
                      rw [hr]
                      rcases HQ.out with h | h
                      · rw [h] at ho ⊢; exact set34 _ ho
                      · rw [h] at ho ⊢; exact set39 _ ho
                  | false =>
                    have hq := HQ2.out rfl
                    have HQ := hid hq
                    clear hq HQ1 HQ2
                    go_wp2_with fail
                    go_meet
                    exact ⟨_, _, rfl, rfl, HQ.out.2.symm, by rw [HQ.out.1]; exact setE2, hxz, Below.refl _ _⟩
                case rest =>
                obtain ⟨v, ee, rfl, rfl, hv, hset, hvz, hb3⟩ := hcut
                rw [valL_eq, ← hv] at HT
                clear hv HQ1 HQ2 hxz
                generalize valP x.data.toList = p at HT hset
                have HS := hid hset
                clear hset
                have HVL := hid (size_data v)
                have HB3 : Hid (Below w.heap.size w wc) := HB2.out.trans (hb3.mono HB2.out.size)
                have HLO3 := hid (HLO.out.below hb3)
                clear hb3 HB2 HLO
                go_wp2_with fail
                go_loop [11] (fun i => ∃ n : Nat, n ≤ v.size ∧ n ≤ 41 ∧ i = .int .i64 n ∧ upTo p (v.data.toList.drop n) + n = upTo p v.data.toList) (fun i => 42 - (intOf i).toNat)
                case atStart => exact ⟨0, Nat.zero_le _, by omega, rfl, rfl⟩
                case round =>
                  obtain ⟨n, hnv, hn41, rfl, hu⟩ := hrel
                  have HU := hid hu
                  clear hu
                  by_cases hlt2 : n < v.size
                  · have c0 : (n : Int) < (v.size : Int) := by omega
                    have HVD := hid (drop_at v n hlt2)
                    by_cases hn40 : n ≤ 40
                    · have c1 : (n : Int) ≤ 40 := by omega
                      have c2 : ¬ (40 : Int) < (n : Int) := by omega
                      by_cases hq : p v[n] = true
                      · obtain ⟨z, hc, hx, _⟩ := HS.out v[n] wc
                        replace hx := hx hq
                        have HC := hid hc
                        have HN2 : Hid (upTo p v.data.toList = n) := by
                          show _ = _
                          have := HU.out
                          rw [HVD.out] at this; simp only [upTo, hq, if_true] at this; omega
                        have hne : ((n : Int) == (v.size : Int)) = false := beq_false_of_ne (by omega)
                        have HF : Hid (Calls Tryz.prog 17 #[.string (v.extract 0 n)] wc fun e w' => e = .returned (.int .i64 (findL (v.data.toList.take n))) ∧ Below wc.heap.size wc w') := by
                          have := findRef_any (v.extract 0 n) wc m (by simp; omega) (by rw [HB3.out.cell (World.block_lt_of_cell? _ _ HMX.out)]; exact HMX.out)
                          rw [ext_take] at this; exact this
                        have HX : Hid (atL (u.data.toList.drop k) = if 0 < asUtf (findL (v.data.toList.take n)) then .hit (asUtf (findL (v.data.toList.take n))) else .skip) := by
                          show _ = _
                          rw [HT.out]; unfold bodyL
                          rw [HN2.out, if_neg (by omega), if_neg (by rw [HVL.out]; omega)]
                        have HY := hid (findL_range (v.data.toList.take n))
                        clear hc hq
                        generalize findL (v.data.toList.take n) = e at HX HF HY
                        rw [HD.out] at HX HE
                        by_cases h0 : e = 0
                        · have HN : Hid (srchL (u.data.toList.drop (k + 1)) = srchL u.data.toList) := by
                            show _ = _
                            rw [← HE.out]
                            refine (srch_skip _ _ ?_).symm
                            rw [HX.out, h0]; rfl
                          subst h0
                          go_wp2_with fail
                          refine HC.out.mono ?_
                          rintro e _ ⟨rfl, rfl⟩
                          go_wp2_with fail
                          refine HF.out.mono ?_
                          rintro e w4 ⟨rfl, hb4⟩
                          go_wp2_with fail
                          go_roundw
                          case rel => exact ⟨k + 1, by omega, by go_num, HN.out, fun _ => HLO3.out.below hb4, HB3.out.trans (hb4.mono HB3.out.size)⟩
                          case measure => simp [intOf]; omega
                        · have HR2 : Hid (labelL s.data.toList = (asUtf e, true)) := by
                            show _ = _
                            have hp : 0 < asUtf e := by
                              have := HY.out; unfold asUtf; split <;> omega
                            rw [HR.out, ← HE.out, srch_hit _ _ (asUtf e) (by rw [HX.out, if_pos hp]), if_pos hp]
                          have g0 : 0 < e := by have := HY.out; omega
                          by_cases h5 : 5 ≤ e
                          · have h5e : asUtf e = 1 := if_pos h5
                            rw [h5e] at HR2
                            clear h0 h5e
                            go_wp2_with fail
                            refine HC.out.mono ?_
                            rintro e _ ⟨rfl, rfl⟩
                            go_wp2_with fail
                            refine HF.out.mono ?_
                            rintro e w4 ⟨rfl, hb4⟩
                            go_wp2_with fail
                            go_ret2
                            exact ⟨by rw [HR2.out]; rfl, HB3.out.trans (hb4.mono HB3.out.size)⟩
                          · have h5e : asUtf e = e := if_neg h5
                            rw [h5e] at HR2
                            clear h0 h5e
                            go_wp2_with fail
                            refine HC.out.mono ?_
                            rintro e _ ⟨rfl, rfl⟩
                            go_wp2_with fail
                            refine HF.out.mono ?_
                            rintro e w4 ⟨rfl, hb4⟩
                            go_wp2_with fail
                            go_ret2
                            exact ⟨by rw [HR2.out]; rfl, HB3.out.trans (hb4.mono HB3.out.size)⟩
                      · have hq2 : p v[n] = false := by simpa using hq
                        have HN2 : Hid (upTo p (v.data.toList.drop (n + 1)) + (n + 1) = upTo p v.data.toList) := by
                          show _ = _
                          have := HU.out
                          rw [HVD.out] at this; simp only [upTo, hq2, if_neg Bool.false_ne_true] at this; omega
                        obtain ⟨z, hc, _, hx⟩ := HS.out v[n] wc
                        replace hx := hx hq2
                        have HC := hid hc
                        clear hc hq hq2
                        go_wp2_with fail
                        refine HC.out.mono ?_
                        rintro e _ ⟨rfl, rfl⟩
                        go_wp2_with fail
                        go_round
                        case rel => exact ⟨n + 1, by omega, by omega, by go_num, HN2.out⟩
                        case measure => simp [intOf]; omega
                    · have c1 : decide ((n : Int) ≤ 40) = false := decide_eq_false (by omega)
                      have c2 : (40 : Int) < (n : Int) := by omega
                      have hne : ((n : Int) == (v.size : Int)) = false := beq_false_of_ne (by omega)
                      have HN : Hid (srchL (u.data.toList.drop (k + 1)) = srchL u.data.toList) := by
                        show _ = _
                        have := HT.out
                        rw [HD.out] at this
                        rw [← HE.out, HD.out]
                        refine (srch_skip _ _ ?_).symm
                        rw [this]; unfold bodyL; rw [if_pos (by have := HU.out; omega)]
                      go_wp2_with fail
                      go_roundw
                      case rel => exact ⟨k + 1, by omega, by go_num, HN.out, fun _ => HLO3.out, HB3.out⟩
                      case measure => simp [intOf]; omega
                  · have hnz : n = v.size := by omega
                    have c0 : decide ((n : Int) < (v.size : Int)) = false := decide_eq_false (by omega)
                    have heq : ((n : Int) == (v.size : Int)) = true := by rw [hnz]; exact beq_self_eq_true _
                    have HU2 : Hid (upTo p v.data.toList = n) := by
                      show _ = _
                      have := HU.out
                      rw [List.drop_eq_nil_of_le (by rw [HVL.out]; omega)] at this
                      simp only [upTo] at this; omega
                    by_cases hn40 : n ≤ 40
                    · have c1 : (n : Int) ≤ 40 := by omega
                      have HR2 : Hid (labelL s.data.toList = (0, whole)) := by
                        show _ = _
                        rw [HR.out, ← HE.out, srch_stop _ (by rw [HT.out]; unfold bodyL; rw [HU2.out, if_neg (by omega), if_pos (by rw [HVL.out]; exact hnz)])]; rfl
                      clear hnz
                      go_wp2_with fail
                      go_ret2
                      exact ⟨by rw [HR2.out]; rfl, HB3.out⟩
                    · have c1 : decide ((n : Int) ≤ 40) = false := decide_eq_false (by omega)
                      have c2 : (40 : Int) < (n : Int) := by omega
                      have HN : Hid (srchL (u.data.toList.drop (k + 1)) = srchL u.data.toList) := by
                        show _ = _
                        have := HT.out
                        rw [HD.out] at this
                        rw [← HE.out, HD.out]
                        refine (srch_skip _ _ ?_).symm
                        rw [this]; unfold bodyL; rw [if_pos (by have := HU.out; omega)]
                      clear hnz
                      go_wp2_with fail
                      go_roundw
                      case rel => exact ⟨k + 1, by omega, by go_num, HN.out, fun _ => HLO3.out, HB3.out⟩
                      case measure => simp [intOf]; omega
          · have hk2 : k = u.size := by omega
            have HR2 : Hid (labelL s.data.toList = (0, whole)) := by
              show _ = _
              rw [HR.out, ← he, List.drop_eq_nil_of_le (by rw [HL.out]; omega)]; rfl
            subst hk2
            have HB2 := hid hbe
            clear he hlow hbe
            go_wp2_with fail
            go_ret2
            exact ⟨by rw [HR2.out]; rfl, HB2.out⟩
end Go.Proofs.YtmdnpgcnbpppfaaGreatDoor
