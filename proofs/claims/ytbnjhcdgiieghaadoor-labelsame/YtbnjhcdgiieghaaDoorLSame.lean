/- Plain facts on trimming: spaces around a label do not matter. -/
import Derived.Test.YtbnjhcdgiieghaaDoorLName
namespace Go.Proofs.YtbnjhcdgiieghaaDoor

theorem all_u8 (P : UInt8 → Bool) (h : (List.range 256).all (fun n => P (UInt8.ofNat n)) = true) (b : UInt8) : P b = true := by
  have := List.all_eq_true.1 h b.toNat (by simp; exact b.toNat_lt)
  simpa using this
def isSp (b : UInt8) : Bool := spaces.contains b
theorem isSp_low (b : UInt8) : isSp (lowB b) = isSp b := by
  have := all_u8 (fun b => isSp (lowB b) == isSp b) (by decide +kernel) b
  simpa using this
theorem low_low (b : UInt8) : lowB (lowB b) = lowB b := by
  have := all_u8 (fun b => lowB (lowB b) == lowB b) (by decide +kernel) b
  simpa using this
theorem lowL_lowL (l : List UInt8) : lowL (lowL l) = lowL l := by
  unfold lowL; rw [List.map_map]; congr 1; funext b; exact low_low b

def TL (l : List UInt8) : List UInt8 := l.dropWhile isSp
def TR (l : List UInt8) : List UInt8 := (l.reverse.dropWhile isSp).reverse
theorem trimS_eq (l : List UInt8) : Lib.trimS l spaces = TL (TR l) := rfl
theorem drop_low (l : List UInt8) : (lowL l).dropWhile isSp = lowL (l.dropWhile isSp) := by
  unfold lowL
  rw [List.dropWhile_map]
  have : (isSp ∘ lowB) = isSp := by funext b; exact isSp_low b
  rw [this]
theorem TL_low (l : List UInt8) : TL (lowL l) = lowL (TL l) := drop_low l
theorem low_rev (l : List UInt8) : (lowL l).reverse = lowL l.reverse := by unfold lowL; rw [List.map_reverse]
theorem TR_low (l : List UInt8) : TR (lowL l) = lowL (TR l) := by
  unfold TR; rw [low_rev, drop_low, low_rev]
theorem drop_drop (l : List UInt8) : (l.dropWhile isSp).dropWhile isSp = l.dropWhile isSp := by
  induction l with
  | nil => rfl
  | cons a r ih =>
    cases h : isSp a with
    | true => rw [List.dropWhile_cons_of_pos h]; exact ih
    | false => rw [List.dropWhile_cons_of_neg (by simp [h]), List.dropWhile_cons_of_neg (by simp [h])]
theorem drop_prefix (x y z : List UInt8) (h : x = y ++ z) (hx : x.dropWhile isSp = x) : y.dropWhile isSp = y := by
  cases y with
  | nil => rfl
  | cons a r =>
    cases ha : isSp a with
    | false => rw [List.dropWhile_cons_of_neg (by simp [ha])]
    | true =>
      subst h
      rw [List.cons_append, List.dropWhile_cons_of_pos ha] at hx
      have := congrArg List.length hx
      have h2 := dropWhile_le isSp (r ++ z)
      simp at this h2
      omega
theorem trim_trim (l : List UInt8) : TL (TR (TL (TR l))) = TL (TR l) := by
  have h1 : TR (TL (TR l)) = TL (TR l) := by
    have e : l.reverse.dropWhile isSp = (TL (TR l)).reverse ++ ((TR l).takeWhile isSp).reverse := by
      rw [← List.reverse_append]
      unfold TL
      rw [List.takeWhile_append_dropWhile]
      unfold TR; rw [List.reverse_reverse]
    have := drop_prefix _ _ _ e (drop_drop _)
    generalize TL (TR l) = y at this
    unfold TR; rw [this, List.reverse_reverse]
  rw [h1]
  exact drop_drop _
theorem trimL_eq (l : List UInt8) : trimL l = lowL (TL (TR l)) := rfl
theorem trimL_trimL (l : List UInt8) : trimL (trimL l) = trimL l := by
  rw [trimL_eq (trimL l), trimL_eq l, TR_low, TL_low, lowL_lowL, trim_trim]

theorem drop_all (g x : List UInt8) (h : ∀ b ∈ g, isSp b = true) : (g ++ x).dropWhile isSp = x.dropWhile isSp := by
  induction g with
  | nil => rfl
  | cons a r ih =>
    rw [List.cons_append, List.dropWhile_cons_of_pos (h a (by simp))]
    exact ih fun b hb => h b (by simp [hb])
theorem TR_behind (l g : List UInt8) (h : ∀ b ∈ g, isSp b = true) : TR (l ++ g) = TR l := by
  unfold TR; rw [List.reverse_append, drop_all _ _ (fun b hb => h b (by simpa using hb))]
theorem trim_ahead (g l : List UInt8) (h : ∀ b ∈ g, isSp b = true) : TL (TR (g ++ l)) = TL (TR l) := by
  unfold TR
  rw [List.reverse_append, List.dropWhile_append]
  split
  · rename_i he
    have e1 : l.reverse.dropWhile isSp = [] := by simpa using he
    have e2 : g.reverse.dropWhile isSp = [] := by
      have := drop_all g.reverse [] (fun b hb => h b (by simpa using hb))
      rw [List.append_nil] at this; exact this
    rw [e1, e2]
  · rw [List.reverse_append, List.reverse_reverse]
    exact drop_all _ _ h
theorem trimL_gap (g l : List UInt8) (h : ∀ b ∈ g, isSp b = true) : trimL (g ++ l ++ g) = trimL l := by
  rw [trimL_eq, trimL_eq, TR_behind _ _ h, trim_ahead _ _ h]
theorem findL_gap (g l : List UInt8) (h : ∀ b ∈ g, isSp b = true) (hn : l.length + 2 * g.length ≤ 40) : findL (g ++ l ++ g) = findL l := by
  unfold findL
  rw [if_neg (by simp; omega), if_neg (by omega), trimL_gap g l h]
theorem findL_name (e : Int) : findL (nameL e) = if 1 ≤ e ∧ e ≤ 6 then e else 0 := by
  by_cases h : 1 ≤ e ∧ e ≤ 6
  · rw [if_pos h]
    obtain h | h | h | h | h | h : e = 1 ∨ e = 2 ∨ e = 3 ∨ e = 4 ∨ e = 5 ∨ e = 6 := by omega
    all_goals subst h; decide +kernel
  · rw [if_neg h]
    have : nameL e = [] := by unfold nameL; repeat rw [if_neg (by omega)]
    rw [this]; decide +kernel
end Go.Proofs.YtbnjhcdgiieghaaDoor
