/- The steps of the search for a label, as the program takes them. -/
import Derived.Test.YtbnjhcdgiieghaaDoorSnM
namespace Go.Proofs.YtbnjhcdgiieghaaDoor

/-- The letters are there. -/
def keyF (r : List UInt8) : Bool := (r.map lowB).take 8 == kwL
/-- The bytes end before that is certain. -/
def keyC (r : List UInt8) : Bool := decide (r.length < 8) && (r.map lowB).isPrefixOf kwL
theorem keyF_len (r : List UInt8) (h : keyF r = true) : 8 ≤ r.length := by
  have h1 := congrArg List.length (eq_of_beq h)
  simp [kwL] at h1
  omega
theorem at_cut (r : List UInt8) (h : keyC r = true) : atL r = .stop := by
  simp only [keyC, Bool.and_eq_true, decide_eq_true_eq] at h
  unfold atL
  rw [if_pos h.1, if_pos h.2]
theorem at_not (r : List UInt8) (h : keyC r = false) (h2 : keyF r = false) : atL r = .skip := by
  unfold atL
  by_cases h1 : r.length < 8
  · rw [if_pos h1]
    simp only [keyC, h1, decide_true, Bool.true_and] at h
    rw [if_neg (by simp [h])]
  · rw [if_neg h1, if_neg (ne_of_beq_false h2)]
theorem at_key (r : List UInt8) (h : keyF r = true) : atL r = valL (r.drop 8) := by
  unfold atL
  have := keyF_len r h
  rw [if_neg (by omega), if_pos (eq_of_beq h)]
/-- Which bytes end a value, and where it begins. -/
def valP : List UInt8 → UInt8 → Bool
  | 34 :: _ => (· == 34)
  | 39 :: _ => (· == 39)
  | _ => isEndB
def valR : List UInt8 → List UInt8
  | 34 :: v => v
  | 39 :: v => v
  | v => v
theorem valL_eq (v : List UInt8) : valL v = bodyL (valP v) (valR v) := by
  unfold valL valP valR
  split <;> simp
/-- The value, and whether it has an end. -/
def valV (v : List UInt8) : List UInt8 := (valR v).take (upTo (valP v) (valR v))
def valE (v : List UInt8) : Bool := decide (upTo (valP v) (valR v) < (valR v).length)
theorem valV_len (v : List UInt8) : (valV v).length = upTo (valP v) (valR v) := by
  unfold valV
  rw [List.length_take]
  have := upTo_le (valP v) (valR v)
  omega
theorem val_long (v : List UInt8) (h : 40 < (valV v).length) : valL v = .skip := by
  rw [valV_len] at h
  rw [valL_eq]; unfold bodyL; rw [if_pos h]
theorem val_open (v : List UInt8) (h : ¬ 40 < (valV v).length) (h2 : valE v = false) : valL v = .stop := by
  rw [valV_len] at h
  simp only [valE, decide_eq_false_iff_not] at h2
  have := upTo_le (valP v) (valR v)
  rw [valL_eq]; unfold bodyL; rw [if_neg h, if_pos (by omega)]
theorem val_end (v : List UInt8) (h : ¬ 40 < (valV v).length) (h2 : valE v = true) : valL v = if 0 < asUtf (findL (valV v)) then .hit (asUtf (findL (valV v))) else .skip := by
  rw [valV_len] at h
  simp only [valE, decide_eq_true_eq] at h2
  rw [valL_eq]; unfold bodyL; rw [if_neg h, if_neg (by omega)]; rfl
theorem labelOf_range (t : List UInt8) : 0 ≤ labelOf t ∧ labelOf t ≤ 6 := by
  unfold labelOf
  repeat' split
  all_goals omega
theorem findL_range (l : List UInt8) : 0 ≤ findL l ∧ findL l ≤ 6 := by
  unfold findL
  split
  · omega
  · exact labelOf_range _
/-- The search from a place on. -/
theorem srch_stop (r : List UInt8) (h : atL r = .stop) : srchL r = 0 := by
  cases r with
  | nil => rfl
  | cons b r => simp only [srchL, h]
theorem srch_skip (b : UInt8) (r : List UInt8) (h : atL (b :: r) = .skip) : srchL (b :: r) = srchL r := by
  simp only [srchL, h]
theorem srch_hit (b : UInt8) (r : List UInt8) (e : Int) (h : atL (b :: r) = .hit e) : srchL (b :: r) = e := by
  simp only [srchL, h]
end Go.Proofs.YtbnjhcdgiieghaaDoor
