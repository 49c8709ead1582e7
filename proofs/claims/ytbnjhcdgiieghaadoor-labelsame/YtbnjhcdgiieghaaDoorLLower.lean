/- The walk over label.lower. -/
import Derived.Test.YtbnjhcdgiieghaaDoorRows
import Derived.Test.YtbnjhcdgiieghaaDoorLMath
import Derived.WalkKit
import Derived.WalkSpells
import Derived.WalkLawsBesides
import Derived.Lib.ConvBytes
import Derived.Laws.IdiomStrings
namespace Go.Proofs.YtbnjhcdgiieghaaDoor
open Go.RowKit

/-- The row of label.lower when k of its bytes are done. -/
structure LowInv (l : List UInt8) (k B : Nat) (w wr : World) : Prop where
  cell : ∀ j, j < l.length → wr.cell? ⟨B, j, none⟩ = some (.int .u8 ((lowAt l k j).toNat : Int))
  free : ∀ j, j < l.length → wr.frozen? ⟨B, j, none⟩ = false
  below : Below B w wr

theorem LowInv.skip {l : List UInt8} {k B : Nat} {w wr : World} (h : LowInv l k B w wr) (hb : lowB (l.getD k 0) = l.getD k 0) : LowInv l (k + 1) B w wr :=
  ⟨fun j hj => by
    rw [h.cell j hj]; unfold lowAt
    by_cases e : j = k
    · subst e; simp only [Nat.lt_irrefl, if_false, Nat.lt_succ_self, if_true]; rw [hb]
    · by_cases e2 : j < k
      · rw [if_pos e2, if_pos (by omega)]
      · rw [if_neg e2, if_neg (by omega)], h.free, h.below⟩

theorem LowInv.put {l : List UInt8} {k B : Nat} {w wr : World} (h : LowInv l k B w wr) (hk : k < l.length) (n : Int) (hn : n = ((lowB (l.getD k 0)).toNat : Int)) : LowInv l (k + 1) B w (wr.setCell ⟨B, k, none⟩ (.int .u8 n)) :=
  ⟨fun j hj => by
    by_cases e : j = k
    · subst e
      rw [World.cell?_setCell_same _ _ _ (h.cell j hj)]; unfold lowAt; rw [if_pos (by omega), hn]
    · rw [World.cell?_setCell_other _ _ _ _ (by intro h; cases h; exact e rfl), h.cell j hj]; unfold lowAt
      by_cases e2 : j < k
      · rw [if_pos e2, if_pos (by omega)]
      · rw [if_neg e2, if_neg (by omega)],
   fun j hj => by rw [World.frozen?_setCell]; exact h.free j hj, h.below.setCell (Nat.le_refl _) _⟩

theorem LowInv.start (s : ByteArray) (w : World) : LowInv s.data.toList 0 w.heap.size w (Lib.bytesWorld w 5 s) :=
  ⟨fun j hj => by
    rw [Lib.bytesWorld_cell w 5 s j (by simpa using hj)]; rfl,
   fun j hj => by
    have hsz : s.size ≤ (Lib.bytesCells w 5 s).size := by simp [Lib.bytesCells]
    have hj' : j < s.size := by simpa using hj
    unfold World.frozen?
    rw [Lib.bytesWorld_at_new]
    simp; omega,
   ⟨rfl, rfl, rfl, by rw [Lib.bytesWorld_size]; omega, fun k hk => Lib.bytesWorld_at_old w 5 s k hk⟩⟩

theorem LowInv.back {s : ByteArray} {cap B : Nat} {w wr : World} (h : LowInv s.data.toList s.size B w wr) :
    (convert 37 9 (.slice (some ⟨B, 0, none⟩) s.size cap)).run Tryd.prog wr = .ok (.string ⟨(lowL s.data.toList).toArray⟩) wr := by
  have hl : (lowL s.data.toList).length = s.size := by rw [lowL_length]; simp
  have := run_convert_bytes_back (P := Tryd.prog) wr 37 9 5 ⟨B, 0, none⟩ cap (lowL s.data.toList) Tryd.underlying37 Tryd.underlying5 Tryd.underlying9 (fun j hj => by
    have hj' : j < s.size := by omega
    have e : (⟨B, 0, none⟩ : Addr).add j = ⟨B, j, none⟩ := by simp [Addr.add]; omega
    rw [e, h.cell j (by simpa using hj')]
    unfold lowAt
    rw [if_pos hj']
    simp [lowL, hj'])
  rw [hl] at this
  exact this

set_option maxHeartbeats 400000 in
theorem lower_any (s : ByteArray) (w : World) (hs : s.size ≤ 1125899906842624) :
    Calls Tryd.prog 25 #[.string s] w fun e w' => e = .returned (.string ⟨(lowL s.data.toList).toArray⟩) ∧ Below w.heap.size w w' := by
  have hconv := Lib.run_convert_string_bytes (P := Tryd.prog) w 9 37 5 s Tryd.underlying9 Tryd.underlying37 Tryd.underlying5
  have h0 := LowInv.start s w
  have hl : s.data.toList.length = s.size := by simp
  have HL := hid hl
  clear hl
  go_enter Tryd.func25, Tryd.ntmps25
  go_wp2
  clear hconv
  go_loopw [10] (fun i wr => ∃ k : Nat, k ≤ s.size ∧ i = .int .i64 k ∧ LowInv s.data.toList k w.heap.size w wr) (fun i _ => s.size - (intOf i).toNat)
  case atStart => exact ⟨0, Nat.zero_le _, rfl, h0⟩
  case round =>
    obtain ⟨k, hk, rfl, hinv⟩ := hrel
    by_cases hlt : k < s.size
    · have hc := hinv.cell k (by rw [HL.out]; exact hlt)
      have hf := hinv.free k (by rw [HL.out]; exact hlt)
      have e1 : lowAt s.data.toList k k = s.data.toList.getD k 0 := by unfold lowAt; rw [if_neg (by omega)]
      rw [e1] at hc
      clear e1
      obtain ⟨c, hcd⟩ : ∃ c, c = s.data.toList.getD k 0 := ⟨_, rfl⟩
      rw [← hcd] at hc
      have HC := hid hcd
      clear hcd
      by_cases hyes : 65 ≤ c.toNat ∧ c.toNat ≤ 90
      · obtain ⟨h1, h2⟩ := hyes
        have hb : (c.toNat : Int) + 97 - 65 = ((lowB (s.data.toList.getD k 0)).toNat : Int) := by
          rw [← HC.out, lowB_yes c ⟨h1, h2⟩]; omega
        have hput := hinv.put (by rw [HL.out]; exact hlt) _ hb
        have HP := hid hput
        clear hb hput
        go_wp2
        go_roundw
        case rel => exact ⟨k + 1, by omega, by go_num, HP.out⟩
        case measure => simp [intOf]; omega
      · have hsk := hinv.skip (by rw [← HC.out]; exact lowB_no c hyes)
        have HP := hid hsk
        clear hsk
        go_wp2
        all_goals
          go_roundw
          case rel => exact ⟨k + 1, by omega, by go_num, HP.out⟩
          case measure => simp [intOf]; omega
    · have hk' : k = s.size := by omega
      subst hk'
      have hback := fun cap => hinv.back (cap := cap)
      go_wp2
      go_ret
      exact ⟨rfl, hinv.below⟩
end Go.Proofs.YtbnjhcdgiieghaaDoor
