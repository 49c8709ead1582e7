/- The walk over the reference's Trimmed. -/
import Derived.Test.YtbnjhcdgiieghaaDoorLSameWalk
import Derived.Deep.OwnRows
namespace Go.Proofs.YtbnjhcdgiieghaaDoor
open Go.RowKit

theorem isSp_iff (b : UInt8) : isSp b = (b.toNat == 32 || (decide (9 ≤ b.toNat) && decide (b.toNat ≤ 13) && b.toNat != 11)) := by
  have := all_u8 (fun b => isSp b == (b.toNat == 32 || (decide (9 ≤ b.toNat) && decide (b.toNat ≤ 13) && b.toNat != 11))) (by decide +kernel) b
  simpa using this

set_option maxHeartbeats 400000 in
theorem space_any (b : UInt8) (w : World) : Calls Tryd.prog 27 #[.int .u8 (b.toNat : Int)] w fun e w' => e = .returned (.bool (isSp b)) ∧ w = w' := by
  have hb := isSp_iff b
  have HB := hid hb
  clear hb
  go_enter Tryd.func27, Tryd.ntmps27
  go_wp2
  all_goals go_ret
  all_goals refine ⟨congrArg (fun x => Ending.returned (.bool x)) ?_, rfl⟩
  all_goals (rw [HB.out, Bool.eq_iff_iff]; simp; omega)
theorem takeWhile_sp : ∀ (l : List UInt8) (b : UInt8), b ∈ l.takeWhile isSp → isSp b = true
  | a :: r, b, hb => by
    cases h : isSp a with
    | true =>
      rw [List.takeWhile_cons_of_pos h] at hb
      rcases List.mem_cons.1 hb with rfl | hb
      · exact h
      · exact takeWhile_sp r b hb
    | false => rw [List.takeWhile_cons_of_neg (by simp [h])] at hb; cases hb
theorem TL_TR (l : List UInt8) : TR (TL l) = TL (TR l) := by
  have e : TL (TR l) = TL (TR (TL l)) := by
    have h : l = l.takeWhile isSp ++ TL l := by unfold TL; rw [List.takeWhile_append_dropWhile]
    have h2 := trim_ahead (l.takeWhile isSp) (TL l) (fun b hb => takeWhile_sp _ b hb)
    rw [← h] at h2; exact h2
  rw [e]
  have h : (TL l).reverse.reverse = TR (TL l) ++ ((TL l).reverse.takeWhile isSp).reverse := by
    unfold TR
    rw [← List.reverse_append, List.takeWhile_append_dropWhile]
  rw [List.reverse_reverse] at h
  exact (drop_prefix _ _ _ h (drop_drop _)).symm

def strLenT : Value → Nat | .string t => t.size | _ => 0
theorem size_data (t : ByteArray) : t.data.toList.length = t.size := by simp
theorem cons_data (t : ByteArray) (h : 0 < t.size) : t.data.toList = t[0] :: t.data.toList.drop 1 := by
  have h2 : 0 < t.data.toList.length := by simpa using h
  exact List.drop_eq_getElem_cons h2
theorem TL_tail (t : ByteArray) (h : 0 < t.size) (hs : isSp t[0] = true) : TL (t.extract 1 t.size).data.toList = TL t.data.toList := by
  rw [Lib.extract_data, List.take_of_length_le (by simp)]
  conv => rhs; rw [cons_data t h]
  unfold TL
  rw [List.dropWhile_cons_of_pos hs]
theorem TL_stay (t : ByteArray) (h : ∀ h : 0 < t.size, isSp t[0] = false) : TL t.data.toList = t.data.toList := by
  by_cases h0 : 0 < t.size
  · rw [cons_data t h0]; unfold TL; rw [List.dropWhile_cons_of_neg (by simp [h h0])]
  · have : t.data.toList = [] := List.length_eq_zero_iff.1 (by rw [size_data]; omega)
    rw [this]; rfl
theorem snoc_data (t : ByteArray) (h : 0 < t.size) : t.data.toList = t.data.toList.take (t.size - 1) ++ [t[t.size - 1]] := by
  have h2 : t.size - 1 < t.data.toList.length := by simp; omega
  have := List.take_succ_eq_append_getElem h2
  rw [show t.size - 1 + 1 = t.data.toList.length by rw [size_data]; omega, List.take_length] at this
  exact this
theorem TR_front (t : ByteArray) (h : 0 < t.size) (hs : isSp t[t.size - 1] = true) : TR (t.extract 0 (t.size - 1)).data.toList = TR t.data.toList := by
  rw [Lib.extract_data]
  conv => rhs; rw [snoc_data t h]
  unfold TR
  rw [List.reverse_append]
  simp only [List.drop_zero, Nat.sub_zero, List.reverse_cons, List.reverse_nil, List.nil_append, List.singleton_append]
  rw [List.dropWhile_cons_of_pos hs]
theorem TR_stay (t : ByteArray) (h : ∀ h : 0 < t.size, isSp t[t.size - 1] = false) : TR t.data.toList = t.data.toList := by
  by_cases h0 : 0 < t.size
  · rw [snoc_data t h0]; unfold TR
    rw [List.reverse_append]
    simp only [List.reverse_cons, List.reverse_nil, List.nil_append, List.singleton_append]
    rw [List.dropWhile_cons_of_neg (by simp [h h0])]
    simp
  · have : t.data.toList = [] := List.length_eq_zero_iff.1 (by rw [size_data]; omega)
    rw [this]; rfl
theorem nonempty_of (t : ByteArray) (h : 0 < t.size) : t.toList.isEmpty = false := by
  rw [Lib.toList_data]
  cases h2 : t.data.toList with
  | nil => have := size_data t; rw [h2] at this; simp at this; omega
  | cons _ _ => rfl
theorem empty_of (t : ByteArray) (h : ¬ 0 < t.size) : t.toList.isEmpty = true := by
  rw [Lib.toList_data]
  cases h2 : t.data.toList with
  | nil => rfl
  | cons _ _ => have := size_data t; rw [h2] at this; simp at this; omega

/-- The row that is filled when k of its places are done. -/
structure PutInv (l : List UInt8) (k B : Nat) (w wr : World) : Prop where
  cell : ∀ j, j < l.length → ∃ n : Int, wr.cell? ⟨B, j, none⟩ = some (.int .u8 n) ∧ (j < k → n = ((lowB (l.getD j 0)).toNat : Int))
  free : ∀ j, j < l.length → wr.frozen? ⟨B, j, none⟩ = false
  below : Below B w wr
theorem PutInv.start (l : List UInt8) (n : Nat) (hn : l.length = n) (w : World) : PutInv l 0 w.heap.size w (w.alloc (.cells (madeCells #[.int .u8 0] n) 5)) :=
  ⟨fun j hj => ⟨0, by rw [World.cell?_alloc_at _ _ _ _ rfl]; simp [madeCells]; exact ⟨j, Array.getElem?_eq_some_iff.2 ⟨by simp; omega, by simp⟩, by simp [Nat.mod_one]⟩, fun h => absurd h (by omega)⟩,
   fun j hj => by simp [World.frozen?, World.alloc, -World.alloc_eq],
   (Below.refl _ _).alloc (Nat.le_refl _) _⟩
theorem PutInv.put {l : List UInt8} {k B : Nat} {w wr : World} (h : PutInv l k B w wr) (hk : k < l.length) (n : Int) (hn : n = ((lowB (l.getD k 0)).toNat : Int)) : PutInv l (k + 1) B w (wr.setCell ⟨B, k, none⟩ (.int .u8 n)) :=
  ⟨fun j hj => by
    obtain ⟨m, hm, hmk⟩ := h.cell j hj
    by_cases e : j = k
    · subst e
      exact ⟨n, World.cell?_setCell_same _ _ _ hm, fun _ => hn⟩
    · exact ⟨m, by rw [World.cell?_setCell_other _ _ _ _ (by intro h; cases h; exact e rfl), hm], fun hj' => hmk (by omega)⟩,
   fun j hj => by rw [World.frozen?_setCell]; exact h.free j hj, h.below.setCell (Nat.le_refl _) _⟩
theorem PutInv.any {l : List UInt8} {k B : Nat} {w wr : World} (h : PutInv l k B w wr) (n : Int) : PutInv l k B w (wr.setCell ⟨B, k, none⟩ (.int .u8 n)) :=
  ⟨fun j hj => by
    obtain ⟨m, hm, hmk⟩ := h.cell j hj
    by_cases e : j = k
    · subst e
      exact ⟨n, World.cell?_setCell_same _ _ _ hm, fun h => absurd h (by omega)⟩
    · exact ⟨m, by rw [World.cell?_setCell_other _ _ _ _ (by intro h; cases h; exact e rfl), hm], hmk⟩,
   fun j hj => by rw [World.frozen?_setCell]; exact h.free j hj, h.below.setCell (Nat.le_refl _) _⟩
theorem getD_data (u : ByteArray) (k : Nat) (h : k < u.size) : u.data.toList.getD k 0 = u[k] := by
  have h2 : k < u.data.toList.length := by rw [size_data]; exact h
  rw [List.getD_eq_getElem?_getD, List.getElem?_eq_getElem h2]; rfl
theorem PutInv.back {t : ByteArray} {cap B : Nat} {w wr : World} (h : PutInv t.data.toList t.size B w wr) :
    (convert 37 9 (.slice (some ⟨B, 0, none⟩) t.size cap)).run Tryd.prog wr = .ok (.string ⟨(lowL t.data.toList).toArray⟩) wr := by
  have hl : (lowL t.data.toList).length = t.size := by rw [lowL_length]; simp
  have := run_convert_bytes_back (P := Tryd.prog) wr 37 9 5 ⟨B, 0, none⟩ cap (lowL t.data.toList) Tryd.underlying37 Tryd.underlying5 Tryd.underlying9 (fun j hj => by
    have hj' : j < t.size := by omega
    have e : (⟨B, 0, none⟩ : Addr).add j = ⟨B, j, none⟩ := by simp [Addr.add]; omega
    obtain ⟨n, hn, hnj⟩ := h.cell j (by simpa using hj')
    rw [e, hn, hnj hj']
    simp [lowL, hj'])
  rw [hl] at this
  exact this
theorem info5 : (Tryd.prog.info? 5).map (fun i => (i.zero, i.size, i.bytes)) = some (some (.int .u8 0), 1, 1) := by kernel_rfl

end Go.Proofs.YtbnjhcdgiieghaaDoor
