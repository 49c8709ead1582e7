/- What the rows list of package sniff's two tables, as the walks ask it. -/
import Derived.Test.YtbnjhcdgiieghaaDoorRows
import Derived.Test.YtbnjhcdgiieghaaDoorSnMk
import Derived.Lib.LaidTab
import Derived.Stop.LaidErr
import Derived.MakeChecks
namespace Go.Proofs.YtbnjhcdgiieghaaDoor

/-- A table of strings as a row lists it. -/
def strData {H : Type} (zs : List (List UInt8)) : DataW H := .agg (zs.map fun z => .lit (.string z))
/-- An array of strings that reads as the table holds the table's strings, cell for cell. -/
theorem cells_of_strs {H : Type} {enc : TypeId × Value → H} {P : Program} {w : World} {base : Nat} {sp : Nat → Bool} {held : Bool} {fuel : Nat} {t e : TypeId} {n : Nat} {cs : List Value} {zs : List (List UInt8)} {p : List MemPlace}
    (ht : P.underlying t = some (.array n e)) (he : P.underlying e = some .string) (hce : P.cellsOf e = 1) (hct : P.cellsOf t = n)
    (h : DataW.trod enc P w base sp held fuel t cs = some (strData zs, p)) : cs = zs.map fun z => Value.string ⟨z.toArray⟩ := by
  cases fuel with
  | zero => simp [DataW.trod] at h
  | succ fuel =>
    simp only [DataW.trod, ht, hce, hct, Nat.mul_one] at h
    split at h
    · rename_i hl
      obtain ⟨xs, hm, hx⟩ := Option.map_eq_some_iff.1 h
      have hxs : xs.map (·.1) = zs.map fun z => (DataW.lit (.string z) : DataW H) := by
        have := congrArg Prod.fst hx
        simpa [strData] using this
      have hxl : xs.length = n := by simpa using Lib.mapM_length hm
      have hzl : zs.length = n := by
        have := congrArg List.length hxs
        simp at this
        omega
      apply List.ext_getElem?
      intro i
      by_cases hi : i < n
      · obtain ⟨b, hb, hf⟩ := Lib.mapM_at hm i i (by simp [hi])
        obtain ⟨z, hc, rfl, _⟩ := DataW.trod_string he hf
        have h1 : cs[i]? = some (.string z) := by
          have := congrArg (·[0]?) hc
          simpa [List.getElem?_take, List.getElem?_drop] using this
        have h2 : (xs.map (·.1))[i]? = some (DataW.lit (.string z.data.toList) : DataW H) := by simp [hb]
        rw [hxs] at h2
        simp only [List.getElem?_map, Option.map_eq_some_iff, DataW.lit.injEq, Lit.string.injEq] at h2
        obtain ⟨z', hz', e2⟩ := h2
        rw [h1, List.getElem?_map, hz', e2]
        simp
      · rw [List.getElem?_eq_none (by omega), List.getElem?_eq_none (by simp; omega)]
    · cases h
theorem strs_of_head {P : Program} {W : World} {name : String} {zs : List (List UInt8)} {rest : List (String × DataW Unit)} {g : Nat} {t e : TypeId} {n : Nat}
    (hg : P.globalNamed name = some g) (hty : (P.globals[g]?).map (·.type) = some t) (ht : P.underlying t = some (.array n e)) (he : P.underlying e = some .string) (hce : P.cellsOf e = 1) (hct : P.cellsOf t = n)
    (h : laidMet P ((name, strData zs) :: rest) W) : W.var? P name = some (zs.map fun z => Value.string ⟨z.toArray⟩).toArray := by
  obtain ⟨ps, ⟨g', t', cs, fuel, p, q, hg', ht', hvar, hd, _, _⟩, _⟩ := h
  obtain rfl := Option.some.inj (hg.symm.trans hg')
  obtain rfl := Option.some.inj (hty.symm.trans ht')
  rw [hvar, ← cells_of_strs ht he hce hct hd]

theorem gMarks : Tryd.prog.globalNamed "plumbline/sniff.marks" = some 0 := by kernel_rfl
theorem gMarked : Tryd.prog.globalNamed "plumbline/sniff.marked" = some 1 := by kernel_rfl
theorem tMarks : (Tryd.prog.globals[0]?).map (·.type) = some 41 := by kernel_rfl
theorem tMarked : (Tryd.prog.globals[1]?).map (·.type) = some 42 := by kernel_rfl

/-- The tables hold what the rows list. -/
theorem laid_of {W : World} {x : String × DataW Unit} {rest : List (String × DataW Unit)} (h : laidMet Tryd.prog (x :: ("plumbline/sniff.marks", Rows.laid_plumbline_sniff_marks) :: ("plumbline/sniff.marked", Rows.laid_plumbline_sniff_marked) :: rest) W) : Laid W := by
  have h1 := h.tail
  have h2 := h1.tail
  have k1 := strs_of_head (zs := [[239, 187, 191], [255, 254], [254, 255]]) gMarks tMarks Tryd.underlying41 Tryd.underlying9 (by kernel_rfl) (by kernel_rfl) h1
  have k2 := Lib.tabIs_of_head (k := .i64) (zs := [1, 5, 6]) gMarked tMarked Tryd.underlying42 Tryd.underlying3 (by kernel_rfl) (by kernel_rfl) h2
  have c := fun i => World.var?_cell gMarks k1 i
  have e0 := k2.cell gMarked 0 (by decide)
  exact ⟨c 0, c 1, c 2, e0, k2.cell gMarked 1 (by decide), k2.cell gMarked 2 (by decide), World.block_lt_of_cell? W _ e0⟩
end Go.Proofs.YtbnjhcdgiieghaaDoor
