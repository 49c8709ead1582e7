/- A state that comes in as an argument, opened and shut. -/
import Derived.Test.YtloaemijhggheaaBase
import Derived.ProofKit
import Derived.OpenShut
import Derived.Lib.SmallJoins
namespace Go.Proofs.Ytloaemijhggheaa
open Go.ChangeShapes Go.WideShapes Go.ChangeAt Go.RowKit Go.Joins Go.Deep
open Go.ChangeMaps (open_string shut_string)

section
variable {H : Type} {enc : TypeId × Value → H} {P : Program} {w : World} {base : Nat} {spare : Nat → Bool} {held : Bool}
theorem open_seven {r : Reach} {b0 : Nat} {t : TypeId} {f0 f1 f2 f3 f4 f5 f6 : Field} {v : Value} {d : DataW H} {p : List MemPlace} (hs : P.underlying t = some (.struct #[f0, f1, f2, f3, f4, f5, f6])) (hone : oneCellFields P #[f0, f1, f2, f3, f4, f5, f6] = true) (hC : P.cellsOf t = 7)
    (hv : Value.okWide P w r b0 t v) (h : DataW.Trod enc P w base spare held t v d p) :
    ∃ (v0 v1 v2 v3 v4 v5 v6 : Value) (y0 y1 y2 y3 y4 y5 y6 : DataW H × List MemPlace) (n : Nat), v = .agg #[v0, v1, v2, v3, v4, v5, v6] ∧ d = .agg [y0.1, y1.1, y2.1, y3.1, y4.1, y5.1, y6.1] ∧ p = y0.2 ++ (y1.2 ++ (y2.2 ++ (y3.2 ++ (y4.2 ++ (y5.2 ++ y6.2))))) ∧
      DataW.trod enc P w base spare held n f0.type [v0] = some y0 ∧ DataW.trod enc P w base spare held n f1.type [v1] = some y1 ∧ DataW.trod enc P w base spare held n f2.type [v2] = some y2 ∧ DataW.trod enc P w base spare held n f3.type [v3] = some y3 ∧ DataW.trod enc P w base spare held n f4.type [v4] = some y4 ∧ DataW.trod enc P w base spare held n f5.type [v5] = some y5 ∧ DataW.trod enc P w base spare held n f6.type [v6] = some y6 := by
  obtain ⟨cs, rfl, hsz⟩ := okWide_struct hs hv
  obtain ⟨l⟩ := cs
  match l, hsz.trans hC with
  | [c0, c1, c2, c3, c4, c5, c6], _ =>
    obtain ⟨fuel, hf⟩ := h
    obtain ⟨xs, n, _, hx, _, hlen, hg⟩ := DataW.trod_struct hs hf
    obtain ⟨o0, k0⟩ := hone_of hone 0 f0 rfl
    obtain ⟨o1, k1⟩ := hone_of hone 1 f1 rfl
    obtain ⟨o2, k2⟩ := hone_of hone 2 f2 rfl
    obtain ⟨o3, k3⟩ := hone_of hone 3 f3 rfl
    obtain ⟨o4, k4⟩ := hone_of hone 4 f4 rfl
    obtain ⟨o5, k5⟩ := hone_of hone 5 f5 rfl
    obtain ⟨o6, k6⟩ := hone_of hone 6 f6 rfl
    match xs, hlen with
    | [y0, y1, y2, y3, y4, y5, y6], _ =>
      simp only [Prod.mk.injEq] at hx
      exact ⟨c0, c1, c2, c3, c4, c5, c6, y0, y1, y2, y3, y4, y5, y6, n, rfl, by simpa using hx.1, by simpa using hx.2, by simpa [Value.cells, o0, k0] using hg 0 f0 rfl, by simpa [Value.cells, o1, k1] using hg 1 f1 rfl, by simpa [Value.cells, o2, k2] using hg 2 f2 rfl, by simpa [Value.cells, o3, k3] using hg 3 f3 rfl, by simpa [Value.cells, o4, k4] using hg 4 f4 rfl, by simpa [Value.cells, o5, k5] using hg 5 f5 rfl, by simpa [Value.cells, o6, k6] using hg 6 f6 rfl⟩
theorem shut_seven {t : TypeId} {f0 f1 f2 f3 f4 f5 f6 : Field} {v0 v1 v2 v3 v4 v5 v6 : Value} {d0 d1 d2 d3 d4 d5 d6 : DataW H} (hs : P.underlying t = some (.struct #[f0, f1, f2, f3, f4, f5, f6])) (hone : oneCellFields P #[f0, f1, f2, f3, f4, f5, f6] = true) (hC : P.cellsOf t = 7)
    (t0 : DataW.trod enc P w base spare held 1 f0.type [v0] = some (d0, [])) (t1 : DataW.trod enc P w base spare held 1 f1.type [v1] = some (d1, [])) (t2 : DataW.trod enc P w base spare held 1 f2.type [v2] = some (d2, [])) (t3 : DataW.trod enc P w base spare held 1 f3.type [v3] = some (d3, [])) (t4 : DataW.trod enc P w base spare held 1 f4.type [v4] = some (d4, [])) (t5 : DataW.trod enc P w base spare held 1 f5.type [v5] = some (d5, [])) (t6 : DataW.trod enc P w base spare held 1 f6.type [v6] = some (d6, [])) :
    DataW.Trod enc P w base spare held t (.agg #[v0, v1, v2, v3, v4, v5, v6]) (.agg [d0, d1, d2, d3, d4, d5, d6]) [] := by
  obtain ⟨o0, k0⟩ := hone_of hone 0 f0 rfl
  obtain ⟨o1, k1⟩ := hone_of hone 1 f1 rfl
  obtain ⟨o2, k2⟩ := hone_of hone 2 f2 rfl
  obtain ⟨o3, k3⟩ := hone_of hone 3 f3 rfl
  obtain ⟨o4, k4⟩ := hone_of hone 4 f4 rfl
  obtain ⟨o5, k5⟩ := hone_of hone 5 f5 rfl
  obtain ⟨o6, k6⟩ := hone_of hone 6 f6 rfl
  have ts := trod_struct_mk (enc := enc) (w := w) (base := base) (spare := spare) (held := held) (n := 1) (cs := [v0, v1, v2, v3, v4, v5, v6]) (xs := [(d0, []), (d1, []), (d2, []), (d3, []), (d4, []), (d5, []), (d6, [])]) hs (by simp [hC])
    (by simp [o0, k0, t0, o1, k1, t1, o2, k2, t2, o3, k3, t3, o4, k4, t4, o5, k5, t5, o6, k6, t6])
  exact ⟨_, by simpa [Value.cells] using ts⟩
end
theorem open_S {H : Type} {enc : TypeId × Value → H} {w : World} {base : Nat} {spare : Nat → Bool} {held : Bool} {r : Reach} {b0 : Nat} {v : Value} {d : DataW H} {p : List MemPlace}
    (hv : Value.okWide Try.prog w r b0 30 v) (h : DataW.Trod enc Try.prog w base spare held 30 v d p) :
    ∃ x : S, v = (.agg #[.int .i64 x.need, .int .i64 x.code, .int .i64 x.lo, .int .i64 x.hi, .string x.kept, .int .i64 x.half, .int .i64 x.mode]) ∧ d = .agg [.lit (.int .i64 x.need), .lit (.int .i64 x.code), .lit (.int .i64 x.lo), .lit (.int .i64 x.hi), .lit (.string x.kept.data.toList), .lit (.int .i64 x.half), .lit (.int .i64 x.mode)] ∧ p = [] ∧
      ∀ (w' : World) (b : Nat) (sp : Nat → Bool) (hd : Bool), DataW.Trod enc Try.prog w' b sp hd 30 (.agg #[.int .i64 x.need, .int .i64 x.code, .int .i64 x.lo, .int .i64 x.hi, .string x.kept, .int .i64 x.half, .int .i64 x.mode]) (.agg [.lit (.int .i64 x.need), .lit (.int .i64 x.code), .lit (.int .i64 x.lo), .lit (.int .i64 x.hi), .lit (.string x.kept.data.toList), .lit (.int .i64 x.half), .lit (.int .i64 x.mode)]) [] := by
  obtain ⟨v0, v1, v2, v3, v4, v5, v6, y0, y1, y2, y3, y4, y5, y6, n, rfl, rfl, rfl, t0, t1, t2, t3, t4, t5, t6⟩ := open_seven Try.underlying30 (by kernel_rfl) (by kernel_rfl) hv h
  obtain ⟨n0, e0, rfl, g0⟩ := DataW.trod_int Try.underlying3 t0
  injection e0 with e0 _
  subst e0
  obtain ⟨n1, e1, rfl, g1⟩ := DataW.trod_int Try.underlying3 t1
  injection e1 with e1 _
  subst e1
  obtain ⟨n2, e2, rfl, g2⟩ := DataW.trod_int Try.underlying3 t2
  injection e2 with e2 _
  subst e2
  obtain ⟨n3, e3, rfl, g3⟩ := DataW.trod_int Try.underlying3 t3
  injection e3 with e3 _
  subst e3
  obtain ⟨n4, e4, rfl, g4⟩ := DataW.trod_string Try.underlying9 t4
  injection e4 with e4 _
  subst e4
  obtain ⟨n5, e5, rfl, g5⟩ := DataW.trod_int Try.underlying3 t5
  injection e5 with e5 _
  subst e5
  obtain ⟨n6, e6, rfl, g6⟩ := DataW.trod_int Try.underlying3 t6
  injection e6 with e6 _
  subst e6
  refine ⟨⟨n0, n1, n2, n3, n4, n5, n6⟩, rfl, rfl, rfl, fun w' b sp hd => ?_⟩
  exact shut_seven Try.underlying30 (by kernel_rfl) (by kernel_rfl) (by simp [DataW.trod, Try.underlying3, g0]) (by simp [DataW.trod, Try.underlying3, g1]) (by simp [DataW.trod, Try.underlying3, g2]) (by simp [DataW.trod, Try.underlying3, g3]) (by simp [DataW.trod, Try.underlying9, g4]) (by simp [DataW.trod, Try.underlying3, g5]) (by simp [DataW.trod, Try.underlying3, g6])
end Go.Proofs.Ytloaemijhggheaa
