/- Decoder states, lists that a call hands back, and the smallest walks. -/
import Derived.Test.YtloaemijhggheaaRows
import Derived.Test.YtloaemijhggheaaQM
import Derived.WalkKit
import Derived.WalkSpells
import Derived.WalkLawsBesides
import Derived.Lib.ConvBytes
import Derived.Laws.IdiomStrings
import Derived.Lib.Hide
import Derived.Laws.BitsAllLaws
import Derived.Laws.BitsLemmas
namespace Go.Proofs.Ytloaemijhggheaa
open Go.RowKit

/-- The list that a call hands back: nil, or a row of its own. -/
def Out (w : World) (B : Nat) (v : Value) (l : List Int) : Prop := w.ownsRow B 3 1 v l.length (l.map (Value.int .i64))
theorem Out.nil (w : World) (B : Nat) : Out w B (.slice none 0 0) [] := World.ownsRow_nil _ _ _ _
theorem Out.one (w : World) (B : Nat) (x : Int) (h : B ≤ w.heap.size) : Out (w.alloc (.cells #[.int .i64 x] 3)) B (.slice (some ⟨w.heap.size, 0, none⟩) 1 1) [x] :=
  World.ownsRow_lit (e := 3) (size := 1) w #[.int .i64 x] 1 h (by decide) rfl
theorem Out.below {w w' : World} {B : Nat} {v : Value} {l : List Int} (h : Out w B v l) (hb : Below w.heap.size w w') : Out w' B v l :=
  World.ownsRow.kept (row := none) h ⟨hb.os, hb.tape, hb.output, hb.size, fun i hi _ => hb.block i hi⟩ (by
    cases hv : v.ownBlock with
    | none => exact .inl rfl
    | some _ => exact .inr (by simp))
theorem Out.base {w : World} {B B' : Nat} {v : Value} {l : List Int} (h : Out w B v l) (hb : B' ≤ B) : Out w B' v l := by
  unfold Out World.ownsRow at *
  obtain ⟨h1, h2⟩ := h
  refine ⟨h1, ?_⟩
  rcases h2 with h2 | ⟨g, cap, cur, e1, e2, e3⟩
  · exact .inl h2
  · exact .inr ⟨g, cap, cur, e1, Nat.le_trans hb e2, e3⟩

/-- A state as a value. -/
def S.v (s : S) : Value := (.agg #[.int .i64 s.need, .int .i64 s.code, .int .i64 s.lo, .int .i64 s.hi, .string s.kept, .int .i64 s.half, .int .i64 s.mode])
/-- A call hands back a state and a list. -/
def PSO (w : World) (s : S) (l : List Int) (e : Ending) (w' : World) : Prop := ∃ v, e = .returned (.tuple #[s.v, v]) ∧ Out w' w.heap.size v l ∧ Below w.heap.size w w'
def PSOB (w : World) (s : S) (l : List Int) (a : Bool) (e : Ending) (w' : World) : Prop := ∃ v, e = .returned (.tuple #[s.v, v, .bool a]) ∧ Out w' w.heap.size v l ∧ Below w.heap.size w w'
def POB (w : World) (l : List Int) (a : Bool) (e : Ending) (w' : World) : Prop := ∃ v, e = .returned (.tuple #[v, .bool a]) ∧ Out w' w.heap.size v l ∧ Below w.heap.size w w'
def PO (w : World) (l : List Int) (e : Ending) (w' : World) : Prop := ∃ v, e = .returned v ∧ Out w' w.heap.size v l ∧ Below w.heap.size w w'
theorem fields30 : Try.prog.underlying 30 = some (.struct (Try.prog.fieldsOf 30)) := by kernel_rfl

set_option maxHeartbeats 1000000 in
theorem eqIn_S (w : World) (a b : S) : (Op.equalIn 10000 30 (.agg #[.int .i64 a.need, .int .i64 a.code, .int .i64 a.lo, .int .i64 a.hi, .string a.kept, .int .i64 a.half, .int .i64 a.mode]) (.agg #[.int .i64 b.need, .int .i64 b.code, .int .i64 b.lo, .int .i64 b.hi, .string b.kept, .int .i64 b.half, .int .i64 b.mode])).run Try.prog w = .ok (sEq a b) w := by
  unfold sEq
  cases h1 : a.need == b.need
  · go_simp
  cases h2 : a.code == b.code
  · go_simp
  cases h3 : a.lo == b.lo
  · go_simp
  cases h4 : a.hi == b.hi
  · go_simp
  cases h5 : a.kept.toList == b.kept.toList
  · go_simp
  cases h6 : a.half == b.half
  · go_simp
  cases h7 : a.mode == b.mode
  · go_simp
  go_simp
theorem run_eqS (w : World) (a0 a1 a2 a3 : Int) (ak : ByteArray) (a5 a6 b0 b1 b2 b3 : Int) (bk : ByteArray) (b5 b6 : Int) :
    (binOp .eql 30 (.agg #[.int .i64 a0, .int .i64 a1, .int .i64 a2, .int .i64 a3, .string ak, .int .i64 a5, .int .i64 a6]) (.agg #[.int .i64 b0, .int .i64 b1, .int .i64 b2, .int .i64 b3, .string bk, .int .i64 b5, .int .i64 b6])).run Try.prog w = .ok (.bool (sEq ⟨a0, a1, a2, a3, ak, a5, a6⟩ ⟨b0, b1, b2, b3, bk, b5, b6⟩)) w := by
  rw [run_eql_struct, eqIn_S w ⟨a0, a1, a2, a3, ak, a5, a6⟩ ⟨b0, b1, b2, b3, bk, b5, b6⟩]; rfl
theorem run_neS (w : World) (a0 a1 a2 a3 : Int) (ak : ByteArray) (a5 a6 b0 b1 b2 b3 : Int) (bk : ByteArray) (b5 b6 : Int) :
    (binOp .neq 30 (.agg #[.int .i64 a0, .int .i64 a1, .int .i64 a2, .int .i64 a3, .string ak, .int .i64 a5, .int .i64 a6]) (.agg #[.int .i64 b0, .int .i64 b1, .int .i64 b2, .int .i64 b3, .string bk, .int .i64 b5, .int .i64 b6])).run Try.prog w = .ok (.bool (!sEq ⟨a0, a1, a2, a3, ak, a5, a6⟩ ⟨b0, b1, b2, b3, bk, b5, b6⟩)) w := by
  rw [run_neq_struct, eqIn_S w ⟨a0, a1, a2, a3, ak, a5, a6⟩ ⟨b0, b1, b2, b3, bk, b5, b6⟩]; rfl

attribute [local go_sem ↓] run_eqS run_neS
set_option maxHeartbeats 400000 in
theorem keep_any (b : UInt8) (w : World) :
    Calls Try.prog 106 #[.int .i64 (b.toNat : Int)] w fun e w' => e = .returned (.string ⟨#[b]⟩) ∧ Below w.heap.size w w' := by
  have hb : b.toNat < 256 := b.toNat_lt
  have hm : (b.toNat : Int) % 256 = (b.toNat : Int) := by omega
  have hconv := run_convert_bytes_back (P := Try.prog) (w.alloc (.cells #[.int .u8 (b.toNat : Int)] 5)) 42 9 5 ⟨w.heap.size, 0, none⟩ 1 [b] Try.underlying42 Try.underlying5 Try.underlying9 (fun j hj => by
    obtain rfl : j = 0 := by simp at hj; omega
    simp [go_sem])
  simp only [List.length_singleton] at hconv
  go_enter Try.func106, Try.ntmps106
  go_wp2
  go_ret
  exact ⟨rfl, (Below.refl _ _).alloc (Nat.le_refl _) _⟩
set_option maxHeartbeats 400000 in
theorem bad_any (w : World) :
    Calls Try.prog 68 #[] w fun e w' => e = .returned (.slice (some ⟨w.heap.size, 0, none⟩) 1 1) ∧ w' = w.alloc (.cells #[.int .i64 (-1)] 3) := by
  go_enter Try.func68, Try.ntmps68
  go_wp2
  go_ret
  exact ⟨rfl, rfl⟩
theorem byte_at0 (b : UInt8) (h : 0 < (⟨#[b]⟩ : ByteArray).size) : (⟨#[b]⟩ : ByteArray)[0]'h = b := rfl
theorem byte_at20 (b c : UInt8) (h : 0 < (⟨#[b, c]⟩ : ByteArray).size) : (⟨#[b, c]⟩ : ByteArray)[0]'h = b := rfl
theorem byte_at21 (b c : UInt8) (h : 1 < (⟨#[b, c]⟩ : ByteArray).size) : (⟨#[b, c]⟩ : ByteArray)[1]'h = c := rfl
theorem w64 (b : UInt8) : wrap64 (b.toNat : Int) = (b.toNat : Int) := by
  have := b.toNat_lt
  unfold wrap64
  omega
theorem wraps_i64 (n : Int) (h₀ : 0 ≤ n) (h₁ : n < 2 ^ 63) : IntKind.i64.wrap n = n := by rw [IntKind.wrap_i64]; omega
theorem and_mask (i : Nat) (hi : i ≤ 63) (x : Int) (h₀ : 0 ≤ x) (h₁ : x < 2 ^ 63) : bits .and .i64 x (2 ^ i - 1) = x % 2 ^ i := bits_mask .i64 63 (by decide) wraps_i64 i hi x h₀ h₁
theorem or_join (i : Nat) (x y : Int) (hx₀ : 0 ≤ x) (hx : x % 2 ^ i = 0) (hx₁ : x < 2 ^ 63) (hy₀ : 0 ≤ y) (hy : y < 2 ^ i) (hy₁ : y < 2 ^ 63) : bits .or .i64 x y = x + y := bits_join .i64 63 (by decide) wraps_i64 i x y hx₀ hx hx₁ hy₀ hy hy₁
theorem nb_lt (b : UInt8) : nb b < 256 := by have := b.toNat_lt; unfold nb; omega
theorem nb_nonneg (b : UInt8) : 0 ≤ nb b := by unfold nb; omega
theorem bt {B : Nat} {a b c : World} (h : Below B a b) (k : Below b.heap.size b c) (hB : B ≤ b.heap.size) : Below B a c := h.trans (k.mono hB)
theorem bcell {W w1 : World} (hb : Below W.heap.size W w1) : (∀ b o, b < W.heap.size → w1.cell? ⟨b, o, none⟩ = W.cell? ⟨b, o, none⟩) ∧ (∀ b o, b < W.heap.size → w1.frozen? ⟨b, o, none⟩ = W.frozen? ⟨b, o, none⟩) :=
  ⟨fun b o h => hb.cell (p := ⟨b, o, none⟩) h, fun b o h => hb.frozen (p := ⟨b, o, none⟩) h⟩
theorem put7 {B blk : Nat} {a w : World} (h : Below B a w) (hB : B ≤ blk) (u0 u1 u2 u3 u4 u5 u6 : Value) :
    Below B a (((((((w.setCell ⟨blk, 0, none⟩ u0).setCell ⟨blk, 1, none⟩ u1).setCell ⟨blk, 2, none⟩ u2).setCell ⟨blk, 3, none⟩ u3).setCell ⟨blk, 4, none⟩ u4).setCell ⟨blk, 5, none⟩ u5).setCell ⟨blk, 6, none⟩ u6) :=
  ((((((h.setCell (p := ⟨blk, 0, none⟩) hB u0).setCell (p := ⟨blk, 1, none⟩) hB u1).setCell (p := ⟨blk, 2, none⟩) hB u2).setCell (p := ⟨blk, 3, none⟩) hB u3).setCell (p := ⟨blk, 4, none⟩) hB u4).setCell (p := ⟨blk, 5, none⟩) hB u5).setCell (p := ⟨blk, 6, none⟩) hB u6
theorem size7 (w : World) (blk : Nat) (u0 u1 u2 u3 u4 u5 u6 : Value) : (((((((w.setCell ⟨blk, 0, none⟩ u0).setCell ⟨blk, 1, none⟩ u1).setCell ⟨blk, 2, none⟩ u2).setCell ⟨blk, 3, none⟩ u3).setCell ⟨blk, 4, none⟩ u4).setCell ⟨blk, 5, none⟩ u5).setCell ⟨blk, 6, none⟩ u6).heap.size = w.heap.size := by simp [World.setCell]
/-- A row stays behind a state's seven stores into a block that lay there before it. -/
theorem Out.put7 {w : World} {B blk : Nat} {v : Value} {l : List Int} (h : Out w B v l) (hb : blk < B) (u0 u1 u2 u3 u4 u5 u6 : Value) :
    Out (((((((w.setCell ⟨blk, 0, none⟩ u0).setCell ⟨blk, 1, none⟩ u1).setCell ⟨blk, 2, none⟩ u2).setCell ⟨blk, 3, none⟩ u3).setCell ⟨blk, 4, none⟩ u4).setCell ⟨blk, 5, none⟩ u5).setCell ⟨blk, 6, none⟩ u6) B v l := by
  have one : ∀ (w : World) (i : Nat) (u : Value), Out w B v l → Out (w.setCell ⟨blk, i, none⟩ u) B v l := fun w i u h =>
    World.ownsRow.kept (row := some blk) h ⟨rfl, rfl, rfl, by simp [World.setCell], fun k _ hne => Below.heap_setCell w _ u k (fun e => hne (by rw [e]))⟩ (by
      cases hv : v.ownBlock with
      | none => exact .inl rfl
      | some k => exact .inr (fun e => by have := (World.ownsRow.lt h k hv).1; injection e with e; omega))
  exact one _ _ _ (one _ _ _ (one _ _ _ (one _ _ _ (one _ _ _ (one _ _ _ (one _ _ _ h))))))
theorem two_boxes {w w1 : World} {o p : Obj} (h : Below ((w.alloc o).alloc p).heap.size ((w.alloc o).alloc p) w1) : Below w.heap.size w w1 :=
  Below.trans (((Below.refl w.heap.size w).alloc (Nat.le_refl _) _).alloc (by simp) _) (h.mono (by simp; omega))
theorem one_box {w w1 : World} {o : Obj} (h : Below (w.alloc o).heap.size (w.alloc o) w1) : Below w.heap.size w w1 :=
  Below.trans ((Below.refl w.heap.size w).alloc (Nat.le_refl _) _) (h.mono (by simp))
/-- A state lies in a block. -/
structure HasS (w : World) (blk : Nat) (s : S) : Prop where
  c0 : w.cell? ⟨blk, 0, none⟩ = some (.int .i64 s.need)
  c1 : w.cell? ⟨blk, 1, none⟩ = some (.int .i64 s.code)
  c2 : w.cell? ⟨blk, 2, none⟩ = some (.int .i64 s.lo)
  c3 : w.cell? ⟨blk, 3, none⟩ = some (.int .i64 s.hi)
  c4 : w.cell? ⟨blk, 4, none⟩ = some (.string s.kept)
  c5 : w.cell? ⟨blk, 5, none⟩ = some (.int .i64 s.half)
  c6 : w.cell? ⟨blk, 6, none⟩ = some (.int .i64 s.mode)
  fz : ∀ i, w.frozen? ⟨blk, i, none⟩ = false
theorem HasS.lt {w : World} {blk : Nat} {s : S} (h : HasS w blk s) : blk < w.heap.size := World.block_lt_of_cell? w _ h.c0
theorem HasS.new (w : World) (s : S) : HasS (w.alloc (.cells #[.int .i64 s.need, .int .i64 s.code, .int .i64 s.lo, .int .i64 s.hi, .string s.kept, .int .i64 s.half, .int .i64 s.mode] 30)) w.heap.size s :=
  ⟨by simp [go_sem], by simp [go_sem], by simp [go_sem], by simp [go_sem], by simp [go_sem], by simp [go_sem], by simp [go_sem], fun i => by simp [go_sem]⟩
theorem HasS.keep {w w' : World} {blk : Nat} {s : S} (h : HasS w blk s) (hk : w'.heap[blk]? = w.heap[blk]?) : HasS w' blk s :=
  have e : ∀ i, w'.cell? ⟨blk, i, none⟩ = w.cell? ⟨blk, i, none⟩ := fun i => World.cell?_of_block (a := ⟨blk, i, none⟩) hk
  ⟨(e 0).trans h.c0, (e 1).trans h.c1, (e 2).trans h.c2, (e 3).trans h.c3, (e 4).trans h.c4, (e 5).trans h.c5, (e 6).trans h.c6, fun i => (World.frozen?_of_block (a := ⟨blk, i, none⟩) hk).trans (h.fz i)⟩
theorem HasS.alloc {w : World} {blk : Nat} {s : S} (h : HasS w blk s) (o : Obj) : HasS (w.alloc o) blk s := h.keep (Below.heap_alloc w o blk h.lt)
theorem HasS.below {w w' : World} {blk B : Nat} {s : S} (h : HasS w blk s) (hb : Below B w w') (hB : blk < B) : HasS w' blk s := h.keep (hb.block blk hB)
theorem HasS.drew {w : World} {blk : Nat} {s : S} (h : HasS w blk s) : HasS w.drew blk s := h.keep rfl
theorem HasS.put7 {w : World} {blk : Nat} {s' : S} (h : HasS w blk s') (s : S) : HasS (((((((w.setCell ⟨blk, 0, none⟩ (.int .i64 s.need)).setCell ⟨blk, 1, none⟩ (.int .i64 s.code)).setCell ⟨blk, 2, none⟩ (.int .i64 s.lo)).setCell ⟨blk, 3, none⟩ (.int .i64 s.hi)).setCell ⟨blk, 4, none⟩ (.string s.kept)).setCell ⟨blk, 5, none⟩ (.int .i64 s.half)).setCell ⟨blk, 6, none⟩ (.int .i64 s.mode)) blk s := by
  obtain ⟨h0, h1, h2, h3, h4, h5, h6, hz⟩ := h
  refine ⟨?_, ?_, ?_, ?_, ?_, ?_, ?_, fun i => ?_⟩
  all_goals first | (simp [World.cell?_setCell_other, World.cell?_setCell_same, *]; done) | (simp only [World.frozen?_setCell]; exact hz i)
theorem HasS.far7 {w : World} {blk g : Nat} {s : S} (h : HasS w g s) (hne : blk ≠ g) (u0 u1 u2 u3 u4 u5 u6 : Value) : HasS (((((((w.setCell ⟨blk, 0, none⟩ u0).setCell ⟨blk, 1, none⟩ u1).setCell ⟨blk, 2, none⟩ u2).setCell ⟨blk, 3, none⟩ u3).setCell ⟨blk, 4, none⟩ u4).setCell ⟨blk, 5, none⟩ u5).setCell ⟨blk, 6, none⟩ u6) g s := by
  have one : ∀ (w : World) (i : Nat) (u : Value), HasS w g s → HasS (w.setCell ⟨blk, i, none⟩ u) g s := fun w i u h =>
    h.keep (Below.heap_setCell w _ u g (fun e => hne e.symm))
  exact one _ _ _ (one _ _ _ (one _ _ _ (one _ _ _ (one _ _ _ (one _ _ _ (one _ _ _ h))))))
theorem load7 {w : World} {blk : Nat} {s : S} (h : HasS w blk s) : (loadVar 30 ⟨blk, 0, none⟩).run Try.prog w = .ok s.v w := by
  obtain ⟨h0, h1, h2, h3, h4, h5, h6, _⟩ := h
  simp [go_sem, S.v, h0, h1, h2, h3, h4, h5, h6]
theorem ret_SO {fn : Func} {p a : Tmp} (h : fn.results = #[.cell p 30, .tmp a]) {tmps : Array Value} {w : World} {blk : Nat} {s : S} (hp : tmps.getD p undef = .pointer (some ⟨blk, 0, none⟩)) (hW : HasS w blk s) :
    (results fn tmps).run Try.prog w = .ok (.tuple #[s.v, tmps.getD a undef]) w := by
  have hp' : tmps[p]?.getD undef = .pointer (some ⟨blk, 0, none⟩) := by simpa using hp
  simp only [results, h]
  simp [Result.andThen, hp', load7 hW, asAddr]
theorem ret_SOB {fn : Func} {p a b : Tmp} (h : fn.results = #[.cell p 30, .tmp a, .tmp b]) {tmps : Array Value} {w : World} {blk : Nat} {s : S} (hp : tmps.getD p undef = .pointer (some ⟨blk, 0, none⟩)) (hW : HasS w blk s) :
    (results fn tmps).run Try.prog w = .ok (.tuple #[s.v, tmps.getD a undef, tmps.getD b undef]) w := by
  have hp' : tmps[p]?.getD undef = .pointer (some ⟨blk, 0, none⟩) := by simpa using hp
  simp only [results, h]
  simp [Result.andThen, hp', load7 hW, asAddr]
theorem ret_S {fn : Func} {p : Tmp} (h : fn.results = #[.cell p 30]) {tmps : Array Value} {w : World} {blk : Nat} {s : S} (hp : tmps.getD p undef = .pointer (some ⟨blk, 0, none⟩)) (hW : HasS w blk s) :
    (results fn tmps).run Try.prog w = .ok s.v w := by
  have hp' : tmps[p]?.getD undef = .pointer (some ⟨blk, 0, none⟩) := by simpa using hp
  simp only [results, h]
  simp [hp', load7 hW, asAddr]
theorem HasS.box1 {w w1 : World} (h : Below (w.alloc (.cells #[.int .i64 0, .int .i64 0, .int .i64 0, .int .i64 0, .string ⟨#[]⟩, .int .i64 0, .int .i64 0] 30)).heap.size (w.alloc (.cells #[.int .i64 0, .int .i64 0, .int .i64 0, .int .i64 0, .string ⟨#[]⟩, .int .i64 0, .int .i64 0] 30)) w1) : HasS w1 w.heap.size .zero :=
  (HasS.new w .zero).below h (by simp)
theorem HasS.box2 {w w1 : World} {o : Obj} (h : Below ((w.alloc o).alloc (.cells #[.int .i64 0, .int .i64 0, .int .i64 0, .int .i64 0, .string ⟨#[]⟩, .int .i64 0, .int .i64 0] 30)).heap.size ((w.alloc o).alloc (.cells #[.int .i64 0, .int .i64 0, .int .i64 0, .int .i64 0, .string ⟨#[]⟩, .int .i64 0, .int .i64 0] 30)) w1) : HasS w1 (w.heap.size + 1) .zero := by
  have := (HasS.new (w.alloc o) .zero).below h (by simp)
  simpa using this
theorem and7 (b : UInt8) : bits .and .i64 (b.toNat : Int) 7 = (b.toNat : Int) % 8 :=
  and_mask 3 (by omega) (b.toNat : Int) (by omega) (by have := b.toNat_lt; omega)
theorem and15 (b : UInt8) : bits .and .i64 (b.toNat : Int) 15 = (b.toNat : Int) % 16 :=
  and_mask 4 (by omega) (b.toNat : Int) (by omega) (by have := b.toNat_lt; omega)
theorem and31 (b : UInt8) : bits .and .i64 (b.toNat : Int) 31 = (b.toNat : Int) % 32 :=
  and_mask 5 (by omega) (b.toNat : Int) (by omega) (by have := b.toNat_lt; omega)
theorem and63 (b : UInt8) : bits .and .i64 (b.toNat : Int) 63 = (b.toNat : Int) % 64 :=
  and_mask 6 (by omega) (b.toNat : Int) (by omega) (by have := b.toNat_lt; omega)
theorem undrew {W w1 : World} (h : Below W.drew.heap.size W.drew w1) : Below W.heap.size W w1 := Below.trans (Below.drew (Below.refl _ _)) h
theorem unOut {W w1 : World} {v : Value} {l : List Int} (h : Out w1 W.drew.heap.size v l) : Out w1 W.heap.size v l := h
theorem Out.drew {w : World} {B : Nat} {v : Value} {l : List Int} (h : Out w B v l) : Out w.drew B v l := World.ownsRow.drew h
theorem kw (b : UInt8) : IntKind.i64.wrap (b.toNat : Int) = (b.toNat : Int) := wraps_i64 _ (by omega) (by have := b.toNat_lt; omega)
theorem kw256 (b : UInt8) : IntKind.i64.wrap ((b.toNat : Int) * 256) = (b.toNat : Int) * 256 := wraps_i64 _ (by omega) (by have := b.toNat_lt; omega)
theorem Out.one' (w : World) (B n : Nat) (x : Int) (hn : w.heap.size = n) (h : B ≤ n) : Out (w.alloc (.cells #[.int .i64 x] 3)) B (.slice (some ⟨n, 0, none⟩) 1 1) [x] := by
  subst hn; exact Out.one w B x h
theorem far7 (w : World) (blk g i : Nat) (hne : blk ≠ g) (u0 u1 u2 u3 u4 u5 u6 : Value) : (((((((w.setCell ⟨blk, 0, none⟩ u0).setCell ⟨blk, 1, none⟩ u1).setCell ⟨blk, 2, none⟩ u2).setCell ⟨blk, 3, none⟩ u3).setCell ⟨blk, 4, none⟩ u4).setCell ⟨blk, 5, none⟩ u5).setCell ⟨blk, 6, none⟩ u6).cell? ⟨g, i, none⟩ = w.cell? ⟨g, i, none⟩ := by
  have one : ∀ (w : World) (j : Nat) (u : Value), (w.setCell ⟨blk, j, none⟩ u).cell? ⟨g, i, none⟩ = w.cell? ⟨g, i, none⟩ := fun w j u => World.cell?_setCell_other w _ _ u (fun e => hne (congrArg Addr.block e))
  rw [one, one, one, one, one, one, one]
theorem three_boxes {w w1 : World} {o p q : Obj} (h : Below (((w.alloc o).alloc p).alloc q).heap.size (((w.alloc o).alloc p).alloc q) w1) : Below w.heap.size w w1 :=
  Below.trans ((((Below.refl w.heap.size w).alloc (Nat.le_refl _) _).alloc (by simp) _).alloc (by simp; omega) _) (h.mono (by simp; omega))
theorem HasS.box3 {w w1 : World} {o p : Obj} (h : Below (((w.alloc o).alloc p).alloc (.cells #[.int .i64 0, .int .i64 0, .int .i64 0, .int .i64 0, .string ⟨#[]⟩, .int .i64 0, .int .i64 0] 30)).heap.size (((w.alloc o).alloc p).alloc (.cells #[.int .i64 0, .int .i64 0, .int .i64 0, .int .i64 0, .string ⟨#[]⟩, .int .i64 0, .int .i64 0] 30)) w1) : HasS w1 (w.heap.size + 1 + 1) .zero := by
  have := (HasS.new ((w.alloc o).alloc p) .zero).below h (by simp)
  simpa using this
theorem HasS.box32 {w w1 : World} {o p : Obj} (h : Below (((w.alloc o).alloc (.cells #[.int .i64 0, .int .i64 0, .int .i64 0, .int .i64 0, .string ⟨#[]⟩, .int .i64 0, .int .i64 0] 30)).alloc p).heap.size (((w.alloc o).alloc (.cells #[.int .i64 0, .int .i64 0, .int .i64 0, .int .i64 0, .string ⟨#[]⟩, .int .i64 0, .int .i64 0] 30)).alloc p) w1) : HasS w1 (w.heap.size + 1) .zero := by
  have := ((HasS.new (w.alloc o) .zero).alloc p).below h (by simp)
  simpa using this
theorem HasS.cells {w : World} {g : Nat} {s : S} (h : HasS w g s) : w.cell? ⟨g, 0, none⟩ = some (.int .i64 s.need) ∧ w.cell? ⟨g, 1, none⟩ = some (.int .i64 s.code) ∧ w.cell? ⟨g, 2, none⟩ = some (.int .i64 s.lo) ∧ w.cell? ⟨g, 3, none⟩ = some (.int .i64 s.hi) ∧ w.cell? ⟨g, 4, none⟩ = some (.string s.kept) ∧ w.cell? ⟨g, 5, none⟩ = some (.int .i64 s.half) ∧ w.cell? ⟨g, 6, none⟩ = some (.int .i64 s.mode) := ⟨h.c0, h.c1, h.c2, h.c3, h.c4, h.c5, h.c6⟩
theorem HasS.box21 {w w1 : World} {p : Obj} {s : S} (h : Below ((w.alloc (.cells #[.int .i64 s.need, .int .i64 s.code, .int .i64 s.lo, .int .i64 s.hi, .string s.kept, .int .i64 s.half, .int .i64 s.mode] 30)).alloc p).heap.size ((w.alloc (.cells #[.int .i64 s.need, .int .i64 s.code, .int .i64 s.lo, .int .i64 s.hi, .string s.kept, .int .i64 s.half, .int .i64 s.mode] 30)).alloc p) w1) : HasS w1 w.heap.size s :=
  ((HasS.new w s).alloc p).below h (by simp; omega)
end Go.Proofs.Ytloaemijhggheaa
