/- 11 texts of this proof in one file: LMath, LLower, LShelf, LTrim, LName, LSame, LSameWalk, LTrimmedM, LTrimmed, LShelf2, LFindRef. -/
import Derived.Lib.SlTrimSet
import Derived.Test.YtmdnpgcnbpppfaaGreatDoorQM
import Derived.Test.YtmdnpgcnbpppfaaGreatDoorRows
import Derived.WalkKit
import Derived.WalkSpells
import Derived.WalkLawsBesides
import Derived.Lib.ConvBytes
import Derived.Laws.IdiomStrings
import Derived.Shelf.Strings.SlTrimAscii
import Derived.Test.YtmdnpgcnbpppfaaGreatDoorProg
import Derived.Deep.OwnRows
import Derived.Shelf.Strings.SplitShaped
/- Plain mathematics of labels: bytes in lower case, spaces cut off. -/
namespace Go.Proofs.YtmdnpgcnbpppfaaGreatDoor

/-- A byte in lower case. -/
def lowB (b : UInt8) : UInt8 := if 65 ≤ b.toNat ∧ b.toNat ≤ 90 then UInt8.ofNat (b.toNat + 32) else b
def lowL (l : List UInt8) : List UInt8 := l.map lowB

theorem lowB_yes (b : UInt8) (h : 65 ≤ b.toNat ∧ b.toNat ≤ 90) : (lowB b).toNat = b.toNat + 32 := by
  unfold lowB; rw [if_pos h]; simp; omega
theorem lowB_no (b : UInt8) (h : ¬ (65 ≤ b.toNat ∧ b.toNat ≤ 90)) : lowB b = b := by
  unfold lowB; rw [if_neg h]
theorem lowL_length (l : List UInt8) : (lowL l).length = l.length := by simp [lowL]

/-- What lies at place j when the first k places are done. -/
def lowAt (l : List UInt8) (k j : Nat) : UInt8 := if j < k then lowB (l.getD j 0) else l.getD j 0
/-- The bytes that count as spaces around a label. -/
def spaces : List UInt8 := [32, 9, 10, 12, 13]
/-- A label as it is compared. -/
def trimL (l : List UInt8) : List UInt8 := lowL (Lib.trimS l spaces)
/-- The labels, each with its encoding. -/
def table : List (List UInt8 × Int) := [([117, 116, 102, 45, 56], 1), ([117, 116, 102, 56], 1), ([117, 110, 105, 99, 111, 100, 101, 45, 49, 45, 49, 45, 117, 116, 102, 45, 56], 1), ([115, 104, 105, 102, 116], 2), ([105, 115, 111, 45, 50, 48, 50, 50], 2), ([116, 119, 105, 110], 3), ([120, 45, 116, 119, 105, 110], 3), ([109, 115, 95, 116, 119, 105, 110], 3), ([108, 97, 116, 105, 110], 4), ([108, 97, 116, 105, 110, 49], 4), ([97, 115, 99, 105, 105], 4), ([117, 115, 45, 97, 115, 99, 105, 105], 4), ([119, 105, 110, 100, 111, 119, 115, 45, 49, 50, 53, 50], 4), ([117, 116, 102, 45, 49, 54], 5), ([117, 116, 102, 45, 49, 54, 108, 101], 5), ([117, 116, 102, 45, 49, 54, 98, 101], 6)]
/-- The encoding of a label that is trimmed. -/
def labelOf (t : List UInt8) : Int := if t == [117, 116, 102, 45, 56] then 1 else if t == [117, 116, 102, 56] then 1 else if t == [117, 110, 105, 99, 111, 100, 101, 45, 49, 45, 49, 45, 117, 116, 102, 45, 56] then 1 else if t == [115, 104, 105, 102, 116] then 2 else if t == [105, 115, 111, 45, 50, 48, 50, 50] then 2 else if t == [116, 119, 105, 110] then 3 else if t == [120, 45, 116, 119, 105, 110] then 3 else if t == [109, 115, 95, 116, 119, 105, 110] then 3 else if t == [108, 97, 116, 105, 110] then 4 else if t == [108, 97, 116, 105, 110, 49] then 4 else if t == [97, 115, 99, 105, 105] then 4 else if t == [117, 115, 45, 97, 115, 99, 105, 105] then 4 else if t == [119, 105, 110, 100, 111, 119, 115, 45, 49, 50, 53, 50] then 4 else if t == [117, 116, 102, 45, 49, 54] then 5 else if t == [117, 116, 102, 45, 49, 54, 108, 101] then 5 else if t == [117, 116, 102, 45, 49, 54, 98, 101] then 6 else 0
/-- The encoding of a label as it is given. -/
def findL (l : List UInt8) : Int := if l.length > 40 then 0 else labelOf (trimL l)
end Go.Proofs.YtmdnpgcnbpppfaaGreatDoor

/- The walk over label.lower. -/
namespace Go.Proofs.YtmdnpgcnbpppfaaGreatDoor
open Go.RowKit

/-- The row of label.lower when k of its bytes are done. -/
structure LowInv (l : List UInt8) (k B : Nat) (w wr : World) : Prop where
  cell : ∀ j, j < l.length → wr.cell? ⟨B, j, none⟩ = some (.int .u8 ((lowAt l k j).toNat : Int))
  free : ∀ j, j < l.length → wr.frozen? ⟨B, j, none⟩ = false
  below : Below B w wr

theorem LowInv.skip {l : List UInt8} {k B : Nat} {w wr : World} (h : LowInv l k B w wr) (hb : lowB (l.getD k 0) = l.getD k 0) : LowInv l (k + 1) B w wr :=
  ⟨fun j hj => by
    rw [h.cell j hj]; unfold lowAt
    by_cases e : j = k
    · subst e; simp only [Nat.lt_irrefl, if_false, Nat.lt_succ_self, if_true]; rw [hb]
    · by_cases e2 : j < k
      · rw [if_pos e2, if_pos (by omega)]
      · rw [if_neg e2, if_neg (by omega)], h.free, h.below⟩

theorem LowInv.put {l : List UInt8} {k B : Nat} {w wr : World} (h : LowInv l k B w wr) (hk : k < l.length) (n : Int) (hn : n = ((lowB (l.getD k 0)).toNat : Int)) : LowInv l (k + 1) B w (wr.setCell ⟨B, k, none⟩ (.int .u8 n)) :=
  ⟨fun j hj => by
    by_cases e : j = k
    · subst e
      rw [World.cell?_setCell_same _ _ _ (h.cell j hj)]; unfold lowAt; rw [if_pos (by omega), hn]
    · rw [World.cell?_setCell_other _ _ _ _ (by intro h; cases h; exact e rfl), h.cell j hj]; unfold lowAt
      by_cases e2 : j < k
      · rw [if_pos e2, if_pos (by omega)]
      · rw [if_neg e2, if_neg (by omega)],
   fun j hj => by rw [World.frozen?_setCell]; exact h.free j hj, h.below.setCell (Nat.le_refl _) _⟩

theorem LowInv.start (s : ByteArray) (w : World) : LowInv s.data.toList 0 w.heap.size w (Lib.bytesWorld w 5 s) :=
  ⟨fun j hj => by
    rw [Lib.bytesWorld_cell w 5 s j (by simpa using hj)]; rfl,
   fun j hj => by
    have hsz : s.size ≤ (Lib.bytesCells w 5 s).size := by simp [Lib.bytesCells]
    have hj' : j < s.size := by simpa using hj
    unfold World.frozen?
    rw [Lib.bytesWorld_at_new]
    simp; omega,
   ⟨rfl, rfl, rfl, by rw [Lib.bytesWorld_size]; omega, fun k hk => Lib.bytesWorld_at_old w 5 s k hk⟩⟩

theorem LowInv.back {s : ByteArray} {cap B : Nat} {w wr : World} (h : LowInv s.data.toList s.size B w wr) :
    (convert 57 9 (.slice (some ⟨B, 0, none⟩) s.size cap)).run Tryz.prog wr = .ok (.string ⟨(lowL s.data.toList).toArray⟩) wr := by
  have hl : (lowL s.data.toList).length = s.size := by rw [lowL_length]; simp
  have := run_convert_bytes_back (P := Tryz.prog) wr 57 9 5 ⟨B, 0, none⟩ cap (lowL s.data.toList) Tryz.underlying57 Tryz.underlying5 Tryz.underlying9 (fun j hj => by
    have hj' : j < s.size := by omega
    have e : (⟨B, 0, none⟩ : Addr).add j = ⟨B, j, none⟩ := by simp [Addr.add]; omega
    rw [e, h.cell j (by simpa using hj')]
    unfold lowAt
    rw [if_pos hj']
    simp [lowL, hj'])
  rw [hl] at this
  exact this

set_option maxHeartbeats 400000 in
theorem lower_any (s : ByteArray) (w : World) (hs : s.size ≤ 1125899906842624) :
    Calls Tryz.prog 71 #[.string s] w fun e w' => e = .returned (.string ⟨(lowL s.data.toList).toArray⟩) ∧ Below w.heap.size w w' := by
  have hconv := Lib.run_convert_string_bytes (P := Tryz.prog) w 9 57 5 s Tryz.underlying9 Tryz.underlying57 Tryz.underlying5
  have h0 := LowInv.start s w
  have hl : s.data.toList.length = s.size := by simp
  have HL := hid hl
  clear hl
  go_enter Tryz.func71, Tryz.ntmps71
  go_wp2
  clear hconv
  go_loopw [10] (fun i wr => ∃ k : Nat, k ≤ s.size ∧ i = .int .i64 k ∧ LowInv s.data.toList k w.heap.size w wr) (fun i _ => s.size - (intOf i).toNat)
  case atStart => exact ⟨0, Nat.zero_le _, rfl, h0⟩
  case round =>
    obtain ⟨k, hk, rfl, hinv⟩ := hrel
    by_cases hlt : k < s.size
    · have hc := hinv.cell k (by rw [HL.out]; exact hlt)
      have hf := hinv.free k (by rw [HL.out]; exact hlt)
      have e1 : lowAt s.data.toList k k = s.data.toList.getD k 0 := by unfold lowAt; rw [if_neg (by omega)]
      rw [e1] at hc
      clear e1
      obtain ⟨c, hcd⟩ : ∃ c, c = s.data.toList.getD k 0 := ⟨_, rfl⟩
      rw [← hcd] at hc
      have HC := hid hcd
      clear hcd
      by_cases hyes : 65 ≤ c.toNat ∧ c.toNat ≤ 90
      · obtain ⟨h1, h2⟩ := hyes
        have hb : (c.toNat : Int) + 97 - 65 = ((lowB (s.data.toList.getD k 0)).toNat : Int) := by
          rw [← HC.out, lowB_yes c ⟨h1, h2⟩]; omega
        have hput := hinv.put (by rw [HL.out]; exact hlt) _ hb
        have HP := hid hput
        clear hb hput
        go_wp2
        go_roundw
        case rel => exact ⟨k + 1, by omega, by go_num, HP.out⟩
        case measure => simp [intOf]; omega
      · have hsk := hinv.skip (by rw [← HC.out]; exact lowB_no c hyes)
        have HP := hid hsk
        clear hsk
        go_wp2
        all_goals
          go_roundw
          case rel => exact ⟨k + 1, by omega, by go_num, HP.out⟩
          case measure => simp [intOf]; omega
    · have hk' : k = s.size := by omega
      subst hk'
      have hback := fun cap => hinv.back (cap := cap)
      go_wp2
      go_ret
      exact ⟨rfl, hinv.below⟩
end Go.Proofs.YtmdnpgcnbpppfaaGreatDoor

/- The library's contract of strings.Trim at this program: each fact by the kernel. -/
namespace Go.Proofs.YtmdnpgcnbpppfaaGreatDoor
open Go.Shelf
def lays160_ren : Go.Shelf.Ren := ⟨fun | 160 => 72 | 232 => 99 | 231 => 98 | 227 => 100 | 234 => 102 | 233 => 101 | 236 => 104 | 235 => 103 | 228 => 130 | 271 => 132 | 151 => 131 | 197 => 106 | 120 => 148 | 152 => 147 | 260 => 133 | 137 => 41 | 119 => 151 | 224 => 135 | 225 => 134 | 217 => 59 | 266 => 90 | n => n, fun | 9 => 9 | 4 => 4 | 3 => 3 | 5 => 5 | 117 => 115 | 116 => 114 | 0 => 0 | 124 => 118 | 21 => 21 | 105 => 119 | 46 => 101 | 119 => 133 | 139 => 136 | 138 => 135 | n => n, fun | 3 => 3 | 4 => 4 | n => n⟩
theorem lays160 : Go.Proofs.Lays.n160 Tryz.prog lays160_ren := {
  mixed := by kernel_rfl
  f119 := Tryz.func151.trans (congrArg some (by kernel_rfl))
  f120 := Tryz.func148.trans (congrArg some (by kernel_rfl))
  f137 := Tryz.func41.trans (congrArg some (by kernel_rfl))
  f151 := Tryz.func131.trans (congrArg some (by kernel_rfl))
  f152 := Tryz.func147.trans (congrArg some (by kernel_rfl))
  f160 := Tryz.func72.trans (congrArg some (by kernel_rfl))
  f197 := Tryz.func106.trans (congrArg some (by kernel_rfl))
  f217 := Tryz.func59.trans (congrArg some (by kernel_rfl))
  f224 := Tryz.func135.trans (congrArg some (by kernel_rfl))
  f225 := Tryz.func134.trans (congrArg some (by kernel_rfl))
  f227 := Tryz.func100.trans (congrArg some (by kernel_rfl))
  f228 := Tryz.func130.trans (congrArg some (by kernel_rfl))
  f231 := Tryz.func98.trans (congrArg some (by kernel_rfl))
  f232 := Tryz.func99.trans (congrArg some (by kernel_rfl))
  f233 := Tryz.func101.trans (congrArg some (by kernel_rfl))
  f234 := Tryz.func102.trans (congrArg some (by kernel_rfl))
  f235 := Tryz.func103.trans (congrArg some (by kernel_rfl))
  f236 := Tryz.func104.trans (congrArg some (by kernel_rfl))
  f260 := Tryz.func133.trans (congrArg some (by kernel_rfl))
  f266 := Tryz.func90.trans (congrArg some (by kernel_rfl))
  f271 := Tryz.func132.trans (congrArg some (by kernel_rfl))
  t0 := Tryz.underlying0
  a0 := Tryz.isAgg0
  z0 := Tryz.sizeOf0
  v0 := Tryz.zeroValue0
  t3 := Tryz.underlying3
  a3 := Tryz.isAgg3
  z3 := Tryz.sizeOf3
  v3 := Tryz.zeroValue3
  t4 := Tryz.underlying4
  a4 := Tryz.isAgg4
  z4 := Tryz.sizeOf4
  v4 := Tryz.zeroValue4
  t5 := Tryz.underlying5
  a5 := Tryz.isAgg5
  z5 := Tryz.sizeOf5
  v5 := Tryz.zeroValue5
  t9 := Tryz.underlying9
  a9 := Tryz.isAgg9
  z9 := Tryz.sizeOf9
  v9 := Tryz.zeroValue9
  t21 := Tryz.underlying21
  a21 := Tryz.isAgg21
  z21 := Tryz.sizeOf21
  v21 := Tryz.zeroValue21
  t46 := Tryz.underlying101
  a46 := Tryz.isAgg101
  z46 := Tryz.sizeOf101
  v46 := Tryz.zeroValue101
  t105 := Tryz.underlying119
  a105 := Tryz.isAgg119
  z105 := Tryz.sizeOf119
  v105 := Tryz.zeroValue119
  t116 := Tryz.underlying114
  a116 := Tryz.isAgg114
  z116 := Tryz.sizeOf114
  t117 := Tryz.underlying115
  a117 := Tryz.isAgg115
  z117 := Tryz.sizeOf115
  v117 := Tryz.zeroValue115
  t119 := Tryz.underlying133
  a119 := Tryz.isAgg133
  z119 := Tryz.sizeOf133
  t124 := Tryz.underlying118
  a124 := Tryz.isAgg118
  z124 := Tryz.sizeOf118
  v124 := Tryz.zeroValue118
  t138 := Tryz.underlying135
  a138 := Tryz.isAgg135
  z138 := Tryz.sizeOf135
  v138 := Tryz.zeroValue135
  t139 := Tryz.underlying136
  a139 := Tryz.isAgg136
  z139 := Tryz.sizeOf136
  v139 := Tryz.zeroValue136
  g3 := by kernel_rfl
  g4 := by kernel_rfl }
end Go.Proofs.YtmdnpgcnbpppfaaGreatDoor

/- The walks over label.Trim and label.Find. -/
namespace Go.Proofs.YtmdnpgcnbpppfaaGreatDoor
open Go.RowKit Go.Shelf Go.Lib

theorem dropWhile_le (p : UInt8 → Bool) : ∀ l : List UInt8, (l.dropWhile p).length ≤ l.length
  | [] => Nat.le_refl _
  | a :: r => by
    simp only [List.dropWhile]
    split
    · exact Nat.le_succ_of_le (dropWhile_le p r)
    · exact Nat.le_refl _
theorem trimS_le (l cs : List UInt8) : (Lib.trimS l cs).length ≤ l.length := by
  unfold Lib.trimS Lib.trimLeftS Lib.trimRightS
  refine Nat.le_trans (dropWhile_le _ _) ?_
  rw [List.length_reverse]
  exact Nat.le_trans (dropWhile_le _ _) (by simp)

set_option maxHeartbeats 400000 in
theorem trim_any (s : ByteArray) (w : World) (hs : s.size ≤ 1125899906842624) :
    Calls Tryz.prog 48 #[.string s] w fun e w' => e = .returned (.string ⟨(trimL s.data.toList).toArray⟩) ∧ Below w.heap.size w w' := by
  have hcon := Any.strings_Trim_laid lays160 (by kernel_rfl) s ⟨#[32, 9, 10, 12, 13]⟩ w (by omega) (by decide) (ascii_of_all (by decide))
  change Calls Tryz.prog 72 _ _ (fun e w' => e = .returned (.string ⟨(Lib.trimS s.data.toList spaces).toArray⟩) ∧ Below w.heap.size w w') at hcon
  have hle := trimS_le s.data.toList spaces
  have hz : (⟨(Lib.trimS s.data.toList spaces).toArray⟩ : ByteArray).size ≤ 1125899906842624 := by
    rw [Lib.size_mk]; simp at hle; omega
  have hlow := fun w1 => lower_any ⟨(Lib.trimS s.data.toList spaces).toArray⟩ w1 hz
  clear hle hz
  change ∀ w1, Calls _ _ _ _ (fun e w' => e = .returned (.string ⟨(trimL s.data.toList).toArray⟩) ∧ Below w1.heap.size w1 w') at hlow
  generalize (⟨(Lib.trimS s.data.toList spaces).toArray⟩ : ByteArray) = r at hcon hlow
  generalize (⟨(trimL s.data.toList).toArray⟩ : ByteArray) = t at hlow ⊢
  have HC := hid hcon
  have HL := hid hlow
  clear hcon hlow
  go_enter Tryz.func48, Tryz.ntmps48
  go_wp2_with fail
  refine HC.out.mono ?_
  rintro e w1 ⟨rfl, hb1⟩
  go_wp2_with fail
  refine (HL.out _).mono ?_
  rintro e w2 ⟨rfl, hb2⟩
  go_wp2_with fail
  go_ret
  exact ⟨rfl, hb1.trans (hb2.mono hb1.size)⟩

set_option maxHeartbeats 400000 in
theorem find_long (s : ByteArray) (w : World) (hd : decide ((40 : Int) < (s.size : Int)) = true) :
    Calls Tryz.prog 32 #[.string s] w fun e w' => e = .returned (.int .i64 0) ∧ Below w.heap.size w w' := by
  go_enter Tryz.func32, Tryz.ntmps32
  go_wp2_with fail
  go_ret
  exact ⟨rfl, Below.refl _ _⟩

set_option maxHeartbeats 400000 in
theorem find_case0 (s : ByteArray) (t : List UInt8) (w : World) (hd : decide ((40 : Int) < (s.size : Int)) = false)
    (HT : Hid (Calls Tryz.prog 48 #[.string s] w fun e w' => e = .returned (.string ⟨t.toArray⟩) ∧ Below w.heap.size w w'))
    (f0 : (t == [117, 116, 102, 45, 56]) = true) :
    Calls Tryz.prog 32 #[.string s] w fun e w' => e = .returned (.int .i64 1) ∧ Below w.heap.size w w' := by
  go_enter Tryz.func32, Tryz.ntmps32
  go_wp2_with fail
  refine HT.out.mono ?_
  rintro e w1 ⟨rfl, hb1⟩
  go_wp2_with fail
  go_ret
  exact ⟨rfl, hb1⟩
set_option maxHeartbeats 400000 in
theorem find_case1 (s : ByteArray) (t : List UInt8) (w : World) (hd : decide ((40 : Int) < (s.size : Int)) = false)
    (HT : Hid (Calls Tryz.prog 48 #[.string s] w fun e w' => e = .returned (.string ⟨t.toArray⟩) ∧ Below w.heap.size w w'))
    (f0 : (t == [117, 116, 102, 45, 56]) = false) (f1 : (t == [117, 116, 102, 56]) = true) :
    Calls Tryz.prog 32 #[.string s] w fun e w' => e = .returned (.int .i64 1) ∧ Below w.heap.size w w' := by
  go_enter Tryz.func32, Tryz.ntmps32
  go_wp2_with fail
  refine HT.out.mono ?_
  rintro e w1 ⟨rfl, hb1⟩
  go_wp2_with fail
  go_ret
  exact ⟨rfl, hb1⟩
set_option maxHeartbeats 400000 in
theorem find_case2 (s : ByteArray) (t : List UInt8) (w : World) (hd : decide ((40 : Int) < (s.size : Int)) = false)
    (HT : Hid (Calls Tryz.prog 48 #[.string s] w fun e w' => e = .returned (.string ⟨t.toArray⟩) ∧ Below w.heap.size w w'))
    (f0 : (t == [117, 116, 102, 45, 56]) = false) (f1 : (t == [117, 116, 102, 56]) = false) (f2 : (t == [117, 110, 105, 99, 111, 100, 101, 45, 49, 45, 49, 45, 117, 116, 102, 45, 56]) = true) :
    Calls Tryz.prog 32 #[.string s] w fun e w' => e = .returned (.int .i64 1) ∧ Below w.heap.size w w' := by
  go_enter Tryz.func32, Tryz.ntmps32
  go_wp2_with fail
  refine HT.out.mono ?_
  rintro e w1 ⟨rfl, hb1⟩
  go_wp2_with fail
  go_ret
  exact ⟨rfl, hb1⟩
set_option maxHeartbeats 400000 in
theorem find_case3 (s : ByteArray) (t : List UInt8) (w : World) (hd : decide ((40 : Int) < (s.size : Int)) = false)
    (HT : Hid (Calls Tryz.prog 48 #[.string s] w fun e w' => e = .returned (.string ⟨t.toArray⟩) ∧ Below w.heap.size w w'))
    (f0 : (t == [117, 116, 102, 45, 56]) = false) (f1 : (t == [117, 116, 102, 56]) = false) (f2 : (t == [117, 110, 105, 99, 111, 100, 101, 45, 49, 45, 49, 45, 117, 116, 102, 45, 56]) = false) (f3 : (t == [115, 104, 105, 102, 116]) = true) :
    Calls Tryz.prog 32 #[.string s] w fun e w' => e = .returned (.int .i64 2) ∧ Below w.heap.size w w' := by
  go_enter Tryz.func32, Tryz.ntmps32
  go_wp2_with fail
  refine HT.out.mono ?_
  rintro e w1 ⟨rfl, hb1⟩
  go_wp2_with fail
  go_ret
  exact ⟨rfl, hb1⟩
set_option maxHeartbeats 400000 in
theorem find_case4 (s : ByteArray) (t : List UInt8) (w : World) (hd : decide ((40 : Int) < (s.size : Int)) = false)
    (HT : Hid (Calls Tryz.prog 48 #[.string s] w fun e w' => e = .returned (.string ⟨t.toArray⟩) ∧ Below w.heap.size w w'))
    (f0 : (t == [117, 116, 102, 45, 56]) = false) (f1 : (t == [117, 116, 102, 56]) = false) (f2 : (t == [117, 110, 105, 99, 111, 100, 101, 45, 49, 45, 49, 45, 117, 116, 102, 45, 56]) = false) (f3 : (t == [115, 104, 105, 102, 116]) = false) (f4 : (t == [105, 115, 111, 45, 50, 48, 50, 50]) = true) :
    Calls Tryz.prog 32 #[.string s] w fun e w' => e = .returned (.int .i64 2) ∧ Below w.heap.size w w' := by
  go_enter Tryz.func32, Tryz.ntmps32
  go_wp2_with fail
  refine HT.out.mono ?_
  rintro e w1 ⟨rfl, hb1⟩
  go_wp2_with fail
  go_ret
  exact ⟨rfl, hb1⟩
set_option maxHeartbeats 400000 in
theorem find_case5 (s : ByteArray) (t : List UInt8) (w : World) (hd : decide ((40 : Int) < (s.size : Int)) = false)
    (HT : Hid (Calls Tryz.prog 48 #[.string s] w fun e w' => e = .returned (.string ⟨t.toArray⟩) ∧ Below w.heap.size w w'))
    (f0 : (t == [117, 116, 102, 45, 56]) = false) (f1 : (t == [117, 116, 102, 56]) = false) (f2 : (t == [117, 110, 105, 99, 111, 100, 101, 45, 49, 45, 49, 45, 117, 116, 102, 45, 56]) = false) (f3 : (t == [115, 104, 105, 102, 116]) = false) (f4 : (t == [105, 115, 111, 45, 50, 48, 50, 50]) = false) (f5 : (t == [116, 119, 105, 110]) = true) :
    Calls Tryz.prog 32 #[.string s] w fun e w' => e = .returned (.int .i64 3) ∧ Below w.heap.size w w' := by
  go_enter Tryz.func32, Tryz.ntmps32
  go_wp2_with fail
  refine HT.out.mono ?_
  rintro e w1 ⟨rfl, hb1⟩
  go_wp2_with fail
  go_ret
  exact ⟨rfl, hb1⟩
set_option maxHeartbeats 400000 in
theorem find_case6 (s : ByteArray) (t : List UInt8) (w : World) (hd : decide ((40 : Int) < (s.size : Int)) = false)
    (HT : Hid (Calls Tryz.prog 48 #[.string s] w fun e w' => e = .returned (.string ⟨t.toArray⟩) ∧ Below w.heap.size w w'))
    (f0 : (t == [117, 116, 102, 45, 56]) = false) (f1 : (t == [117, 116, 102, 56]) = false) (f2 : (t == [117, 110, 105, 99, 111, 100, 101, 45, 49, 45, 49, 45, 117, 116, 102, 45, 56]) = false) (f3 : (t == [115, 104, 105, 102, 116]) = false) (f4 : (t == [105, 115, 111, 45, 50, 48, 50, 50]) = false) (f5 : (t == [116, 119, 105, 110]) = false) (f6 : (t == [120, 45, 116, 119, 105, 110]) = true) :
    Calls Tryz.prog 32 #[.string s] w fun e w' => e = .returned (.int .i64 3) ∧ Below w.heap.size w w' := by
  go_enter Tryz.func32, Tryz.ntmps32
  go_wp2_with fail
  refine HT.out.mono ?_
  rintro e w1 ⟨rfl, hb1⟩
  go_wp2_with fail
  go_ret
  exact ⟨rfl, hb1⟩
set_option maxHeartbeats 400000 in
theorem find_case7 (s : ByteArray) (t : List UInt8) (w : World) (hd : decide ((40 : Int) < (s.size : Int)) = false)
    (HT : Hid (Calls Tryz.prog 48 #[.string s] w fun e w' => e = .returned (.string ⟨t.toArray⟩) ∧ Below w.heap.size w w'))
    (f0 : (t == [117, 116, 102, 45, 56]) = false) (f1 : (t == [117, 116, 102, 56]) = false) (f2 : (t == [117, 110, 105, 99, 111, 100, 101, 45, 49, 45, 49, 45, 117, 116, 102, 45, 56]) = false) (f3 : (t == [115, 104, 105, 102, 116]) = false) (f4 : (t == [105, 115, 111, 45, 50, 48, 50, 50]) = false) (f5 : (t == [116, 119, 105, 110]) = false) (f6 : (t == [120, 45, 116, 119, 105, 110]) = false) (f7 : (t == [109, 115, 95, 116, 119, 105, 110]) = true) :
    Calls Tryz.prog 32 #[.string s] w fun e w' => e = .returned (.int .i64 3) ∧ Below w.heap.size w w' := by
  go_enter Tryz.func32, Tryz.ntmps32
  go_wp2_with fail
  refine HT.out.mono ?_
  rintro e w1 ⟨rfl, hb1⟩
  go_wp2_with fail
  go_ret
  exact ⟨rfl, hb1⟩
set_option maxHeartbeats 400000 in
theorem find_case8 (s : ByteArray) (t : List UInt8) (w : World) (hd : decide ((40 : Int) < (s.size : Int)) = false)
    (HT : Hid (Calls Tryz.prog 48 #[.string s] w fun e w' => e = .returned (.string ⟨t.toArray⟩) ∧ Below w.heap.size w w'))
    (f0 : (t == [117, 116, 102, 45, 56]) = false) (f1 : (t == [117, 116, 102, 56]) = false) (f2 : (t == [117, 110, 105, 99, 111, 100, 101, 45, 49, 45, 49, 45, 117, 116, 102, 45, 56]) = false) (f3 : (t == [115, 104, 105, 102, 116]) = false) (f4 : (t == [105, 115, 111, 45, 50, 48, 50, 50]) = false) (f5 : (t == [116, 119, 105, 110]) = false) (f6 : (t == [120, 45, 116, 119, 105, 110]) = false) (f7 : (t == [109, 115, 95, 116, 119, 105, 110]) = false) (f8 : (t == [108, 97, 116, 105, 110]) = true) :
    Calls Tryz.prog 32 #[.string s] w fun e w' => e = .returned (.int .i64 4) ∧ Below w.heap.size w w' := by
  go_enter Tryz.func32, Tryz.ntmps32
  go_wp2_with fail
  refine HT.out.mono ?_
  rintro e w1 ⟨rfl, hb1⟩
  go_wp2_with fail
  go_ret
  exact ⟨rfl, hb1⟩
set_option maxHeartbeats 400000 in
theorem find_case9 (s : ByteArray) (t : List UInt8) (w : World) (hd : decide ((40 : Int) < (s.size : Int)) = false)
    (HT : Hid (Calls Tryz.prog 48 #[.string s] w fun e w' => e = .returned (.string ⟨t.toArray⟩) ∧ Below w.heap.size w w'))
    (f0 : (t == [117, 116, 102, 45, 56]) = false) (f1 : (t == [117, 116, 102, 56]) = false) (f2 : (t == [117, 110, 105, 99, 111, 100, 101, 45, 49, 45, 49, 45, 117, 116, 102, 45, 56]) = false) (f3 : (t == [115, 104, 105, 102, 116]) = false) (f4 : (t == [105, 115, 111, 45, 50, 48, 50, 50]) = false) (f5 : (t == [116, 119, 105, 110]) = false) (f6 : (t == [120, 45, 116, 119, 105, 110]) = false) (f7 : (t == [109, 115, 95, 116, 119, 105, 110]) = false) (f8 : (t == [108, 97, 116, 105, 110]) = false) (f9 : (t == [108, 97, 116, 105, 110, 49]) = true) :
    Calls Tryz.prog 32 #[.string s] w fun e w' => e = .returned (.int .i64 4) ∧ Below w.heap.size w w' := by
  go_enter Tryz.func32, Tryz.ntmps32
  go_wp2_with fail
  refine HT.out.mono ?_
  rintro e w1 ⟨rfl, hb1⟩
  go_wp2_with fail
  go_ret
  exact ⟨rfl, hb1⟩
set_option maxHeartbeats 400000 in
theorem find_case10 (s : ByteArray) (t : List UInt8) (w : World) (hd : decide ((40 : Int) < (s.size : Int)) = false)
    (HT : Hid (Calls Tryz.prog 48 #[.string s] w fun e w' => e = .returned (.string ⟨t.toArray⟩) ∧ Below w.heap.size w w'))
    (f0 : (t == [117, 116, 102, 45, 56]) = false) (f1 : (t == [117, 116, 102, 56]) = false) (f2 : (t == [117, 110, 105, 99, 111, 100, 101, 45, 49, 45, 49, 45, 117, 116, 102, 45, 56]) = false) (f3 : (t == [115, 104, 105, 102, 116]) = false) (f4 : (t == [105, 115, 111, 45, 50, 48, 50, 50]) = false) (f5 : (t == [116, 119, 105, 110]) = false) (f6 : (t == [120, 45, 116, 119, 105, 110]) = false) (f7 : (t == [109, 115, 95, 116, 119, 105, 110]) = false) (f8 : (t == [108, 97, 116, 105, 110]) = false) (f9 : (t == [108, 97, 116, 105, 110, 49]) = false) (f10 : (t == [97, 115, 99, 105, 105]) = true) :
    Calls Tryz.prog 32 #[.string s] w fun e w' => e = .returned (.int .i64 4) ∧ Below w.heap.size w w' := by
  go_enter Tryz.func32, Tryz.ntmps32
  go_wp2_with fail
  refine HT.out.mono ?_
  rintro e w1 ⟨rfl, hb1⟩
  go_wp2_with fail
  go_ret
  exact ⟨rfl, hb1⟩
set_option maxHeartbeats 400000 in
theorem find_case11 (s : ByteArray) (t : List UInt8) (w : World) (hd : decide ((40 : Int) < (s.size : Int)) = false)
    (HT : Hid (Calls Tryz.prog 48 #[.string s] w fun e w' => e = .returned (.string ⟨t.toArray⟩) ∧ Below w.heap.size w w'))
    (f0 : (t == [117, 116, 102, 45, 56]) = false) (f1 : (t == [117, 116, 102, 56]) = false) (f2 : (t == [117, 110, 105, 99, 111, 100, 101, 45, 49, 45, 49, 45, 117, 116, 102, 45, 56]) = false) (f3 : (t == [115, 104, 105, 102, 116]) = false) (f4 : (t == [105, 115, 111, 45, 50, 48, 50, 50]) = false) (f5 : (t == [116, 119, 105, 110]) = false) (f6 : (t == [120, 45, 116, 119, 105, 110]) = false) (f7 : (t == [109, 115, 95, 116, 119, 105, 110]) = false) (f8 : (t == [108, 97, 116, 105, 110]) = false) (f9 : (t == [108, 97, 116, 105, 110, 49]) = false) (f10 : (t == [97, 115, 99, 105, 105]) = false) (f11 : (t == [117, 115, 45, 97, 115, 99, 105, 105]) = true) :
    Calls Tryz.prog 32 #[.string s] w fun e w' => e = .returned (.int .i64 4) ∧ Below w.heap.size w w' := by
  go_enter Tryz.func32, Tryz.ntmps32
  go_wp2_with fail
  refine HT.out.mono ?_
  rintro e w1 ⟨rfl, hb1⟩
  go_wp2_with fail
  go_ret
  exact ⟨rfl, hb1⟩
set_option maxHeartbeats 400000 in
theorem find_case12 (s : ByteArray) (t : List UInt8) (w : World) (hd : decide ((40 : Int) < (s.size : Int)) = false)
    (HT : Hid (Calls Tryz.prog 48 #[.string s] w fun e w' => e = .returned (.string ⟨t.toArray⟩) ∧ Below w.heap.size w w'))
    (f0 : (t == [117, 116, 102, 45, 56]) = false) (f1 : (t == [117, 116, 102, 56]) = false) (f2 : (t == [117, 110, 105, 99, 111, 100, 101, 45, 49, 45, 49, 45, 117, 116, 102, 45, 56]) = false) (f3 : (t == [115, 104, 105, 102, 116]) = false) (f4 : (t == [105, 115, 111, 45, 50, 48, 50, 50]) = false) (f5 : (t == [116, 119, 105, 110]) = false) (f6 : (t == [120, 45, 116, 119, 105, 110]) = false) (f7 : (t == [109, 115, 95, 116, 119, 105, 110]) = false) (f8 : (t == [108, 97, 116, 105, 110]) = false) (f9 : (t == [108, 97, 116, 105, 110, 49]) = false) (f10 : (t == [97, 115, 99, 105, 105]) = false) (f11 : (t == [117, 115, 45, 97, 115, 99, 105, 105]) = false) (f12 : (t == [119, 105, 110, 100, 111, 119, 115, 45, 49, 50, 53, 50]) = true) :
    Calls Tryz.prog 32 #[.string s] w fun e w' => e = .returned (.int .i64 4) ∧ Below w.heap.size w w' := by
  go_enter Tryz.func32, Tryz.ntmps32
  go_wp2_with fail
  refine HT.out.mono ?_
  rintro e w1 ⟨rfl, hb1⟩
  go_wp2_with fail
  go_ret
  exact ⟨rfl, hb1⟩
set_option maxHeartbeats 400000 in
theorem find_case13 (s : ByteArray) (t : List UInt8) (w : World) (hd : decide ((40 : Int) < (s.size : Int)) = false)
    (HT : Hid (Calls Tryz.prog 48 #[.string s] w fun e w' => e = .returned (.string ⟨t.toArray⟩) ∧ Below w.heap.size w w'))
    (f0 : (t == [117, 116, 102, 45, 56]) = false) (f1 : (t == [117, 116, 102, 56]) = false) (f2 : (t == [117, 110, 105, 99, 111, 100, 101, 45, 49, 45, 49, 45, 117, 116, 102, 45, 56]) = false) (f3 : (t == [115, 104, 105, 102, 116]) = false) (f4 : (t == [105, 115, 111, 45, 50, 48, 50, 50]) = false) (f5 : (t == [116, 119, 105, 110]) = false) (f6 : (t == [120, 45, 116, 119, 105, 110]) = false) (f7 : (t == [109, 115, 95, 116, 119, 105, 110]) = false) (f8 : (t == [108, 97, 116, 105, 110]) = false) (f9 : (t == [108, 97, 116, 105, 110, 49]) = false) (f10 : (t == [97, 115, 99, 105, 105]) = false) (f11 : (t == [117, 115, 45, 97, 115, 99, 105, 105]) = false) (f12 : (t == [119, 105, 110, 100, 111, 119, 115, 45, 49, 50, 53, 50]) = false) (f13 : (t == [117, 116, 102, 45, 49, 54]) = true) :
    Calls Tryz.prog 32 #[.string s] w fun e w' => e = .returned (.int .i64 5) ∧ Below w.heap.size w w' := by
  go_enter Tryz.func32, Tryz.ntmps32
  go_wp2_with fail
  refine HT.out.mono ?_
  rintro e w1 ⟨rfl, hb1⟩
  go_wp2_with fail
  go_ret
  exact ⟨rfl, hb1⟩
set_option maxHeartbeats 400000 in
theorem find_case14 (s : ByteArray) (t : List UInt8) (w : World) (hd : decide ((40 : Int) < (s.size : Int)) = false)
    (HT : Hid (Calls Tryz.prog 48 #[.string s] w fun e w' => e = .returned (.string ⟨t.toArray⟩) ∧ Below w.heap.size w w'))
    (f0 : (t == [117, 116, 102, 45, 56]) = false) (f1 : (t == [117, 116, 102, 56]) = false) (f2 : (t == [117, 110, 105, 99, 111, 100, 101, 45, 49, 45, 49, 45, 117, 116, 102, 45, 56]) = false) (f3 : (t == [115, 104, 105, 102, 116]) = false) (f4 : (t == [105, 115, 111, 45, 50, 48, 50, 50]) = false) (f5 : (t == [116, 119, 105, 110]) = false) (f6 : (t == [120, 45, 116, 119, 105, 110]) = false) (f7 : (t == [109, 115, 95, 116, 119, 105, 110]) = false) (f8 : (t == [108, 97, 116, 105, 110]) = false) (f9 : (t == [108, 97, 116, 105, 110, 49]) = false) (f10 : (t == [97, 115, 99, 105, 105]) = false) (f11 : (t == [117, 115, 45, 97, 115, 99, 105, 105]) = false) (f12 : (t == [119, 105, 110, 100, 111, 119, 115, 45, 49, 50, 53, 50]) = false) (f13 : (t == [117, 116, 102, 45, 49, 54]) = false) (f14 : (t == [117, 116, 102, 45, 49, 54, 108, 101]) = true) :
    Calls Tryz.prog 32 #[.string s] w fun e w' => e = .returned (.int .i64 5) ∧ Below w.heap.size w w' := by
  go_enter Tryz.func32, Tryz.ntmps32
  go_wp2_with fail
  refine HT.out.mono ?_
  rintro e w1 ⟨rfl, hb1⟩
  go_wp2_with fail
  go_ret
  exact ⟨rfl, hb1⟩
set_option maxHeartbeats 400000 in
theorem find_case15 (s : ByteArray) (t : List UInt8) (w : World) (hd : decide ((40 : Int) < (s.size : Int)) = false)
    (HT : Hid (Calls Tryz.prog 48 #[.string s] w fun e w' => e = .returned (.string ⟨t.toArray⟩) ∧ Below w.heap.size w w'))
    (f0 : (t == [117, 116, 102, 45, 56]) = false) (f1 : (t == [117, 116, 102, 56]) = false) (f2 : (t == [117, 110, 105, 99, 111, 100, 101, 45, 49, 45, 49, 45, 117, 116, 102, 45, 56]) = false) (f3 : (t == [115, 104, 105, 102, 116]) = false) (f4 : (t == [105, 115, 111, 45, 50, 48, 50, 50]) = false) (f5 : (t == [116, 119, 105, 110]) = false) (f6 : (t == [120, 45, 116, 119, 105, 110]) = false) (f7 : (t == [109, 115, 95, 116, 119, 105, 110]) = false) (f8 : (t == [108, 97, 116, 105, 110]) = false) (f9 : (t == [108, 97, 116, 105, 110, 49]) = false) (f10 : (t == [97, 115, 99, 105, 105]) = false) (f11 : (t == [117, 115, 45, 97, 115, 99, 105, 105]) = false) (f12 : (t == [119, 105, 110, 100, 111, 119, 115, 45, 49, 50, 53, 50]) = false) (f13 : (t == [117, 116, 102, 45, 49, 54]) = false) (f14 : (t == [117, 116, 102, 45, 49, 54, 108, 101]) = false) (f15 : (t == [117, 116, 102, 45, 49, 54, 98, 101]) = true) :
    Calls Tryz.prog 32 #[.string s] w fun e w' => e = .returned (.int .i64 6) ∧ Below w.heap.size w w' := by
  go_enter Tryz.func32, Tryz.ntmps32
  go_wp2_with fail
  refine HT.out.mono ?_
  rintro e w1 ⟨rfl, hb1⟩
  go_wp2_with fail
  go_ret
  exact ⟨rfl, hb1⟩
set_option maxHeartbeats 400000 in
theorem find_case16 (s : ByteArray) (t : List UInt8) (w : World) (hd : decide ((40 : Int) < (s.size : Int)) = false)
    (HT : Hid (Calls Tryz.prog 48 #[.string s] w fun e w' => e = .returned (.string ⟨t.toArray⟩) ∧ Below w.heap.size w w'))
    (f0 : (t == [117, 116, 102, 45, 56]) = false) (f1 : (t == [117, 116, 102, 56]) = false) (f2 : (t == [117, 110, 105, 99, 111, 100, 101, 45, 49, 45, 49, 45, 117, 116, 102, 45, 56]) = false) (f3 : (t == [115, 104, 105, 102, 116]) = false) (f4 : (t == [105, 115, 111, 45, 50, 48, 50, 50]) = false) (f5 : (t == [116, 119, 105, 110]) = false) (f6 : (t == [120, 45, 116, 119, 105, 110]) = false) (f7 : (t == [109, 115, 95, 116, 119, 105, 110]) = false) (f8 : (t == [108, 97, 116, 105, 110]) = false) (f9 : (t == [108, 97, 116, 105, 110, 49]) = false) (f10 : (t == [97, 115, 99, 105, 105]) = false) (f11 : (t == [117, 115, 45, 97, 115, 99, 105, 105]) = false) (f12 : (t == [119, 105, 110, 100, 111, 119, 115, 45, 49, 50, 53, 50]) = false) (f13 : (t == [117, 116, 102, 45, 49, 54]) = false) (f14 : (t == [117, 116, 102, 45, 49, 54, 108, 101]) = false) (f15 : (t == [117, 116, 102, 45, 49, 54, 98, 101]) = false) :
    Calls Tryz.prog 32 #[.string s] w fun e w' => e = .returned (.int .i64 0) ∧ Below w.heap.size w w' := by
  go_enter Tryz.func32, Tryz.ntmps32
  go_wp2_with fail
  refine HT.out.mono ?_
  rintro e w1 ⟨rfl, hb1⟩
  go_wp2_with fail
  go_ret
  exact ⟨rfl, hb1⟩

theorem find_any (s : ByteArray) (w : World) (hs : s.size ≤ 1125899906842624) :
    Calls Tryz.prog 32 #[.string s] w fun e w' => e = .returned (.int .i64 (findL s.data.toList)) ∧ Below w.heap.size w w' := by
  by_cases hlen : 40 < s.size
  · have hf : findL s.data.toList = 0 := by unfold findL; rw [if_pos (by simpa using hlen)]
    rw [hf]
    exact find_long s w (by simp; omega)
  · have hf : findL s.data.toList = labelOf (trimL s.data.toList) := by unfold findL; rw [if_neg (by simpa using hlen)]
    rw [hf]
    have hd : decide ((40 : Int) < (s.size : Int)) = false := by simp; omega
    have HT := hid (trim_any s w hs)
    generalize trimL s.data.toList = t at HT ⊢
    cases f0 : (t == [117, 116, 102, 45, 56]) with
    | true =>
      have e : labelOf t = 1 := by unfold labelOf; simp only [f0, if_true]
      rw [e]
      exact find_case0 s t w hd HT f0
    | false =>
    cases f1 : (t == [117, 116, 102, 56]) with
    | true =>
      have e : labelOf t = 1 := by unfold labelOf; simp only [f0, f1, if_true, Bool.false_eq_true, if_false]
      rw [e]
      exact find_case1 s t w hd HT f0 f1
    | false =>
    cases f2 : (t == [117, 110, 105, 99, 111, 100, 101, 45, 49, 45, 49, 45, 117, 116, 102, 45, 56]) with
    | true =>
      have e : labelOf t = 1 := by unfold labelOf; simp only [f0, f1, f2, if_true, Bool.false_eq_true, if_false]
      rw [e]
      exact find_case2 s t w hd HT f0 f1 f2
    | false =>
    cases f3 : (t == [115, 104, 105, 102, 116]) with
    | true =>
      have e : labelOf t = 2 := by unfold labelOf; simp only [f0, f1, f2, f3, if_true, Bool.false_eq_true, if_false]
      rw [e]
      exact find_case3 s t w hd HT f0 f1 f2 f3
    | false =>
    cases f4 : (t == [105, 115, 111, 45, 50, 48, 50, 50]) with
    | true =>
      have e : labelOf t = 2 := by unfold labelOf; simp only [f0, f1, f2, f3, f4, if_true, Bool.false_eq_true, if_false]
      rw [e]
      exact find_case4 s t w hd HT f0 f1 f2 f3 f4
    | false =>
    cases f5 : (t == [116, 119, 105, 110]) with
    | true =>
      have e : labelOf t = 3 := by unfold labelOf; simp only [f0, f1, f2, f3, f4, f5, if_true, Bool.false_eq_true, if_false]
      rw [e]
      exact find_case5 s t w hd HT f0 f1 f2 f3 f4 f5
    | false =>
    cases f6 : (t == [120, 45, 116, 119, 105, 110]) with
    | true =>
      have e : labelOf t = 3 := by unfold labelOf; simp only [f0, f1, f2, f3, f4, f5, f6, if_true, Bool.false_eq_true, if_false]
      rw [e]
      exact find_case6 s t w hd HT f0 f1 f2 f3 f4 f5 f6
    | false =>
    cases f7 : (t == [109, 115, 95, 116, 119, 105, 110]) with
    | true =>
      have e : labelOf t = 3 := by unfold labelOf; simp only [f0, f1, f2, f3, f4, f5, f6, f7, if_true, Bool.false_eq_true, if_false]
      rw [e]
      exact find_case7 s t w hd HT f0 f1 f2 f3 f4 f5 f6 f7
    | false =>
    cases f8 : (t == [108, 97, 116, 105, 110]) with
    | true =>
      have e : labelOf t = 4 := by unfold labelOf; simp only [f0, f1, f2, f3, f4, f5, f6, f7, f8, if_true, Bool.false_eq_true, if_false]
      rw [e]
      exact find_case8 s t w hd HT f0 f1 f2 f3 f4 f5 f6 f7 f8
    | false =>
    cases f9 : (t == [108, 97, 116, 105, 110, 49]) with
    | true =>
      have e : labelOf t = 4 := by unfold labelOf; simp only [f0, f1, f2, f3, f4, f5, f6, f7, f8, f9, if_true, Bool.false_eq_true, if_false]
      rw [e]
      exact find_case9 s t w hd HT f0 f1 f2 f3 f4 f5 f6 f7 f8 f9
    | false =>
    cases f10 : (t == [97, 115, 99, 105, 105]) with
    | true =>
      have e : labelOf t = 4 := by unfold labelOf; simp only [f0, f1, f2, f3, f4, f5, f6, f7, f8, f9, f10, if_true, Bool.false_eq_true, if_false]
      rw [e]
      exact find_case10 s t w hd HT f0 f1 f2 f3 f4 f5 f6 f7 f8 f9 f10
    | false =>
    cases f11 : (t == [117, 115, 45, 97, 115, 99, 105, 105]) with
    | true =>
      have e : labelOf t = 4 := by unfold labelOf; simp only [f0, f1, f2, f3, f4, f5, f6, f7, f8, f9, f10, f11, if_true, Bool.false_eq_true, if_false]
      rw [e]
      exact find_case11 s t w hd HT f0 f1 f2 f3 f4 f5 f6 f7 f8 f9 f10 f11
    | false =>
    cases f12 : (t == [119, 105, 110, 100, 111, 119, 115, 45, 49, 50, 53, 50]) with
    | true =>
      have e : labelOf t = 4 := by unfold labelOf; simp only [f0, f1, f2, f3, f4, f5, f6, f7, f8, f9, f10, f11, f12, if_true, Bool.false_eq_true, if_false]
      rw [e]
      exact find_case12 s t w hd HT f0 f1 f2 f3 f4 f5 f6 f7 f8 f9 f10 f11 f12
    | false =>
    cases f13 : (t == [117, 116, 102, 45, 49, 54]) with
    | true =>
      have e : labelOf t = 5 := by unfold labelOf; simp only [f0, f1, f2, f3, f4, f5, f6, f7, f8, f9, f10, f11, f12, f13, if_true, Bool.false_eq_true, if_false]
      rw [e]
      exact find_case13 s t w hd HT f0 f1 f2 f3 f4 f5 f6 f7 f8 f9 f10 f11 f12 f13
    | false =>
    cases f14 : (t == [117, 116, 102, 45, 49, 54, 108, 101]) with
    | true =>
      have e : labelOf t = 5 := by unfold labelOf; simp only [f0, f1, f2, f3, f4, f5, f6, f7, f8, f9, f10, f11, f12, f13, f14, if_true, Bool.false_eq_true, if_false]
      rw [e]
      exact find_case14 s t w hd HT f0 f1 f2 f3 f4 f5 f6 f7 f8 f9 f10 f11 f12 f13 f14
    | false =>
    cases f15 : (t == [117, 116, 102, 45, 49, 54, 98, 101]) with
    | true =>
      have e : labelOf t = 6 := by unfold labelOf; simp only [f0, f1, f2, f3, f4, f5, f6, f7, f8, f9, f10, f11, f12, f13, f14, f15, if_true, Bool.false_eq_true, if_false]
      rw [e]
      exact find_case15 s t w hd HT f0 f1 f2 f3 f4 f5 f6 f7 f8 f9 f10 f11 f12 f13 f14 f15
    | false =>
    have e : labelOf t = 0 := by unfold labelOf; simp only [f0, f1, f2, f3, f4, f5, f6, f7, f8, f9, f10, f11, f12, f13, f14, f15, Bool.false_eq_true, if_false]
    rw [e]
    exact find_case16 s t w hd HT f0 f1 f2 f3 f4 f5 f6 f7 f8 f9 f10 f11 f12 f13 f14 f15
end Go.Proofs.YtmdnpgcnbpppfaaGreatDoor

/- The walks over label.Name and the two closed checks. -/
namespace Go.Proofs.YtmdnpgcnbpppfaaGreatDoor
open Go.RowKit

/-- The name of an encoding. -/
def nameL (e : Int) : List UInt8 :=
  if e = 1 then [117, 116, 102, 45, 56] else if e = 2 then [115, 104, 105, 102, 116] else if e = 3 then [116, 119, 105, 110] else if e = 4 then [108, 97, 116, 105, 110] else if e = 5 then [117, 116, 102, 45, 49, 54, 108, 101] else if e = 6 then [117, 116, 102, 45, 49, 54, 98, 101] else []

end Go.Proofs.YtmdnpgcnbpppfaaGreatDoor

/- Plain facts on trimming: spaces around a label do not matter. -/
namespace Go.Proofs.YtmdnpgcnbpppfaaGreatDoor

theorem all_u8 (P : UInt8 → Bool) (h : (List.range 256).all (fun n => P (UInt8.ofNat n)) = true) (b : UInt8) : P b = true := by
  have := List.all_eq_true.1 h b.toNat (by simp; exact b.toNat_lt)
  simpa using this
def isSp (b : UInt8) : Bool := spaces.contains b
theorem isSp_low (b : UInt8) : isSp (lowB b) = isSp b := by
  have := all_u8 (fun b => isSp (lowB b) == isSp b) (by decide +kernel) b
  simpa using this
theorem low_low (b : UInt8) : lowB (lowB b) = lowB b := by
  have := all_u8 (fun b => lowB (lowB b) == lowB b) (by decide +kernel) b
  simpa using this
theorem lowL_lowL (l : List UInt8) : lowL (lowL l) = lowL l := by
  unfold lowL; rw [List.map_map]; congr 1; funext b; exact low_low b

def TL (l : List UInt8) : List UInt8 := l.dropWhile isSp
def TR (l : List UInt8) : List UInt8 := (l.reverse.dropWhile isSp).reverse
theorem trimS_eq (l : List UInt8) : Lib.trimS l spaces = TL (TR l) := rfl
theorem drop_low (l : List UInt8) : (lowL l).dropWhile isSp = lowL (l.dropWhile isSp) := by
  unfold lowL
  rw [List.dropWhile_map]
  have : (isSp ∘ lowB) = isSp := by funext b; exact isSp_low b
  rw [this]
theorem TL_low (l : List UInt8) : TL (lowL l) = lowL (TL l) := drop_low l
theorem low_rev (l : List UInt8) : (lowL l).reverse = lowL l.reverse := by unfold lowL; rw [List.map_reverse]
theorem TR_low (l : List UInt8) : TR (lowL l) = lowL (TR l) := by
  unfold TR; rw [low_rev, drop_low, low_rev]
theorem drop_drop (l : List UInt8) : (l.dropWhile isSp).dropWhile isSp = l.dropWhile isSp := by
  induction l with
  | nil => rfl
  | cons a r ih =>
    cases h : isSp a with
    | true => rw [List.dropWhile_cons_of_pos h]; exact ih
    | false => rw [List.dropWhile_cons_of_neg (by simp [h]), List.dropWhile_cons_of_neg (by simp [h])]
theorem drop_prefix (x y z : List UInt8) (h : x = y ++ z) (hx : x.dropWhile isSp = x) : y.dropWhile isSp = y := by
  cases y with
  | nil => rfl
  | cons a r =>
    cases ha : isSp a with
    | false => rw [List.dropWhile_cons_of_neg (by simp [ha])]
    | true =>
      subst h
      rw [List.cons_append, List.dropWhile_cons_of_pos ha] at hx
      have := congrArg List.length hx
      have h2 := dropWhile_le isSp (r ++ z)
      simp at this h2
      omega
theorem trim_trim (l : List UInt8) : TL (TR (TL (TR l))) = TL (TR l) := by
  have h1 : TR (TL (TR l)) = TL (TR l) := by
    have e : l.reverse.dropWhile isSp = (TL (TR l)).reverse ++ ((TR l).takeWhile isSp).reverse := by
      rw [← List.reverse_append]
      unfold TL
      rw [List.takeWhile_append_dropWhile]
      unfold TR; rw [List.reverse_reverse]
    have := drop_prefix _ _ _ e (drop_drop _)
    generalize TL (TR l) = y at this
    unfold TR; rw [this, List.reverse_reverse]
  rw [h1]
  exact drop_drop _
theorem trimL_eq (l : List UInt8) : trimL l = lowL (TL (TR l)) := rfl
theorem trimL_trimL (l : List UInt8) : trimL (trimL l) = trimL l := by
  rw [trimL_eq (trimL l), trimL_eq l, TR_low, TL_low, lowL_lowL, trim_trim]

theorem drop_all (g x : List UInt8) (h : ∀ b ∈ g, isSp b = true) : (g ++ x).dropWhile isSp = x.dropWhile isSp := by
  induction g with
  | nil => rfl
  | cons a r ih =>
    rw [List.cons_append, List.dropWhile_cons_of_pos (h a (by simp))]
    exact ih fun b hb => h b (by simp [hb])
theorem TR_behind (l g : List UInt8) (h : ∀ b ∈ g, isSp b = true) : TR (l ++ g) = TR l := by
  unfold TR; rw [List.reverse_append, drop_all _ _ (fun b hb => h b (by simpa using hb))]
theorem trim_ahead (g l : List UInt8) (h : ∀ b ∈ g, isSp b = true) : TL (TR (g ++ l)) = TL (TR l) := by
  unfold TR
  rw [List.reverse_append, List.dropWhile_append]
  split
  · rename_i he
    have e1 : l.reverse.dropWhile isSp = [] := by simpa using he
    have e2 : g.reverse.dropWhile isSp = [] := by
      have := drop_all g.reverse [] (fun b hb => h b (by simpa using hb))
      rw [List.append_nil] at this; exact this
    rw [e1, e2]
  · rw [List.reverse_append, List.reverse_reverse]
    exact drop_all _ _ h
theorem trimL_gap (g l : List UInt8) (h : ∀ b ∈ g, isSp b = true) : trimL (g ++ l ++ g) = trimL l := by
  rw [trimL_eq, trimL_eq, TR_behind _ _ h, trim_ahead _ _ h]
theorem findL_gap (g l : List UInt8) (h : ∀ b ∈ g, isSp b = true) (hn : l.length + 2 * g.length ≤ 40) : findL (g ++ l ++ g) = findL l := by
  unfold findL
  rw [if_neg (by simp; omega), if_neg (by omega), trimL_gap g l h]
theorem findL_name (e : Int) : findL (nameL e) = if 1 ≤ e ∧ e ≤ 6 then e else 0 := by
  by_cases h : 1 ≤ e ∧ e ≤ 6
  · rw [if_pos h]
    obtain h | h | h | h | h | h : e = 1 ∨ e = 2 ∨ e = 3 ∨ e = 4 ∨ e = 5 ∨ e = 6 := by omega
    all_goals subst h; decide +kernel
  · rw [if_neg h]
    have : nameL e = [] := by unfold nameL; repeat rw [if_neg (by omega)]
    rw [this]; decide +kernel
end Go.Proofs.YtmdnpgcnbpppfaaGreatDoor

/- The walk over the law LabelSame. -/
namespace Go.Proofs.YtmdnpgcnbpppfaaGreatDoor
open Go.RowKit

def GapOk (g : ByteArray) (k : Nat) : Prop := ∀ j (_ : j < k) (h : j < g.size), isSp g[j] = true
theorem sp_of (b : UInt8) (h : ¬ (b.toNat : Int) = 32 → ¬ (b.toNat : Int) = 9 → ¬ (b.toNat : Int) = 10 → ¬ (b.toNat : Int) = 12 → ¬ (b.toNat : Int) = 13 → False) : isSp b = true := by
  have e := all_u8 (fun b => isSp b || !(b.toNat == 32 || b.toNat == 9 || b.toNat == 10 || b.toNat == 12 || b.toNat == 13)) (by decide +kernel) b
  cases hb : isSp b with
  | true => rfl
  | false =>
    simp [hb] at e
    exact (h (by omega) (by omega) (by omega) (by omega) (by omega)).elim
theorem GapOk.next {g : ByteArray} {k : Nat} (h : GapOk g k) (hk : k < g.size) (hs : isSp g[k] = true) : GapOk g (k + 1) := fun j hj hg => by
  by_cases e : j = k
  · subst e; exact hs
  · exact h j (by omega) hg
theorem GapOk.all {g : ByteArray} {k : Nat} (h : GapOk g k) (hk : g.size ≤ k) : ∀ b ∈ g.data.toList, isSp b = true := fun b hb => by
  obtain ⟨j, hj, e⟩ := List.getElem_of_mem hb
  have hj' : j < g.size := by simpa using hj
  have := h j (by omega) hj'
  rw [← e]; exact this

theorem btL {a b c : World} (h : Below a.heap.size a b) (k : Below b.heap.size b c) : Below a.heap.size a c := h.trans (k.mono h.size)
theorem nameL_le (e : Int) : (nameL e).length ≤ 8 := by
  unfold nameL
  repeat (first | (split; decide) | decide)

end Go.Proofs.YtmdnpgcnbpppfaaGreatDoor

/- The walk over the reference's Trimmed. -/
namespace Go.Proofs.YtmdnpgcnbpppfaaGreatDoor
open Go.RowKit

theorem isSp_iff (b : UInt8) : isSp b = (b.toNat == 32 || (decide (9 ≤ b.toNat) && decide (b.toNat ≤ 13) && b.toNat != 11)) := by
  have := all_u8 (fun b => isSp b == (b.toNat == 32 || (decide (9 ≤ b.toNat) && decide (b.toNat ≤ 13) && b.toNat != 11))) (by decide +kernel) b
  simpa using this

set_option maxHeartbeats 400000 in
theorem space_any (b : UInt8) (w : World) : Calls Tryz.prog 50 #[.int .u8 (b.toNat : Int)] w fun e w' => e = .returned (.bool (isSp b)) ∧ w = w' := by
  have hb := isSp_iff b
  have HB := hid hb
  clear hb
  go_enter Tryz.func50, Tryz.ntmps50
  go_wp2
  all_goals go_ret
  all_goals refine ⟨congrArg (fun x => Ending.returned (.bool x)) ?_, rfl⟩
  all_goals (rw [HB.out, Bool.eq_iff_iff]; simp; omega)
theorem takeWhile_sp : ∀ (l : List UInt8) (b : UInt8), b ∈ l.takeWhile isSp → isSp b = true
  | a :: r, b, hb => by
    cases h : isSp a with
    | true =>
      rw [List.takeWhile_cons_of_pos h] at hb
      rcases List.mem_cons.1 hb with rfl | hb
      · exact h
      · exact takeWhile_sp r b hb
    | false => rw [List.takeWhile_cons_of_neg (by simp [h])] at hb; cases hb
theorem TL_TR (l : List UInt8) : TR (TL l) = TL (TR l) := by
  have e : TL (TR l) = TL (TR (TL l)) := by
    have h : l = l.takeWhile isSp ++ TL l := by unfold TL; rw [List.takeWhile_append_dropWhile]
    have h2 := trim_ahead (l.takeWhile isSp) (TL l) (fun b hb => takeWhile_sp _ b hb)
    rw [← h] at h2; exact h2
  rw [e]
  have h : (TL l).reverse.reverse = TR (TL l) ++ ((TL l).reverse.takeWhile isSp).reverse := by
    unfold TR
    rw [← List.reverse_append, List.takeWhile_append_dropWhile]
  rw [List.reverse_reverse] at h
  exact (drop_prefix _ _ _ h (drop_drop _)).symm

def strLenT : Value → Nat | .string t => t.size | _ => 0
theorem size_data (t : ByteArray) : t.data.toList.length = t.size := by simp
theorem cons_data (t : ByteArray) (h : 0 < t.size) : t.data.toList = t[0] :: t.data.toList.drop 1 := by
  have h2 : 0 < t.data.toList.length := by simpa using h
  exact List.drop_eq_getElem_cons h2
theorem TL_tail (t : ByteArray) (h : 0 < t.size) (hs : isSp t[0] = true) : TL (t.extract 1 t.size).data.toList = TL t.data.toList := by
  rw [Lib.extract_data, List.take_of_length_le (by simp)]
  conv => rhs; rw [cons_data t h]
  unfold TL
  rw [List.dropWhile_cons_of_pos hs]
theorem TL_stay (t : ByteArray) (h : ∀ h : 0 < t.size, isSp t[0] = false) : TL t.data.toList = t.data.toList := by
  by_cases h0 : 0 < t.size
  · rw [cons_data t h0]; unfold TL; rw [List.dropWhile_cons_of_neg (by simp [h h0])]
  · have : t.data.toList = [] := List.length_eq_zero_iff.1 (by rw [size_data]; omega)
    rw [this]; rfl
theorem snoc_data (t : ByteArray) (h : 0 < t.size) : t.data.toList = t.data.toList.take (t.size - 1) ++ [t[t.size - 1]] := by
  have h2 : t.size - 1 < t.data.toList.length := by simp; omega
  have := List.take_succ_eq_append_getElem h2
  rw [show t.size - 1 + 1 = t.data.toList.length by rw [size_data]; omega, List.take_length] at this
  exact this
theorem TR_front (t : ByteArray) (h : 0 < t.size) (hs : isSp t[t.size - 1] = true) : TR (t.extract 0 (t.size - 1)).data.toList = TR t.data.toList := by
  rw [Lib.extract_data]
  conv => rhs; rw [snoc_data t h]
  unfold TR
  rw [List.reverse_append]
  simp only [List.drop_zero, Nat.sub_zero, List.reverse_cons, List.reverse_nil, List.nil_append, List.singleton_append]
  rw [List.dropWhile_cons_of_pos hs]
theorem TR_stay (t : ByteArray) (h : ∀ h : 0 < t.size, isSp t[t.size - 1] = false) : TR t.data.toList = t.data.toList := by
  by_cases h0 : 0 < t.size
  · rw [snoc_data t h0]; unfold TR
    rw [List.reverse_append]
    simp only [List.reverse_cons, List.reverse_nil, List.nil_append, List.singleton_append]
    rw [List.dropWhile_cons_of_neg (by simp [h h0])]
    simp
  · have : t.data.toList = [] := List.length_eq_zero_iff.1 (by rw [size_data]; omega)
    rw [this]; rfl
theorem nonempty_of (t : ByteArray) (h : 0 < t.size) : t.toList.isEmpty = false := by
  rw [Lib.toList_data]
  cases h2 : t.data.toList with
  | nil => have := size_data t; rw [h2] at this; simp at this; omega
  | cons _ _ => rfl
theorem empty_of (t : ByteArray) (h : ¬ 0 < t.size) : t.toList.isEmpty = true := by
  rw [Lib.toList_data]
  cases h2 : t.data.toList with
  | nil => rfl
  | cons _ _ => have := size_data t; rw [h2] at this; simp at this; omega

/-- The row that is filled when k of its places are done. -/
structure PutInv (l : List UInt8) (k B : Nat) (w wr : World) : Prop where
  cell : ∀ j, j < l.length → ∃ n : Int, wr.cell? ⟨B, j, none⟩ = some (.int .u8 n) ∧ (j < k → n = ((lowB (l.getD j 0)).toNat : Int))
  free : ∀ j, j < l.length → wr.frozen? ⟨B, j, none⟩ = false
  below : Below B w wr
theorem PutInv.start (l : List UInt8) (n : Nat) (hn : l.length = n) (w : World) : PutInv l 0 w.heap.size w (w.alloc (.cells (madeCells #[.int .u8 0] n) 5)) :=
  ⟨fun j hj => ⟨0, by rw [World.cell?_alloc_at _ _ _ _ rfl]; simp [madeCells]; exact ⟨j, Array.getElem?_eq_some_iff.2 ⟨by simp; omega, by simp⟩, by simp [Nat.mod_one]⟩, fun h => absurd h (by omega)⟩,
   fun j hj => by simp [World.frozen?, World.alloc, -World.alloc_eq],
   (Below.refl _ _).alloc (Nat.le_refl _) _⟩
theorem PutInv.put {l : List UInt8} {k B : Nat} {w wr : World} (h : PutInv l k B w wr) (hk : k < l.length) (n : Int) (hn : n = ((lowB (l.getD k 0)).toNat : Int)) : PutInv l (k + 1) B w (wr.setCell ⟨B, k, none⟩ (.int .u8 n)) :=
  ⟨fun j hj => by
    obtain ⟨m, hm, hmk⟩ := h.cell j hj
    by_cases e : j = k
    · subst e
      exact ⟨n, World.cell?_setCell_same _ _ _ hm, fun _ => hn⟩
    · exact ⟨m, by rw [World.cell?_setCell_other _ _ _ _ (by intro h; cases h; exact e rfl), hm], fun hj' => hmk (by omega)⟩,
   fun j hj => by rw [World.frozen?_setCell]; exact h.free j hj, h.below.setCell (Nat.le_refl _) _⟩
theorem PutInv.any {l : List UInt8} {k B : Nat} {w wr : World} (h : PutInv l k B w wr) (n : Int) : PutInv l k B w (wr.setCell ⟨B, k, none⟩ (.int .u8 n)) :=
  ⟨fun j hj => by
    obtain ⟨m, hm, hmk⟩ := h.cell j hj
    by_cases e : j = k
    · subst e
      exact ⟨n, World.cell?_setCell_same _ _ _ hm, fun h => absurd h (by omega)⟩
    · exact ⟨m, by rw [World.cell?_setCell_other _ _ _ _ (by intro h; cases h; exact e rfl), hm], hmk⟩,
   fun j hj => by rw [World.frozen?_setCell]; exact h.free j hj, h.below.setCell (Nat.le_refl _) _⟩
theorem getD_data (u : ByteArray) (k : Nat) (h : k < u.size) : u.data.toList.getD k 0 = u[k] := by
  have h2 : k < u.data.toList.length := by rw [size_data]; exact h
  rw [List.getD_eq_getElem?_getD, List.getElem?_eq_getElem h2]; rfl
theorem PutInv.back {t : ByteArray} {cap B : Nat} {w wr : World} (h : PutInv t.data.toList t.size B w wr) :
    (convert 57 9 (.slice (some ⟨B, 0, none⟩) t.size cap)).run Tryz.prog wr = .ok (.string ⟨(lowL t.data.toList).toArray⟩) wr := by
  have hl : (lowL t.data.toList).length = t.size := by rw [lowL_length]; simp
  have := run_convert_bytes_back (P := Tryz.prog) wr 57 9 5 ⟨B, 0, none⟩ cap (lowL t.data.toList) Tryz.underlying57 Tryz.underlying5 Tryz.underlying9 (fun j hj => by
    have hj' : j < t.size := by omega
    have e : (⟨B, 0, none⟩ : Addr).add j = ⟨B, j, none⟩ := by simp [Addr.add]; omega
    obtain ⟨n, hn, hnj⟩ := h.cell j (by simpa using hj')
    rw [e, hn, hnj hj']
    simp [lowL, hj'])
  rw [hl] at this
  exact this
theorem info5 : (Tryz.prog.info? 5).map (fun i => (i.zero, i.size, i.bytes)) = some (some (.int .u8 0), 1, 1) := by kernel_rfl

end Go.Proofs.YtmdnpgcnbpppfaaGreatDoor

/- The walk over the reference's Trimmed. -/
namespace Go.Proofs.YtmdnpgcnbpppfaaGreatDoor
open Go.RowKit

set_option maxRecDepth 100000 in
set_option maxHeartbeats 4000000 in
theorem trimmed_any (s : ByteArray) (w : World) (hs : s.size ≤ 140737488355328) :
    Calls Tryz.prog 34 #[.string s] w fun e w' => e = .returned (.string ⟨(trimL s.data.toList).toArray⟩) ∧ Below w.heap.size w w' := by
  go_enter Tryz.func34, Tryz.ntmps34
  go_wp2_with fail
  go_loop [0] (fun v => ∃ t : ByteArray, v = .string t ∧ t.size ≤ s.size ∧ TL t.data.toList = TL s.data.toList) (fun v => strLenT v)
  case atStart => exact ⟨s, rfl, Nat.le_refl _, rfl⟩
  case round =>
    obtain ⟨t, rfl, ht, he⟩ := hrel
    have HE := hid he
    clear he
    by_cases hgo : ∃ h0 : 0 < t.size, isSp t[0] = true
    · obtain ⟨h0, hsp⟩ := hgo
      have hne := nonempty_of t h0
      have hc := space_any t[0]
      rw [hsp] at hc
      have HC := hid hc
      have HS := hid hsp
      clear hc hsp
      go_wp2_with fail
      refine (HC.out _).mono ?_
      rintro e _ ⟨rfl, rfl⟩
      go_wp2_with fail
      go_round
      case rel => exact ⟨_, rfl, by simp; omega, (TL_tail t h0 HS.out).trans HE.out⟩
      case measure => simp [strLenT]; omega
    · have hst := TL_stay t (fun h0 => by cases h : isSp t[0] with
        | true => exact absurd ⟨h0, h⟩ hgo
        | false => rfl)
      have HT : Hid (trimL s.data.toList = lowL (TR t.data.toList)) := by
        show _ = _
        rw [trimL_eq, ← TL_TR, ← HE.out, hst]
      clear HE hst
      by_cases h0 : 0 < t.size
      focus
        have hne := nonempty_of t h0
        have hc := space_any t[0]
        have hsp : isSp t[0] = false := by
          cases h : isSp t[0] with
          | true => exact absurd ⟨h0, h⟩ hgo
          | false => rfl
        rw [hsp] at hc
        have HC := hid hc
        clear hc hsp hgo
        go_wp2_with fail
        refine (HC.out _).mono ?_
        rintro e _ ⟨rfl, rfl⟩
        clear hne HC
        go_wp2_with fail
      rotate_left
      focus
        have hne := empty_of t h0
        clear hgo
        go_wp2_with fail
        clear hne
      all_goals
        go_loop [0] (fun v => ∃ u : ByteArray, v = .string u ∧ u.size ≤ s.size ∧ TR u.data.toList = TR t.data.toList) (fun v => strLenT v)
        case atStart => exact ⟨t, rfl, ht, rfl⟩
        case round =>
          obtain ⟨u, rfl, hu, he⟩ := hrel
          have HE := hid he
          clear he
          by_cases hgo : ∃ h0 : 0 < u.size, isSp u[u.size - 1] = true
          · obtain ⟨h0, hsp⟩ := hgo
            have hne := nonempty_of u h0
            have hc := space_any u[u.size - 1]
            rw [hsp] at hc
            have HC := hid hc
            have HS := hid hsp
            clear hc hsp
            go_wp2_with fail
            refine (HC.out _).mono ?_
            rintro e _ ⟨rfl, rfl⟩
            go_wp2_with fail
            go_round
            case rel => exact ⟨_, rfl, by simp; omega, (TR_front u h0 HS.out).trans HE.out⟩
            case measure => simp [strLenT]; omega
          · have hst := TR_stay u (fun h0 => by cases h : isSp u[u.size - 1] with
              | true => exact absurd ⟨h0, h⟩ hgo
              | false => rfl)
            have HT2 : Hid (trimL s.data.toList = lowL u.data.toList) := by
              show _ = _
              rw [HT.out, ← HE.out, hst]
            have hmk := run_make_row' (P := Tryz.prog) 57 5 (.int .u8 0) 1 Tryz.underlying57 info5 rfl .i64 .i64 u.size (by omega) (by omega)
            have HM := hid hmk
            clear HE hst HT hmk
            by_cases h0 : 0 < u.size
            focus
              have hne := nonempty_of u h0
              have hc := space_any u[u.size - 1]
              have hsp : isSp u[u.size - 1] = false := by
                cases h : isSp u[u.size - 1] with
                | true => exact absurd ⟨h0, h⟩ hgo
                | false => rfl
              rw [hsp] at hc
              have HC := hid hc
              clear hc hsp hgo
              go_wp2_with fail
              refine (HC.out _).mono ?_
              rintro e _ ⟨rfl, rfl⟩
              clear hne HC
              have hmk := HM.out
              go_wp2_with fail
            rotate_left
            focus
              have hne := empty_of u h0
              clear hgo
              have hmk := HM.out
              go_wp2_with fail
              clear hne
            all_goals
              clear HM hmk h0
              have hst := PutInv.start u.data.toList u.size (size_data u) w
              have HL := hid (size_data u)
              go_loopw [37] (fun i wr => ∃ k : Nat, k ≤ u.size ∧ i = .int .i64 k ∧ PutInv u.data.toList k w.heap.size w wr) (fun i _ => u.size - (intOf i).toNat)
              case atStart => exact ⟨0, Nat.zero_le _, rfl, hst⟩
              case round =>
                clear hst
                obtain ⟨k, hk, rfl, hinv⟩ := hrel
                by_cases hlt : k < u.size
                · obtain ⟨n0, hc, _⟩ := hinv.cell k (by rw [HL.out]; exact hlt)
                  have hf := hinv.free k (by rw [HL.out]; exact hlt)
                  have HX := hid (getD_data u k hlt)
                  by_cases hyes : 65 ≤ u[k].toNat ∧ u[k].toNat ≤ 90
                  · obtain ⟨h1, h2⟩ := hyes
                    have hb : (u[k].toNat : Int) + 32 = ((lowB (u.data.toList.getD k 0)).toNat : Int) := by
                      rw [HX.out, lowB_yes _ ⟨h1, h2⟩]; omega
                    have HP := hid ((hinv.any (u[k].toNat : Int)).put (by rw [HL.out]; exact hlt) _ hb)
                    clear hb
                    go_wp2_with fail
                    go_roundw
                    case rel => exact ⟨k + 1, by omega, by go_num, HP.out⟩
                    case measure => simp [intOf]; omega
                  · have hb : (u[k].toNat : Int) = ((lowB (u.data.toList.getD k 0)).toNat : Int) := by
                      rw [HX.out, lowB_no _ hyes]
                    have HP := hid (hinv.put (by rw [HL.out]; exact hlt) _ hb)
                    clear hb
                    go_wp2_with fail
                    all_goals
                      go_roundw
                      case rel => exact ⟨k + 1, by omega, by go_num, HP.out⟩
                      case measure => simp [intOf]; omega
                · have hk' : k = u.size := by omega
                  subst hk'
                  have hback := fun cap => hinv.back (cap := cap)
                  go_wp2_with fail
                  go_ret
                  exact ⟨by rw [HT2.out]; rfl, hinv.below⟩
end Go.Proofs.YtmdnpgcnbpppfaaGreatDoor

/- The library's contract of strings.Split at this program: each fact by the kernel. -/
namespace Go.Proofs.YtmdnpgcnbpppfaaGreatDoor
open Go.Shelf
def lays146_ren : Go.Shelf.Ren := ⟨fun | 146 => 33 | 221 => 49 | 268 => 73 | 138 => 74 | 143 => 75 | 195 => 105 | 197 => 106 | 218 => 107 | 219 => 108 | 260 => 133 | 217 => 59 | 225 => 134 | 224 => 135 | 267 => 136 | 266 => 90 | 314 => 149 | n => n, fun | 9 => 9 | 31 => 63 | 3 => 3 | 4 => 4 | 0 => 0 | 105 => 119 | 21 => 21 | 5 => 5 | 46 => 101 | 119 => 133 | 139 => 136 | 138 => 135 | 146 => 138 | 51 => 137 | n => n, fun | 1 => 2 | 3 => 3 | 4 => 4 | n => n⟩
theorem lays146 : Go.Proofs.LaysM.n146 Tryz.prog lays146_ren := {
  mixed := by kernel_rfl
  f138 := Tryz.func74.trans (congrArg some (by kernel_rfl))
  f143 := Tryz.func75.trans (congrArg some (by kernel_rfl))
  f146 := Tryz.func33.trans (congrArg some (by kernel_rfl))
  f195 := Tryz.func105.trans (congrArg some (by kernel_rfl))
  f197 := Tryz.func106.trans (congrArg some (by kernel_rfl))
  f217 := Tryz.func59.trans (congrArg some (by kernel_rfl))
  f218 := Tryz.func107.trans (congrArg some (by kernel_rfl))
  f219 := Tryz.func108.trans (congrArg some (by kernel_rfl))
  f221 := Tryz.func49.trans (congrArg some (by kernel_rfl))
  f224 := Tryz.func135.trans (congrArg some (by kernel_rfl))
  f225 := Tryz.func134.trans (congrArg some (by kernel_rfl))
  f260 := Tryz.func133.trans (congrArg some (by kernel_rfl))
  f266 := Tryz.func90.trans (congrArg some (by kernel_rfl))
  f267 := Tryz.func136.trans (congrArg some (by kernel_rfl))
  f268 := Tryz.func73.trans (congrArg some (by kernel_rfl))
  f314 := Tryz.func149.trans (congrArg some (by kernel_rfl))
  t0 := Tryz.underlying0
  a0 := Tryz.isAgg0
  z0 := Tryz.sizeOf0
  v0 := Tryz.zeroValue0
  t3 := Tryz.underlying3
  a3 := Tryz.isAgg3
  z3 := Tryz.sizeOf3
  v3 := Tryz.zeroValue3
  t4 := Tryz.underlying4
  a4 := Tryz.isAgg4
  z4 := Tryz.sizeOf4
  v4 := Tryz.zeroValue4
  t5 := Tryz.underlying5
  a5 := Tryz.isAgg5
  z5 := Tryz.sizeOf5
  v5 := Tryz.zeroValue5
  t9 := Tryz.underlying9
  a9 := Tryz.isAgg9
  z9 := Tryz.sizeOf9
  v9 := Tryz.zeroValue9
  t21 := Tryz.underlying21
  a21 := Tryz.isAgg21
  z21 := Tryz.sizeOf21
  v21 := Tryz.zeroValue21
  t31 := Tryz.underlying63
  a31 := Tryz.isAgg63
  z31 := Tryz.sizeOf63
  v31 := Tryz.zeroValue63
  t46 := Tryz.underlying101
  a46 := Tryz.isAgg101
  z46 := Tryz.sizeOf101
  v46 := Tryz.zeroValue101
  t51 := Tryz.underlying137
  a51 := Tryz.isAgg137
  z51 := Tryz.sizeOf137
  v51 := Tryz.zeroValue137
  t105 := Tryz.underlying119
  a105 := Tryz.isAgg119
  z105 := Tryz.sizeOf119
  v105 := Tryz.zeroValue119
  t119 := Tryz.underlying133
  a119 := Tryz.isAgg133
  z119 := Tryz.sizeOf133
  t138 := Tryz.underlying135
  a138 := Tryz.isAgg135
  z138 := Tryz.sizeOf135
  v138 := Tryz.zeroValue135
  t139 := Tryz.underlying136
  a139 := Tryz.isAgg136
  z139 := Tryz.sizeOf136
  v139 := Tryz.zeroValue136
  t146 := Tryz.underlying138
  a146 := Tryz.isAgg138
  z146 := Tryz.sizeOf138
  v146 := Tryz.zeroValue138
  g1 := by kernel_rfl
  g3 := by kernel_rfl
  g4 := by kernel_rfl
  i0 := by kernel_rfl
  i3 := by kernel_rfl
  i4 := by kernel_rfl
  i5 := by kernel_rfl
  i9 := by kernel_rfl
  i21 := by kernel_rfl
  i31 := by kernel_rfl
  i46 := by kernel_rfl
  i51 := by kernel_rfl
  i105 := by kernel_rfl
  i138 := by kernel_rfl
  i139 := by kernel_rfl
  i146 := by kernel_rfl
  m1 := by kernel_rfl
  s1_3 := fun w h => Go.Proofs.cell_of_shapedOpen_int (zero := #[.int .i64 0]) (t := 3) h (of_decide_eq_true (by kernel_rfl)) (by kernel_rfl) rfl (by kernel_rfl) (by kernel_rfl) Tryz.underlying3
  m3 := by kernel_rfl
  m4 := by kernel_rfl }
end Go.Proofs.YtmdnpgcnbpppfaaGreatDoor

/- The walks over the reference's NameOf and FindLabel. -/
namespace Go.Proofs.YtmdnpgcnbpppfaaGreatDoor
open Go.RowKit

/-- The reference's rows of labels, and the labels in each. -/
def grp (k : Nat) : ByteArray := [(⟨#[117, 116, 102, 45, 56, 32, 117, 116, 102, 56, 32, 117, 110, 105, 99, 111, 100, 101, 45, 49, 45, 49, 45, 117, 116, 102, 45, 56]⟩ : ByteArray), (⟨#[115, 104, 105, 102, 116, 32, 105, 115, 111, 45, 50, 48, 50, 50]⟩ : ByteArray), (⟨#[116, 119, 105, 110, 32, 120, 45, 116, 119, 105, 110, 32, 109, 115, 95, 116, 119, 105, 110]⟩ : ByteArray), (⟨#[108, 97, 116, 105, 110, 32, 108, 97, 116, 105, 110, 49, 32, 97, 115, 99, 105, 105, 32, 117, 115, 45, 97, 115, 99, 105, 105, 32, 119, 105, 110, 100, 111, 119, 115, 45, 49, 50, 53, 50]⟩ : ByteArray), (⟨#[117, 116, 102, 45, 49, 54, 32, 117, 116, 102, 45, 49, 54, 108, 101]⟩ : ByteArray), (⟨#[117, 116, 102, 45, 49, 54, 98, 101]⟩ : ByteArray)].getD k ⟨#[]⟩
def words (k : Nat) : List ByteArray := [[(⟨#[117, 116, 102, 45, 56]⟩ : ByteArray), (⟨#[117, 116, 102, 56]⟩ : ByteArray), (⟨#[117, 110, 105, 99, 111, 100, 101, 45, 49, 45, 49, 45, 117, 116, 102, 45, 56]⟩ : ByteArray)], [(⟨#[115, 104, 105, 102, 116]⟩ : ByteArray), (⟨#[105, 115, 111, 45, 50, 48, 50, 50]⟩ : ByteArray)], [(⟨#[116, 119, 105, 110]⟩ : ByteArray), (⟨#[120, 45, 116, 119, 105, 110]⟩ : ByteArray), (⟨#[109, 115, 95, 116, 119, 105, 110]⟩ : ByteArray)], [(⟨#[108, 97, 116, 105, 110]⟩ : ByteArray), (⟨#[108, 97, 116, 105, 110, 49]⟩ : ByteArray), (⟨#[97, 115, 99, 105, 105]⟩ : ByteArray), (⟨#[117, 115, 45, 97, 115, 99, 105, 105]⟩ : ByteArray), (⟨#[119, 105, 110, 100, 111, 119, 115, 45, 49, 50, 53, 50]⟩ : ByteArray)], [(⟨#[117, 116, 102, 45, 49, 54]⟩ : ByteArray), (⟨#[117, 116, 102, 45, 49, 54, 108, 101]⟩ : ByteArray)], [(⟨#[117, 116, 102, 45, 49, 54, 98, 101]⟩ : ByteArray)]].getD k []
theorem split0 : Lib.splitB ⟨#[32]⟩ 0 (Lib.countB (grp 0) ⟨#[32]⟩) (grp 0) = words 0 := by kernel_rfl
theorem count0 : Lib.countB (grp 0) ⟨#[32]⟩ + 1 = (words 0).length := by kernel_rfl
theorem split1 : Lib.splitB ⟨#[32]⟩ 0 (Lib.countB (grp 1) ⟨#[32]⟩) (grp 1) = words 1 := by kernel_rfl
theorem count1 : Lib.countB (grp 1) ⟨#[32]⟩ + 1 = (words 1).length := by kernel_rfl
theorem split2 : Lib.splitB ⟨#[32]⟩ 0 (Lib.countB (grp 2) ⟨#[32]⟩) (grp 2) = words 2 := by kernel_rfl
theorem count2 : Lib.countB (grp 2) ⟨#[32]⟩ + 1 = (words 2).length := by kernel_rfl
theorem split3 : Lib.splitB ⟨#[32]⟩ 0 (Lib.countB (grp 3) ⟨#[32]⟩) (grp 3) = words 3 := by kernel_rfl
theorem count3 : Lib.countB (grp 3) ⟨#[32]⟩ + 1 = (words 3).length := by kernel_rfl
theorem split4 : Lib.splitB ⟨#[32]⟩ 0 (Lib.countB (grp 4) ⟨#[32]⟩) (grp 4) = words 4 := by kernel_rfl
theorem count4 : Lib.countB (grp 4) ⟨#[32]⟩ + 1 = (words 4).length := by kernel_rfl
theorem split5 : Lib.splitB ⟨#[32]⟩ 0 (Lib.countB (grp 5) ⟨#[32]⟩) (grp 5) = words 5 := by kernel_rfl
theorem count5 : Lib.countB (grp 5) ⟨#[32]⟩ + 1 = (words 5).length := by kernel_rfl

theorem split_at (k : Nat) (hk : k < 6) (m : Int) (w : World) (hm : w.cell? ⟨2, 0, none⟩ = some (.int .i64 m)) :
    Calls Tryz.prog 33 #[.string (grp k), .string ⟨#[32]⟩] w fun e w' =>
      e = .returned (.slice (some ⟨w.heap.size, 0, none⟩) (words k).length (words k).length) ∧ w' = w.alloc (.cells ((words k).map Value.string).toArray 9) := by
  have h := Any.strings_Split (P := Tryz.prog) (ρ := lays146_ren) { lays146 with } lays146.i9 (grp k) ⟨#[32]⟩ m w
  obtain rfl | rfl | rfl | rfl | rfl | rfl : k = 0 ∨ k = 1 ∨ k = 2 ∨ k = 3 ∨ k = 4 ∨ k = 5 := by omega
  · rw [split0, count0] at h; exact h (by decide) hm (by decide)
  · rw [split1, count1] at h; exact h (by decide) hm (by decide)
  · rw [split2, count2] at h; exact h (by decide) hm (by decide)
  · rw [split3, count3] at h; exact h (by decide) hm (by decide)
  · rw [split4, count4] at h; exact h (by decide) hm (by decide)
  · rw [split5, count5] at h; exact h (by decide) hm (by decide)

theorem hit (k : Nat) (hk : k < 6) (q : Nat) (hq : q < (words k).length) : labelOf (words k)[q].data.toList = (k : Int) + 1 := by
  have h : (List.range 6).all (fun k => (List.range (words k).length).all fun q => labelOf ((words k).getD q ⟨#[]⟩).data.toList == (k : Int) + 1) = true := by decide +kernel
  have h2 := List.all_eq_true.1 (List.all_eq_true.1 h k (by simpa using hk)) q (by simpa using hq)
  have e : (words k).getD q ⟨#[]⟩ = (words k)[q] := by rw [List.getD_eq_getElem?_getD, List.getElem?_eq_getElem hq]; rfl
  rw [e] at h2
  simpa using h2
theorem miss (t : List UInt8) (h : ∀ k, k < 6 → ∀ q (hq : q < (words k).length), (words k)[q].data.toList ≠ t) : labelOf t = 0 := by
  have m : ∀ k, k < 6 → ∀ q, q < (words k).length → (t == ((words k).getD q ⟨#[]⟩).data.toList) = false := fun k hk q hq => by
    have e : (words k).getD q ⟨#[]⟩ = (words k)[q] := by rw [List.getD_eq_getElem?_getD, List.getElem?_eq_getElem hq]; rfl
    rw [e]
    exact beq_eq_false_iff_ne.2 fun h' => h k hk q hq h'.symm
  have f0 : (t == [117, 116, 102, 45, 56]) = false := m 0 (by decide) 0 (by decide)
  have f1 : (t == [117, 116, 102, 56]) = false := m 0 (by decide) 1 (by decide)
  have f2 : (t == [117, 110, 105, 99, 111, 100, 101, 45, 49, 45, 49, 45, 117, 116, 102, 45, 56]) = false := m 0 (by decide) 2 (by decide)
  have f3 : (t == [115, 104, 105, 102, 116]) = false := m 1 (by decide) 0 (by decide)
  have f4 : (t == [105, 115, 111, 45, 50, 48, 50, 50]) = false := m 1 (by decide) 1 (by decide)
  have f5 : (t == [116, 119, 105, 110]) = false := m 2 (by decide) 0 (by decide)
  have f6 : (t == [120, 45, 116, 119, 105, 110]) = false := m 2 (by decide) 1 (by decide)
  have f7 : (t == [109, 115, 95, 116, 119, 105, 110]) = false := m 2 (by decide) 2 (by decide)
  have f8 : (t == [108, 97, 116, 105, 110]) = false := m 3 (by decide) 0 (by decide)
  have f9 : (t == [108, 97, 116, 105, 110, 49]) = false := m 3 (by decide) 1 (by decide)
  have f10 : (t == [97, 115, 99, 105, 105]) = false := m 3 (by decide) 2 (by decide)
  have f11 : (t == [117, 115, 45, 97, 115, 99, 105, 105]) = false := m 3 (by decide) 3 (by decide)
  have f12 : (t == [119, 105, 110, 100, 111, 119, 115, 45, 49, 50, 53, 50]) = false := m 3 (by decide) 4 (by decide)
  have f13 : (t == [117, 116, 102, 45, 49, 54]) = false := m 4 (by decide) 0 (by decide)
  have f14 : (t == [117, 116, 102, 45, 49, 54, 108, 101]) = false := m 4 (by decide) 1 (by decide)
  have f15 : (t == [117, 116, 102, 45, 49, 54, 98, 101]) = false := m 5 (by decide) 0 (by decide)
  unfold labelOf; simp only [f0, f1, f2, f3, f4, f5, f6, f7, f8, f9, f10, f11, f12, f13, f14, f15, Bool.false_eq_true, if_false]

theorem words_le (k : Nat) : (words k).length ≤ 5 := by
  rcases Nat.lt_or_ge k 6 with h | h
  · have hh : (List.range 6).all (fun k => decide ((words k).length ≤ 5)) = true := by decide +kernel
    have := List.all_eq_true.1 hh k (by simpa using h)
    simpa using this
  · have : words k = [] := by
      unfold words
      rw [List.getD_eq_getElem?_getD, List.getElem?_eq_none (by simpa using h)]; rfl
    rw [this]; decide
/-- Before the reference's row k: the rows lie in block B, and no label of an earlier row is t. -/
structure FInv (t : List UInt8) (k B : Nat) (w wr : World) : Prop where
  cell : ∀ j, j < 6 → wr.cell? ⟨B, j, none⟩ = some (.string (grp j))
  miss : ∀ j, j < k → ∀ q (hq : q < (words j).length), (words j)[q].data.toList ≠ t
  below : Below B w wr
  size : B < wr.heap.size
/-- Before label q of row k, whose labels lie in block B. -/
structure GInv (t : List UInt8) (k q B : Nat) (w wr : World) : Prop where
  cell : ∀ j (hj : j < (words k).length), wr.cell? ⟨B, j, none⟩ = some (.string (words k)[j])
  miss : ∀ j (hj : j < (words k).length), j < q → (words k)[j].data.toList ≠ t
  below : Below B w wr
  size : B < wr.heap.size
theorem GInv.start (t : List UInt8) (k : Nat) (w : World) : GInv t k 0 w.heap.size w (w.alloc (.cells ((words k).map Value.string).toArray 9)) :=
  ⟨fun j hj => by rw [World.cell?_alloc_at _ _ _ _ rfl]; simp [hj], fun _ _ h => absurd h (by omega), (Below.refl _ _).alloc (Nat.le_refl _) _, by simp⟩
theorem GInv.next {t : List UInt8} {k q B : Nat} {w wr w2 : World} (h : GInv t k q B w wr) (hq : q < (words k).length) (hx : (words k)[q].data.toList ≠ t) (hb : Below wr.heap.size wr w2) : GInv t k (q + 1) B w w2 :=
  ⟨fun j hj => by rw [hb.cell h.size]; exact h.cell j hj,
   fun j hj hjq => by
    by_cases e : j = q
    · subst e; exact hx
    · exact h.miss j hj (by omega),
   h.below.trans (hb.mono (Nat.le_of_lt h.size)), Nat.lt_of_lt_of_le h.size hb.size⟩
theorem FInv.next {t : List UInt8} {k B : Nat} {w wr w2 : World} (h : FInv t k B w wr) (g : GInv t k (words k).length wr.heap.size wr w2) : FInv t (k + 1) B w w2 :=
  ⟨fun j hj => by rw [g.below.cell h.size]; exact h.cell j hj,
   fun j hjk q hq => by
    by_cases e : j = k
    · subst e; exact g.miss q hq hq
    · exact h.miss j (by omega) q hq,
   h.below.trans (g.below.mono (Nat.le_of_lt h.size)), Nat.lt_of_lt_of_le h.size g.below.size⟩

set_option maxRecDepth 100000 in
set_option maxHeartbeats 2000000 in
theorem findRef_any (s : ByteArray) (w : World) (m : Int) (hs : s.size ≤ 140737488355328) (hm : w.cell? ⟨2, 0, none⟩ = some (.int .i64 m)) :
    Calls Tryz.prog 17 #[.string s] w fun e w' => e = .returned (.int .i64 (findL s.data.toList)) ∧ Below w.heap.size w w' := by
  by_cases hlen : 40 < s.size
  · have hf : findL s.data.toList = 0 := by unfold findL; rw [if_pos (by simpa using hlen)]
    rw [hf]
    have hd : decide ((40 : Int) < (s.size : Int)) = true := by simp; omega
    go_enter Tryz.func17, Tryz.ntmps17
    go_wp2_with fail
    go_ret
    exact ⟨rfl, Below.refl _ _⟩
  · have hf : findL s.data.toList = labelOf (trimL s.data.toList) := by unfold findL; rw [if_neg (by simpa using hlen)]
    rw [hf]
    have HT := hid (fun w1 => trimmed_any s w1 (by omega))
    clear hf
    generalize trimL s.data.toList = t at HT ⊢
    have h2 : 2 < w.heap.size := by
      rcases Nat.lt_or_ge 2 w.heap.size with h | h
      · exact h
      · simp [World.cell?, Array.getElem?_eq_none h] at hm
    have hd : decide ((40 : Int) < (s.size : Int)) = false := by simp; omega
    have HM := hid hm
    clear hm
    go_enter Tryz.func17, Tryz.ntmps17
    go_wp2_with fail
    go_loopw [12] (fun i wr => ∃ k : Nat, k ≤ 6 ∧ i = .int .i64 k ∧ FInv t k w.heap.size w wr) (fun i _ => 6 - (intOf i).toNat)
    case atStart =>
      refine ⟨0, Nat.zero_le _, rfl, ⟨fun j hj => ?_, fun j hj => absurd hj (by omega), (Below.refl _ _).alloc (Nat.le_refl _) _, by simp⟩⟩
      obtain rfl | rfl | rfl | rfl | rfl | rfl : j = 0 ∨ j = 1 ∨ j = 2 ∨ j = 3 ∨ j = 4 ∨ j = 5 := by omega
      all_goals (rw [World.cell?_alloc_at _ _ _ _ rfl]; rfl)
    case round =>
      obtain ⟨k, hk, rfl, hinv⟩ := hrel
      by_cases hlt : k < 6
      · have hc := hinv.cell k hlt
        have HS := hid (split_at k hlt m wr (by rw [hinv.below.cell (p := ⟨2, 0, none⟩) h2]; exact HM.out))
        go_wp2_with fail
        refine HS.out.mono ?_
        rintro e _ ⟨rfl, rfl⟩
        clear hc HS
        go_wp2_with fail
        have hg := GInv.start t k wr
        go_loopw [20] (fun j w2 => ∃ q : Nat, q ≤ (words k).length ∧ j = .int .i64 q ∧ GInv t k q wr.heap.size wr w2) (fun j _ => (words k).length - (intOf j).toNat)
        case atStart => exact ⟨0, Nat.zero_le _, rfl, hg⟩
        case round =>
          clear hg
          obtain ⟨q, hq, rfl, hg⟩ := hrel
          have hw5 := words_le k
          by_cases hql : q < (words k).length
          · have hc := hg.cell q hql
            have HH := hid (hit k hlt q hql)
            have HN := hid (fun h w2 hb => hg.next (w2 := w2) hql h hb)
            obtain ⟨x, hx⟩ : ∃ x, x = (words k)[q] := ⟨_, rfl⟩
            rw [← hx] at hc HH HN
            clear hx
            cases heq : (x.toList == t) with
            | true =>
              have HL : Hid (labelOf t = (k : Int) + 1) := by
                have e : x.toList = t := by simpa using heq
                show _ = _
                rw [← e, Lib.toList_data, HH.out]
              go_wp2_with fail
              refine (HT.out _).mono ?_
              rintro e w3 ⟨rfl, hb3⟩
              go_wp2_with fail
              go_ret
              refine ⟨by rw [HL.out]; rfl, ?_⟩
              exact hinv.below.trans ((hg.below.mono (Nat.le_of_lt hinv.size)).trans (hb3.mono (Nat.le_trans (Nat.le_of_lt hinv.size) hg.below.size)))
            | false =>
              have HX : Hid (x.data.toList ≠ t) := by
                rw [Lib.toList_data] at heq
                exact beq_eq_false_iff_ne.1 heq
              go_wp2_with fail
              refine (HT.out _).mono ?_
              rintro e w3 ⟨rfl, hb3⟩
              have HG := hid (HN.out HX.out w3 hb3)
              clear HN
              go_wp2_with fail
              go_roundw
              case rel => exact ⟨q + 1, by omega, by go_num, HG.out⟩
              case measure => simp [intOf]; omega
          · have hqe : q = (words k).length := by omega
            subst hqe
            have HF := hid (hinv.next hg)
            go_wp2_with fail
            go_roundw
            case rel => exact ⟨k + 1, by omega, by go_num, HF.out⟩
            case measure => simp [intOf]; omega
      · have hk' : k = 6 := by omega
        subst hk'
        have E0 := hid (miss t hinv.miss)
        go_wp2_with fail
        go_ret
        refine ⟨?_, hinv.below⟩
        rw [E0.out]; rfl
end Go.Proofs.YtmdnpgcnbpppfaaGreatDoor
