/- The walk over the law DecodeBack. -/
import Derived.Test.YtloaemijhggheaaLaw
import Derived.Test.YtloaemijhggheaaPure2
namespace Go.Proofs.Ytloaemijhggheaa
open Go.RowKit
attribute [local go_sem ↓] run_eqS run_neS
attribute [local go_sem] byte_at0 byte_at20 byte_at21 w64 S.v and63 and31 and15 and7 kw kw256

theorem conv2 (w : World) (x y : UInt8) : (convert 42 9 (.slice (some ⟨w.heap.size, 0, none⟩) 2 2)).run Try.prog (w.alloc (.cells #[.int .u8 (x.toNat : Int), .int .u8 (y.toNat : Int)] 5)) = .ok (.string ⟨#[x, y]⟩) (w.alloc (.cells #[.int .u8 (x.toNat : Int), .int .u8 (y.toNat : Int)] 5)) :=
  run_convert_bytes_back (P := Try.prog) (w.alloc (.cells #[.int .u8 (x.toNat : Int), .int .u8 (y.toNat : Int)] 5)) 42 9 5 ⟨w.heap.size, 0, none⟩ 2 [x, y] Try.underlying42 Try.underlying5 Try.underlying9 (fun j hj => by
    obtain rfl | rfl : j = 0 ∨ j = 1 := by simp at hj; omega
    all_goals simp [go_sem, Addr.add])
theorem catE (x y : UInt8) : (⟨#[]⟩ : ByteArray) ++ ⟨#[x, y]⟩ = ⟨#[x, y]⟩ := rfl
theorem cat4 (x y z t : UInt8) : (⟨#[x, y]⟩ : ByteArray) ++ ⟨#[z, t]⟩ = ⟨#[x, y, z, t]⟩ := rfl
attribute [local go_sem] conv2 catE cat4

set_option maxHeartbeats 400000 in
theorem coded_any (n : Int) (w : World) (h0 : 0 ≤ n) (h1 : n ≤ 1114111) : Calls Try.prog 26 #[.int .i64 n] w fun e w' => e = .returned (.string (Utf8.encode n)) ∧ w = w' := by
  go_enter Try.func26, Try.ntmps26
  go_wp2_with fail
  go_ret
  exact ⟨rfl, rfl⟩
set_option maxRecDepth 100000 in
set_option maxHeartbeats 400000 in
theorem back_none (n : Int) (low : Bool) (w : World) (h : n < 0 ∨ 1114111 < n ∨ (55296 ≤ n ∧ n ≤ 57343)) : Calls Try.prog 7 #[.int .i64 n, .bool low] w fun r w' => r = .returned (.bool true) ∧ Below w.heap.size w w' := by
  rcases h with h | h | ⟨h, h'⟩
  all_goals
    go_enter Try.func7, Try.ntmps7
    go_wp2_with fail
    refine (decodes_keep _).mono ?_
    rintro r w1 ⟨rfl, hb⟩
    go_wp2_with fail
    go_ret
    exact ⟨rfl, hb⟩
/-- The bytes so far, of one unit. -/
def BackR1 (X : World) (p : ByteArray) (s8 i : Value) (wr : World) : Prop :=
  ((i = .int .i64 0 ∧ s8 = .string ⟨#[]⟩) ∨ (i = .int .i64 1 ∧ s8 = .string p)) ∧ Below X.heap.size X wr
def BackR2 (X : World) (p q : ByteArray) (s8 i : Value) (wr : World) : Prop :=
  ((i = .int .i64 0 ∧ s8 = .string ⟨#[]⟩) ∨ (i = .int .i64 1 ∧ s8 = .string p) ∨ (i = .int .i64 2 ∧ s8 = .string q)) ∧ Below X.heap.size X wr
set_option maxRecDepth 100000 in
set_option maxHeartbeats 2000000 in
theorem back_one_true (n : Int) (x y : UInt8) (w : World) (h0 : 0 ≤ n) (h1 : n ≤ 65535) (h2 : n < 55296 ∨ 57343 < n) (hx : n % 256 = (x.toNat : Int)) (hy : n / 256 = (y.toNat : Int))
    (H1 : Hid (∀ w1, Calls Try.prog 14 #[.int .i64 1, .string (Utf8.encode n)] w1 (POE w1 [n] 0))) (H2 : Hid (∀ w1, Calls Try.prog 14 #[.int .i64 5, .string ⟨#[x, y]⟩] w1 (POE w1 [n] 0))) :
    Calls Try.prog 7 #[.int .i64 n, .bool true] w fun r w' => r = .returned (.bool true) ∧ Below w.heap.size w w' := by
  have HC := hid (fun w1 => coded_any n w1 h0 (by omega))
  generalize Utf8.encode n = en at *
  obtain h3 | ⟨h3, h4⟩ : n < 55296 ∨ (55296 ≤ n ∧ ¬ n ≤ 57343) := by omega
  all_goals
    clear h2
    go_enter Try.func7, Try.ntmps7
    go_wp2_with fail
    refine (HC.out _).mono ?_
    rintro r w' ⟨rfl, rfl⟩
    go_wp2_with fail
    refine (H1.out _).mono ?_
    rintro r w1 ⟨v1, rfl, ho1, hb1⟩
    have hA := ho1.alloc (.cells #[.int .i64 n] 3)
    have hB := hb1.alloc hb1.size (.cells #[.int .i64 n] 3)
    have hcell : (w1.alloc (.cells #[.int .i64 n] 3)).cell? ⟨w1.heap.size, 0, none⟩ = some (.int .i64 n) := by simp [go_sem]
    have lc : w1.heap.size < (w1.alloc (.cells #[.int .i64 n] 3)).heap.size := by simp
    clear ho1 hb1
    go_wp2_with fail
    generalize w1.alloc (.cells #[.int .i64 n] 3) = X at *
    generalize w1.heap.size = gu at *
    go_loopw [8, 50] (fun s8 i wr => BackR1 X ⟨#[x, y]⟩ s8 i wr) (fun _ i _ => 1 - (intOf i).toNat)
    case atStart => exact ⟨.inl ⟨rfl, rfl⟩, Below.refl _ _⟩
    case round =>
      obtain ⟨⟨rfl, rfl⟩ | ⟨rfl, rfl⟩, hb⟩ := hrel
      · have hc := (hb.cell (p := ⟨gu, 0, none⟩) lc).trans hcell
        replace hcell := hid hcell
        go_wp2_with fail
        go_roundw
        case rel => exact ⟨.inr ⟨rfl, rfl⟩, hb.alloc hb.size _⟩
        case measure => simp [intOf]
      · have hA2 := hA.below hb
        have hB2 := hB.trans (hb.mono hB.size)
        clear hcell
        go_wp2_with fail
        refine (H2.out _).mono ?_
        rintro r w2 ⟨v2, rfl, ho2, hb2⟩
        have hA3 := hA2.below hb2
        have hB3 := hB2.trans (hb2.mono hB2.size)
        replace hA3 := hid hA3
        replace ho2 := hid ho2
        clear hA hA2 hB hB2 hb hb2
        go_wp2_with fail
        refine (same_any [n] v1 (.slice (some ⟨w2.heap.size, 0, none⟩) 1 1) _ w.heap.size _ (by simp) (hA3.out.alloc _) (Out.one _ _ _ hB3.size)).mono ?_
        rintro r w3 ⟨rfl, hb3⟩
        have hW := hid ((ho2.out.alloc (.cells #[.int .i64 n] 3)).below hb3)
        have hB4 := (hB3.alloc hB3.size (.cells #[.int .i64 n] 3)).trans (hb3.mono (by have := hB3.size; simp; omega))
        go_wp2_with fail
        refine (same_any [n] v2 (.slice (some ⟨w3.heap.size, 0, none⟩) 1 1) _ w.heap.size _ (by simp) (hW.out.alloc _) (Out.one _ _ _ hB4.size)).mono ?_
        rintro r w4 ⟨rfl, hb4⟩
        have hB5 := (hB4.alloc hB4.size (.cells #[.int .i64 n] 3)).trans (hb4.mono (by have := hB4.size; simp; omega))
        go_wp2_with fail
        refine (decodes_keep _).mono ?_
        rintro r w5 ⟨rfl, hb5⟩
        go_wp2_with fail
        go_ret
        exact ⟨rfl, hB5.trans (hb5.mono hB5.size)⟩
set_option maxRecDepth 100000 in
set_option maxHeartbeats 2000000 in
theorem back_one_false (n : Int) (x y : UInt8) (w : World) (h0 : 0 ≤ n) (h1 : n ≤ 65535) (h2 : n < 55296 ∨ 57343 < n) (hx : n % 256 = (x.toNat : Int)) (hy : n / 256 = (y.toNat : Int))
    (H1 : Hid (∀ w1, Calls Try.prog 14 #[.int .i64 1, .string (Utf8.encode n)] w1 (POE w1 [n] 0))) (H2 : Hid (∀ w1, Calls Try.prog 14 #[.int .i64 6, .string ⟨#[y, x]⟩] w1 (POE w1 [n] 0))) :
    Calls Try.prog 7 #[.int .i64 n, .bool false] w fun r w' => r = .returned (.bool true) ∧ Below w.heap.size w w' := by
  have HC := hid (fun w1 => coded_any n w1 h0 (by omega))
  generalize Utf8.encode n = en at *
  obtain h3 | ⟨h3, h4⟩ : n < 55296 ∨ (55296 ≤ n ∧ ¬ n ≤ 57343) := by omega
  all_goals
    clear h2
    go_enter Try.func7, Try.ntmps7
    go_wp2_with fail
    refine (HC.out _).mono ?_
    rintro r w' ⟨rfl, rfl⟩
    go_wp2_with fail
    refine (H1.out _).mono ?_
    rintro r w1 ⟨v1, rfl, ho1, hb1⟩
    have hA := ho1.alloc (.cells #[.int .i64 n] 3)
    have hB := hb1.alloc hb1.size (.cells #[.int .i64 n] 3)
    have hcell : (w1.alloc (.cells #[.int .i64 n] 3)).cell? ⟨w1.heap.size, 0, none⟩ = some (.int .i64 n) := by simp [go_sem]
    have lc : w1.heap.size < (w1.alloc (.cells #[.int .i64 n] 3)).heap.size := by simp
    clear ho1 hb1
    go_wp2_with fail
    generalize w1.alloc (.cells #[.int .i64 n] 3) = X at *
    generalize w1.heap.size = gu at *
    go_loopw [8, 50] (fun s8 i wr => BackR1 X ⟨#[y, x]⟩ s8 i wr) (fun _ i _ => 1 - (intOf i).toNat)
    case atStart => exact ⟨.inl ⟨rfl, rfl⟩, Below.refl _ _⟩
    case round =>
      obtain ⟨⟨rfl, rfl⟩ | ⟨rfl, rfl⟩, hb⟩ := hrel
      · have hc := (hb.cell (p := ⟨gu, 0, none⟩) lc).trans hcell
        replace hcell := hid hcell
        go_wp2_with fail
        go_roundw
        case rel => exact ⟨.inr ⟨rfl, rfl⟩, hb.alloc hb.size _⟩
        case measure => simp [intOf]
      · have hA2 := hA.below hb
        have hB2 := hB.trans (hb.mono hB.size)
        clear hcell
        go_wp2_with fail
        refine (H2.out _).mono ?_
        rintro r w2 ⟨v2, rfl, ho2, hb2⟩
        have hA3 := hA2.below hb2
        have hB3 := hB2.trans (hb2.mono hB2.size)
        replace hA3 := hid hA3
        replace ho2 := hid ho2
        clear hA hA2 hB hB2 hb hb2
        go_wp2_with fail
        refine (same_any [n] v1 (.slice (some ⟨w2.heap.size, 0, none⟩) 1 1) _ w.heap.size _ (by simp) (hA3.out.alloc _) (Out.one _ _ _ hB3.size)).mono ?_
        rintro r w3 ⟨rfl, hb3⟩
        have hW := hid ((ho2.out.alloc (.cells #[.int .i64 n] 3)).below hb3)
        have hB4 := (hB3.alloc hB3.size (.cells #[.int .i64 n] 3)).trans (hb3.mono (by have := hB3.size; simp; omega))
        go_wp2_with fail
        refine (same_any [n] v2 (.slice (some ⟨w3.heap.size, 0, none⟩) 1 1) _ w.heap.size _ (by simp) (hW.out.alloc _) (Out.one _ _ _ hB4.size)).mono ?_
        rintro r w4 ⟨rfl, hb4⟩
        have hB5 := (hB4.alloc hB4.size (.cells #[.int .i64 n] 3)).trans (hb4.mono (by have := hB4.size; simp; omega))
        go_wp2_with fail
        refine (decodes_keep _).mono ?_
        rintro r w5 ⟨rfl, hb5⟩
        go_wp2_with fail
        go_ret
        exact ⟨rfl, hB5.trans (hb5.mono hB5.size)⟩
set_option maxRecDepth 100000 in
set_option maxHeartbeats 2000000 in
theorem back_two_true (n u v : Int) (x y z t : UInt8) (w : World) (h0 : 65535 < n) (h1 : n ≤ 1114111) (hm : bits .and .i64 (n - 65536) 1023 = (n - 65536) % 1024) (hu : 55296 + (n - 65536) / 1024 = u) (hv : 56320 + (n - 65536) % 1024 = v)
    (hx : u % 256 = (x.toNat : Int)) (hy : u / 256 % 256 = (y.toNat : Int)) (hz : v % 256 = (z.toNat : Int)) (ht : v / 256 % 256 = (t.toNat : Int))
    (H1 : Hid (∀ w1, Calls Try.prog 14 #[.int .i64 1, .string (Utf8.encode n)] w1 (POE w1 [n] 0))) (H2 : Hid (∀ w1, Calls Try.prog 14 #[.int .i64 5, .string ⟨#[x, y, z, t]⟩] w1 (POE w1 [n] 0))) :
    Calls Try.prog 7 #[.int .i64 n, .bool true] w fun r w' => r = .returned (.bool true) ∧ Below w.heap.size w w' := by
  have HC := hid (fun w1 => coded_any n w1 (by omega) h1)
  generalize Utf8.encode n = en at *
  have g1 : 0 ≤ n := by omega
  have g2 : 55296 ≤ n := by omega
  have g3 : ¬ n ≤ 57343 := by omega
  go_enter Try.func7, Try.ntmps7
  go_wp2_with fail
  refine (HC.out _).mono ?_
  rintro r w' ⟨rfl, rfl⟩
  go_wp2_with fail
  refine (H1.out _).mono ?_
  rintro r w1 ⟨v1, rfl, ho1, hb1⟩
  have hA := (ho1.alloc (.cells #[.int .i64 n] 3)).alloc (.cells #[.int .i64 u, .int .i64 v] 3)
  have hB := (hb1.alloc hb1.size (.cells #[.int .i64 n] 3)).alloc (by have := hb1.size; simp; omega) (.cells #[.int .i64 u, .int .i64 v] 3)
  have hcell0 : ((w1.alloc (.cells #[.int .i64 n] 3)).alloc (.cells #[.int .i64 u, .int .i64 v] 3)).cell? ⟨w1.heap.size + 1, 0, none⟩ = some (.int .i64 u) := by simp [go_sem]
  have hcell1 : ((w1.alloc (.cells #[.int .i64 n] 3)).alloc (.cells #[.int .i64 u, .int .i64 v] 3)).cell? ⟨w1.heap.size + 1, 1, none⟩ = some (.int .i64 v) := by simp [go_sem]
  have lc : w1.heap.size + 1 < ((w1.alloc (.cells #[.int .i64 n] 3)).alloc (.cells #[.int .i64 u, .int .i64 v] 3)).heap.size := by simp
  clear ho1 hb1
  go_wp2_with fail
  generalize (w1.alloc (.cells #[.int .i64 n] 3)).alloc (.cells #[.int .i64 u, .int .i64 v] 3) = X at *
  generalize w1.heap.size + 1 = gu at *
  go_loopw [8, 50] (fun s8 i wr => BackR2 X ⟨#[x, y]⟩ ⟨#[x, y, z, t]⟩ s8 i wr) (fun _ i _ => 2 - (intOf i).toNat)
  case atStart => exact ⟨.inl ⟨rfl, rfl⟩, Below.refl _ _⟩
  case round =>
    obtain ⟨⟨rfl, rfl⟩ | ⟨rfl, rfl⟩ | ⟨rfl, rfl⟩, hb⟩ := hrel
    · have hc := (hb.cell (p := ⟨gu, 0, none⟩) lc).trans hcell0
      replace hcell0 := hid hcell0
      replace hcell1 := hid hcell1
      replace hu := hid hu
      replace hv := hid hv
      go_wp2_with fail
      go_roundw
      case rel => exact ⟨.inr (.inl ⟨rfl, rfl⟩), hb.alloc hb.size _⟩
      case measure => simp [intOf]
    · have hc := (hb.cell (p := ⟨gu, 1, none⟩) lc).trans hcell1
      replace hcell0 := hid hcell0
      replace hcell1 := hid hcell1
      replace hu := hid hu
      replace hv := hid hv
      go_wp2_with fail
      go_roundw
      case rel => exact ⟨.inr (.inr ⟨rfl, rfl⟩), hb.alloc hb.size _⟩
      case measure => simp [intOf]
    · have hA2 := hA.below hb
      have hB2 := hB.trans (hb.mono hB.size)
      clear hcell0 hcell1 hu hv hx hy hz ht hm
      go_wp2_with fail
      refine (H2.out _).mono ?_
      rintro r w2 ⟨v2, rfl, ho2, hb2⟩
      have hA3 := hA2.below hb2
      have hB3 := hB2.trans (hb2.mono hB2.size)
      replace hA3 := hid hA3
      replace ho2 := hid ho2
      clear hA hA2 hB hB2 hb hb2
      go_wp2_with fail
      refine (same_any [n] v1 (.slice (some ⟨w2.heap.size, 0, none⟩) 1 1) _ w.heap.size _ (by simp) (hA3.out.alloc _) (Out.one _ _ _ hB3.size)).mono ?_
      rintro r w3 ⟨rfl, hb3⟩
      have hW := hid ((ho2.out.alloc (.cells #[.int .i64 n] 3)).below hb3)
      have hB4 := (hB3.alloc hB3.size (.cells #[.int .i64 n] 3)).trans (hb3.mono (by have := hB3.size; simp; omega))
      go_wp2_with fail
      refine (same_any [n] v2 (.slice (some ⟨w3.heap.size, 0, none⟩) 1 1) _ w.heap.size _ (by simp) (hW.out.alloc _) (Out.one _ _ _ hB4.size)).mono ?_
      rintro r w4 ⟨rfl, hb4⟩
      have hB5 := (hB4.alloc hB4.size (.cells #[.int .i64 n] 3)).trans (hb4.mono (by have := hB4.size; simp; omega))
      go_wp2_with fail
      refine (decodes_keep _).mono ?_
      rintro r w5 ⟨rfl, hb5⟩
      go_wp2_with fail
      go_ret
      exact ⟨rfl, hB5.trans (hb5.mono hB5.size)⟩
set_option maxRecDepth 100000 in
set_option maxHeartbeats 2000000 in
theorem back_two_false (n u v : Int) (x y z t : UInt8) (w : World) (h0 : 65535 < n) (h1 : n ≤ 1114111) (hm : bits .and .i64 (n - 65536) 1023 = (n - 65536) % 1024) (hu : 55296 + (n - 65536) / 1024 = u) (hv : 56320 + (n - 65536) % 1024 = v)
    (hx : u % 256 = (x.toNat : Int)) (hy : u / 256 % 256 = (y.toNat : Int)) (hz : v % 256 = (z.toNat : Int)) (ht : v / 256 % 256 = (t.toNat : Int))
    (H1 : Hid (∀ w1, Calls Try.prog 14 #[.int .i64 1, .string (Utf8.encode n)] w1 (POE w1 [n] 0))) (H2 : Hid (∀ w1, Calls Try.prog 14 #[.int .i64 6, .string ⟨#[y, x, t, z]⟩] w1 (POE w1 [n] 0))) :
    Calls Try.prog 7 #[.int .i64 n, .bool false] w fun r w' => r = .returned (.bool true) ∧ Below w.heap.size w w' := by
  have HC := hid (fun w1 => coded_any n w1 (by omega) h1)
  generalize Utf8.encode n = en at *
  have g1 : 0 ≤ n := by omega
  have g2 : 55296 ≤ n := by omega
  have g3 : ¬ n ≤ 57343 := by omega
  go_enter Try.func7, Try.ntmps7
  go_wp2_with fail
  refine (HC.out _).mono ?_
  rintro r w' ⟨rfl, rfl⟩
  go_wp2_with fail
  refine (H1.out _).mono ?_
  rintro r w1 ⟨v1, rfl, ho1, hb1⟩
  have hA := (ho1.alloc (.cells #[.int .i64 n] 3)).alloc (.cells #[.int .i64 u, .int .i64 v] 3)
  have hB := (hb1.alloc hb1.size (.cells #[.int .i64 n] 3)).alloc (by have := hb1.size; simp; omega) (.cells #[.int .i64 u, .int .i64 v] 3)
  have hcell0 : ((w1.alloc (.cells #[.int .i64 n] 3)).alloc (.cells #[.int .i64 u, .int .i64 v] 3)).cell? ⟨w1.heap.size + 1, 0, none⟩ = some (.int .i64 u) := by simp [go_sem]
  have hcell1 : ((w1.alloc (.cells #[.int .i64 n] 3)).alloc (.cells #[.int .i64 u, .int .i64 v] 3)).cell? ⟨w1.heap.size + 1, 1, none⟩ = some (.int .i64 v) := by simp [go_sem]
  have lc : w1.heap.size + 1 < ((w1.alloc (.cells #[.int .i64 n] 3)).alloc (.cells #[.int .i64 u, .int .i64 v] 3)).heap.size := by simp
  clear ho1 hb1
  go_wp2_with fail
  generalize (w1.alloc (.cells #[.int .i64 n] 3)).alloc (.cells #[.int .i64 u, .int .i64 v] 3) = X at *
  generalize w1.heap.size + 1 = gu at *
  go_loopw [8, 50] (fun s8 i wr => BackR2 X ⟨#[y, x]⟩ ⟨#[y, x, t, z]⟩ s8 i wr) (fun _ i _ => 2 - (intOf i).toNat)
  case atStart => exact ⟨.inl ⟨rfl, rfl⟩, Below.refl _ _⟩
  case round =>
    obtain ⟨⟨rfl, rfl⟩ | ⟨rfl, rfl⟩ | ⟨rfl, rfl⟩, hb⟩ := hrel
    · have hc := (hb.cell (p := ⟨gu, 0, none⟩) lc).trans hcell0
      replace hcell0 := hid hcell0
      replace hcell1 := hid hcell1
      replace hu := hid hu
      replace hv := hid hv
      go_wp2_with fail
      go_roundw
      case rel => exact ⟨.inr (.inl ⟨rfl, rfl⟩), hb.alloc hb.size _⟩
      case measure => simp [intOf]
    · have hc := (hb.cell (p := ⟨gu, 1, none⟩) lc).trans hcell1
      replace hcell0 := hid hcell0
      replace hcell1 := hid hcell1
      replace hu := hid hu
      replace hv := hid hv
      go_wp2_with fail
      go_roundw
      case rel => exact ⟨.inr (.inr ⟨rfl, rfl⟩), hb.alloc hb.size _⟩
      case measure => simp [intOf]
    · have hA2 := hA.below hb
      have hB2 := hB.trans (hb.mono hB.size)
      clear hcell0 hcell1 hu hv hx hy hz ht hm
      go_wp2_with fail
      refine (H2.out _).mono ?_
      rintro r w2 ⟨v2, rfl, ho2, hb2⟩
      have hA3 := hA2.below hb2
      have hB3 := hB2.trans (hb2.mono hB2.size)
      replace hA3 := hid hA3
      replace ho2 := hid ho2
      clear hA hA2 hB hB2 hb hb2
      go_wp2_with fail
      refine (same_any [n] v1 (.slice (some ⟨w2.heap.size, 0, none⟩) 1 1) _ w.heap.size _ (by simp) (hA3.out.alloc _) (Out.one _ _ _ hB3.size)).mono ?_
      rintro r w3 ⟨rfl, hb3⟩
      have hW := hid ((ho2.out.alloc (.cells #[.int .i64 n] 3)).below hb3)
      have hB4 := (hB3.alloc hB3.size (.cells #[.int .i64 n] 3)).trans (hb3.mono (by have := hB3.size; simp; omega))
      go_wp2_with fail
      refine (same_any [n] v2 (.slice (some ⟨w3.heap.size, 0, none⟩) 1 1) _ w.heap.size _ (by simp) (hW.out.alloc _) (Out.one _ _ _ hB4.size)).mono ?_
      rintro r w4 ⟨rfl, hb4⟩
      have hB5 := (hB4.alloc hB4.size (.cells #[.int .i64 n] 3)).trans (hb4.mono (by have := hB4.size; simp; omega))
      go_wp2_with fail
      refine (decodes_keep _).mono ?_
      rintro r w5 ⟨rfl, hb5⟩
      go_wp2_with fail
      go_ret
      exact ⟨rfl, hB5.trans (hb5.mono hB5.size)⟩
theorem byte_ofB (u : Int) (h0 : 0 ≤ u) (h1 : u ≤ 65535) : ∃ x y : UInt8, u % 256 = (x.toNat : Int) ∧ u / 256 % 256 = (y.toNat : Int) ∧ nb y * 256 + nb x = u := by
  refine ⟨UInt8.ofNat (u % 256).toNat, UInt8.ofNat (u / 256).toNat, ?_, ?_, ?_⟩
  · have := nb_of (u % 256).toNat (by omega)
    unfold nb at this; omega
  · have := nb_of (u / 256).toNat (by omega)
    unfold nb at this; omega
  · rw [nb_of _ (by omega), nb_of _ (by omega)]; omega
theorem back_any (n : Int) (low : Bool) (w : World) : Calls Try.prog 7 #[.int .i64 n, .bool low] w fun r w' => r = .returned (.bool true) ∧ Below w.heap.size w w' := by
  by_cases h : n < 0 ∨ 1114111 < n ∨ (55296 ≤ n ∧ n ≤ 57343)
  · exact back_none n low w h
  have H1 := fun w1 => whole_any conU fullU.goods (Utf8.encode n) (by
    have hv : Utf8.valid n = true := by simp [Utf8.valid]; omega
    unfold Utf8.encode
    simp only [hv, if_true]
    split
    · show 1 ≤ 4000; omega
    split
    · show 2 ≤ 4000; omega
    split
    · show 3 ≤ 4000; omega
    · show 4 ≤ 4000; omega) w1
  rw [dec_encode n (by omega) (by omega) (by omega)] at H1
  replace H1 := hid H1
  by_cases hn : n ≤ 65535
  · obtain ⟨x, y, hx, hy, hu⟩ := byte_ofB n (by omega) hn
    have l1 : leadsB n = false := by unfold leadsB; simp; omega
    have l2 : trailsB n = false := by unfold trailsB; simp; omega
    cases low with
    | true =>
      have H2 := fun w1 => whole_any conLo fullLo.goods ⟨#[x, y]⟩ (by show 2 ≤ 4000; omega) w1
      rw [show mLo.dec mLo.init (⟨#[x, y]⟩ : ByteArray).data.toList = [n] from (lo_unit x y [] n hu l1 l2 : decL (0, none) [x, y] = _)] at H2
      exact back_one_true n x y w (by omega) hn (by omega) hx (by omega) H1 (hid H2)
    | false =>
      have H2 := fun w1 => whole_any conHi fullHi.goods ⟨#[y, x]⟩ (by show 2 ≤ 4000; omega) w1
      rw [show mHi.dec mHi.init (⟨#[y, x]⟩ : ByteArray).data.toList = [n] from (hi_unit x y [] n hu l1 l2 : decH (.unit 0) [y, x] = _)] at H2
      exact back_one_false n x y w (by omega) hn (by omega) hx (by omega) H1 (hid H2)
  · obtain ⟨u, hu⟩ : ∃ u, 55296 + (n - 65536) / 1024 = u := ⟨_, rfl⟩
    obtain ⟨v, hv⟩ : ∃ v, 56320 + (n - 65536) % 1024 = v := ⟨_, rfl⟩
    obtain ⟨x, y, hx, hy, eu⟩ := byte_ofB u (by omega) (by omega)
    obtain ⟨z, t, hz, ht, ev⟩ := byte_ofB v (by omega) (by omega)
    have l1 : leadsB u = true := by unfold leadsB; simp; omega
    have l2 : trailsB v = true := by unfold trailsB; simp; omega
    have hm : bits .and .i64 (n - 65536) 1023 = (n - 65536) % 1024 := and_mask 10 (by omega) (n - 65536) (by omega) (by omega)
    have en : 65536 + (u % 1024) * 1024 + v % 1024 = n := by omega
    cases low with
    | true =>
      have H2 := fun w1 => whole_any conLo fullLo.goods ⟨#[x, y, z, t]⟩ (by show 4 ≤ 4000; omega) w1
      rw [show mLo.dec mLo.init (⟨#[x, y, z, t]⟩ : ByteArray).data.toList = [65536 + (u % 1024) * 1024 + v % 1024] from lo_pair x y z t [] u v eu ev l1 l2 (by omega), en] at H2
      exact back_two_true n u v x y z t w (by omega) (by omega) hm hu hv hx hy hz ht H1 (hid H2)
    | false =>
      have H2 := fun w1 => whole_any conHi fullHi.goods ⟨#[y, x, t, z]⟩ (by show 4 ≤ 4000; omega) w1
      rw [show mHi.dec mHi.init (⟨#[y, x, t, z]⟩ : ByteArray).data.toList = [65536 + (u % 1024) * 1024 + v % 1024] from hi_pair x y z t [] u v eu ev l1 l2 (by omega), en] at H2
      exact back_two_false n u v x y z t w (by omega) (by omega) hm hu hv hx hy hz ht H1 (hid H2)
end Go.Proofs.Ytloaemijhggheaa
