/- The walk over the reference: the label among the first bytes. -/
import Derived.Test.YtbnjhcdgiieghaaDoorSnRef
import Derived.Deep.DeepCutAuto
namespace Go.Proofs.YtbnjhcdgiieghaaDoor
open Go.RowKit

theorem decide_size (u : ByteArray) (n : Nat) (h : u.size ≤ n) : u.data.toList.take n = u.data.toList := List.take_of_length_le (by rw [size_data]; exact h)

/-- The filled row lies in its block. -/
structure LowRow (l : List UInt8) (B : Nat) (wr : World) : Prop where
  cell : ∀ j, j < l.length → wr.cell? ⟨B, j, none⟩ = some (.int .u8 ((lowB (l.getD j 0)).toNat : Int))
  big : B < wr.heap.size
theorem LowRow.below {l : List UInt8} {B : Nat} {a b : World} (h : LowRow l B a) (hb : Below a.heap.size a b) : LowRow l B b :=
  ⟨fun j hj => by rw [hb.cell (p := ⟨B, j, none⟩) h.big]; exact h.cell j hj, Nat.lt_of_lt_of_le h.big hb.size⟩
theorem LowRow.back {u : ByteArray} {B : Nat} {wr : World} (h : LowRow u.data.toList B wr) (k : Nat) (hk : k ≤ u.size) (cap : Nat) :
    (convert 37 9 (.slice (some ⟨B, k, none⟩) (u.size - k) cap)).run Tryd.prog wr = .ok (.string ⟨((u.data.toList.drop k).map lowB).toArray⟩) wr := by
  have hl : ((u.data.toList.drop k).map lowB).length = u.size - k := by simp
  have := run_convert_bytes_back (P := Tryd.prog) wr 37 9 5 ⟨B, k, none⟩ cap ((u.data.toList.drop k).map lowB) Tryd.underlying37 Tryd.underlying5 Tryd.underlying9 (fun j hj => by
    have hj' : k + j < u.size := by omega
    have e : (⟨B, k, none⟩ : Addr).add j = ⟨B, k + j, none⟩ := by simp [Addr.add]
    rw [e, h.cell (k + j) (by simpa using hj')]
    simp [hj'])
  rw [hl] at this
  exact this

theorem PutInv.low {u : ByteArray} {B : Nat} {w wr : World} (h : PutInv u.data.toList u.size B w wr) (hu : 0 < u.size) : LowRow u.data.toList B wr :=
  ⟨fun j hj => by
    obtain ⟨n, hn, he⟩ := h.cell j hj
    rw [hn, he (by rw [← size_data]; exact hj)], by
    obtain ⟨n, hn, _⟩ := h.cell 0 (by rw [size_data]; exact hu)
    exact World.block_lt_of_cell? _ _ hn⟩
set_option maxRecDepth 100000 in
set_option maxHeartbeats 4000000 in
theorem labelOf_any (s : ByteArray) (w : World) (m : Int) (hs : s.size ≤ 140737488355328) (hm : w.cell? ⟨2, 0, none⟩ = some (.int .i64 m)) :
    Calls Tryd.prog 20 #[.string s] w fun e w' => e = .returned (.tuple #[.int .i64 (labelL s.data.toList).1, .bool (labelL s.data.toList).2]) ∧ Below w.heap.size w w' := by
  have HZ := hid (size_data s)
  have HMX := hid hm
  clear hm
  have HR : Hid (∀ u : ByteArray, u.data.toList = s.data.toList.take 256 → labelL s.data.toList = if 0 < srchL u.data.toList then (srchL u.data.toList, true) else (0, decide ((256 : Int) ≤ (s.size : Int)))) := fun u hu => by
    rw [hu]; unfold labelL
    rw [show decide ((256 : Int) ≤ (s.size : Int)) = decide (256 ≤ s.data.toList.length) by rw [HZ.out, Bool.eq_iff_iff, decide_eq_true_eq, decide_eq_true_eq]; omega]
  go_enter Tryd.func20, Tryd.ntmps20
  go_upto_if 16 with fail
  go_cut [0] (fun v wx => ∃ u : ByteArray, v = .string u ∧ u.data.toList = s.data.toList.take 256 ∧ w = wx)
  case first =>
    by_cases hc : 256 ≤ s.size
    · have b1 : (256 : Int) ≤ (s.size : Int) := by omega
      go_wp2_with fail
      go_meet
      exact ⟨_, rfl, ext_take s 256, rfl⟩
    · have b1 : decide ((256 : Int) ≤ (s.size : Int)) = false := decide_eq_false (by omega)
      go_wp2_with fail
      go_meet
      exact ⟨_, rfl, (decide_size s 256 (by omega)).symm, rfl⟩
  case rest =>
    obtain ⟨u, rfl, hu, rfl⟩ := hcut
    replace HR := hid (HR.out u hu)
    have hz : u.size ≤ 256 := by
      rw [← size_data, hu]; simp; omega
    clear hu HZ hs
    generalize decide ((256 : Int) ≤ (s.size : Int)) = whole at HR ⊢
    have hmk := run_make_row' (P := Tryd.prog) 37 5 (.int .u8 0) 1 Tryd.underlying37 info5 rfl .i64 .i64 u.size (by omega) (by omega)
    go_wp2_with fail
    clear hmk
    have hst := PutInv.start u.data.toList u.size (size_data u) w
    have HL := hid (size_data u)
    go_loopw [24] (fun i wr => ∃ k : Nat, k ≤ u.size ∧ i = .int .i64 k ∧ PutInv u.data.toList k w.heap.size w wr) (fun i _ => u.size - (intOf i).toNat)
    case atStart => exact ⟨0, Nat.zero_le _, rfl, hst⟩
    case round =>
      clear hst
      obtain ⟨k, hk, rfl, hinv⟩ := hrel
      by_cases hlt : k < u.size
      · obtain ⟨n0, hc, _⟩ := hinv.cell k (by rw [HL.out]; exact hlt)
        have hf := hinv.free k (by rw [HL.out]; exact hlt)
        have HX := hid (getD_data u k hlt)
        by_cases hyes : 65 ≤ u[k].toNat ∧ u[k].toNat ≤ 90
        · obtain ⟨h1, h2⟩ := hyes
          have hb : (u[k].toNat : Int) + 32 = ((lowB (u.data.toList.getD k 0)).toNat : Int) := by
            rw [HX.out, lowB_yes _ ⟨h1, h2⟩]; omega
          have HP := hid ((hinv.any (u[k].toNat : Int)).put (by rw [HL.out]; exact hlt) _ hb)
          clear hb
          go_wp2_with fail
          go_roundw
          case rel => exact ⟨k + 1, by omega, by go_num, HP.out⟩
          case measure => simp [intOf]; omega
        · have hb : (u[k].toNat : Int) = ((lowB (u.data.toList.getD k 0)).toNat : Int) := by
            rw [HX.out, lowB_no _ hyes]
          have HP := hid (hinv.put (by rw [HL.out]; exact hlt) _ hb)
          clear hb
          go_wp2_with fail
          all_goals
            go_roundw
            case rel => exact ⟨k + 1, by omega, by go_num, HP.out⟩
            case measure => simp [intOf]; omega
      · have hk' : k = u.size := by omega
        subst hk'
        have HLow := hid (fun h : 0 < u.size => hinv.low h)
        have HBe := hid hinv.below
        clear hinv hlt hk
        go_wp2_with fail
        go_loopw [52] (fun i wr2 => ∃ k : Nat, k ≤ u.size ∧ i = .int .i64 k ∧ srchL (u.data.toList.drop k) = srchL u.data.toList ∧ (0 < u.size → LowRow u.data.toList w.heap.size wr2) ∧ Below w.heap.size w wr2) (fun i _ => u.size - (intOf i).toNat)
        case atStart => exact ⟨0, Nat.zero_le _, rfl, rfl, HLow.out, HBe.out⟩
        case round =>
          obtain ⟨k, hk, rfl, he, hlow, hbe⟩ := hrel
          by_cases hlt : k < u.size
          · have HD := hid (drop_at u k hlt)
            have HE := hid he
            have HLO := hid (hlow (by omega))
            have HB2 := hid hbe
            obtain ⟨r, hr, hcv⟩ : ∃ r : ByteArray, r.data.toList = (u.data.toList.drop k).map lowB ∧ ∀ cap, (convert 37 9 (.slice (some ⟨w.heap.size, k, none⟩) (u.size - k) cap)).run Tryd.prog wr = .ok (.string r) wr := ⟨_, rfl, fun cap => (hlow (by omega)).back k hk cap⟩
            have HRR := hid hr
            have hrz : r.size = u.size - k := by
              rw [← size_data, hr]; simp
            have HRZ := hid hrz
            clear he hlow hbe hr hrz
            have b0 : (0 : Int) ≤ (k : Int) := by omega
            have b1 : (k : Int) ≤ (u.size : Int) := by omega
            by_cases h8 : r.size < 8
            · have d8 : decide ((r.size : Int) < 8) = true := decide_eq_true (by omega)
              have HP := hid (fun w1 => hasPrefix_c ⟨#[99, 104, 97, 114, 115, 101, 116, 61]⟩ r w1)
              have HC : Hid (Lib.hasPrefix [99, 104, 97, 114, 115, 101, 116, 61] r.data.toList = keyC (u.data.toList.drop k) ∧ keyF (u.data.toList.drop k) = false) := by
                constructor
                · unfold keyC Lib.hasPrefix
                  rw [decide_eq_true (by rw [List.length_drop, HL.out, ← HRZ.out]; exact h8), HRR.out]; rfl
                · cases hf : keyF (u.data.toList.drop k) with
                  | false => rfl
                  | true => have := keyF_len _ hf; rw [List.length_drop, HL.out, ← HRZ.out] at this; omega
              change Hid (∀ w1, Calls _ _ _ w1 fun e w' => e = .returned (.bool (Lib.hasPrefix [99, 104, 97, 114, 115, 101, 116, 61] r.data.toList)) ∧ w' = w1) at HP
              rw [HC.out.1] at HP
              cases hc : keyC (u.data.toList.drop k) with
              | true =>
                have HR2 : Hid (labelL s.data.toList = (0, whole)) := by
                  show _ = _
                  rw [HR.out, ← HE.out, srch_stop _ (at_cut _ hc)]; rfl
                rw [hc] at HP
                clear h8 hc
                go_wp2_with fail
                refine (HP.out _).mono ?_
                rintro e w2 ⟨rfl, rfl⟩
                go_wp2_with fail
                go_ret2
                exact ⟨by rw [HR2.out]; rfl, HB2.out⟩
              | false =>
                have HN : Hid (srchL (u.data.toList.drop (k + 1)) = srchL u.data.toList) := by
                  show _ = _
                  have := at_not _ hc HC.out.2
                  rw [HD.out] at this
                  rw [← HE.out, HD.out]
                  exact (srch_skip _ _ this).symm
                rw [hc] at HP
                clear h8 hc
                go_wp2_with fail
                refine (HP.out _).mono ?_
                rintro e w2 ⟨rfl, rfl⟩
                go_wp2_with fail
                go_roundw
                case rel => exact ⟨k + 1, by omega, by go_num, HN.out, fun _ => HLO.out, HB2.out⟩
                case measure => simp [intOf]; omega
            · have d8 : decide ((r.size : Int) < 8) = false := decide_eq_false (by omega)
              have b8 : (8 : Int) ≤ (r.size : Int) := by omega
              have HK : Hid (((r.extract 0 8).toList == [99, 104, 97, 114, 115, 101, 116, 61]) = keyF (u.data.toList.drop k)) := by
                show _ = _
                rw [Lib.toList_data, ext_take, HRR.out]; rfl
              have HCN : Hid (keyC (u.data.toList.drop k) = false) := by
                show _ = _
                unfold keyC
                rw [decide_eq_false (by rw [List.length_drop, HL.out, ← HRZ.out]; exact h8)]; rfl
              cases hf : keyF (u.data.toList.drop k) with
              | false =>
                have HN : Hid (srchL (u.data.toList.drop (k + 1)) = srchL u.data.toList) := by
                  show _ = _
                  have := at_not _ HCN.out hf
                  rw [HD.out] at this
                  rw [← HE.out, HD.out]
                  exact (srch_skip _ _ this).symm
                have dk : (!((r.extract 0 8).toList == [99, 104, 97, 114, 115, 101, 116, 61])) = true := by rw [HK.out, hf]; rfl
                clear h8 hf
                go_wp2_with fail
                go_roundw
                case rel => exact ⟨k + 1, by omega, by go_num, HN.out, fun _ => HLO.out, HB2.out⟩
                case measure => simp [intOf]; omega
              | true =>
                have dk : (!((r.extract 0 8).toList == [99, 104, 97, 114, 115, 101, 116, 61])) = false := by rw [HK.out, hf]; rfl
                have hk8 : k + 8 ≤ u.size := by have := HRZ.out; omega
                have b9 : (k : Int) + 8 ≤ (u.size : Int) := by omega
                have HT := hid (at_key _ hf)
                rw [List.drop_drop] at HT
                clear h8 hf
                go_upto_region 19 with fail
                go_cut [9] (fun v wx => ∃ x : ByteArray, v = .string x ∧ x.data.toList = u.data.toList.drop (k + 8) ∧ x.size ≤ 256 ∧ wr = wx)
                case first =>
                  go_wp2_with fail
                  go_meet
                  exact ⟨_, rfl, ext_drop u (k + 8), by simp; omega, rfl⟩
                case rest =>
                obtain ⟨x, rfl, hx, hxz, rfl⟩ := hcut
                rw [← hx] at HT
                clear hx hcv dk d8 b8 b9 HK HCN HRR HRZ
                go_upto_region 21 with fail
                go_cut [82] (fun b wx => ∃ q : Bool, b = .bool q ∧ wr = wx ∧ (q = true → ∃ h : 0 < x.size, x[0] = 34 ∨ x[0] = 39) ∧ (q = false → valP x.data.toList = isEndB ∧ valR x.data.toList = x.data.toList))
                case first =>
                  by_cases h0 : 0 < x.size
                  · have hne := nonempty_of x h0
                    by_cases h1 : x[0] = 34
                    · have e34 : ((x[0].toNat : Int) == 34) = true := by rw [h1]; rfl
                      have HQ : Hid (x[0] = 34) := h1
                      clear h1
                      go_wp2_with fail
                      go_meet
                      exact ⟨true, rfl, rfl, fun _ => ⟨h0, .inl HQ.out⟩, fun h => by cases h⟩
                    · have e34 : ((x[0].toNat : Int) == 34) = false := beq_false_of_ne fun h => h1 (UInt8.toNat_inj.1 (Int.ofNat.inj h))
                      by_cases h2 : x[0] = 39
                      · have e39 : ((x[0].toNat : Int) == 39) = true := by rw [h2]; rfl
                        have HQ : Hid (x[0] = 39) := h2
                        clear h1 h2
                        go_wp2_with fail
                        go_meet
                        exact ⟨true, rfl, rfl, fun _ => ⟨h0, .inr HQ.out⟩, fun h => by cases h⟩
                      · have e39 : ((x[0].toNat : Int) == 39) = false := beq_false_of_ne fun h => h2 (UInt8.toNat_inj.1 (Int.ofNat.inj h))
                        have hvp := val_plain (x.extract 1 x.size).data.toList x[0] h1 h2
                        rw [← rest_at x h0] at hvp
                        have HQ := hid hvp
                        clear h1 h2 hvp
                        go_wp2_with fail
                        go_meet
                        exact ⟨false, rfl, rfl, (fun h => by cases h), fun _ => HQ.out⟩
                  · have hne := empty_of x h0
                    have HQ : Hid (x.data.toList = []) := List.length_eq_zero_iff.1 (by rw [size_data]; omega)
                    clear h0
                    go_wp2_with fail
                    go_meet
                    exact ⟨false, rfl, rfl, (fun h => by cases h), fun _ => by rw [HQ.out]; exact ⟨rfl, rfl⟩⟩
                case rest =>
                obtain ⟨q, rfl, rfl, hq1, hq2⟩ := hcut
                have HQ1 := hid hq1
                have HQ2 := hid hq2
                clear hq1 hq2
                go_upto_if 82 with fail
                go_cut [9, 10] (fun v e wx => ∃ vv ee : ByteArray, v = .string vv ∧ e = .string ee ∧ vv.data.toList = valR x.data.toList ∧ SetC ee (valP x.data.toList) ∧ vv.size ≤ 256 ∧ Below wr.heap.size wr wx)
                case first =>
                  cases q with
                  | true =>
                    obtain ⟨h0, hq⟩ := HQ1.out rfl
                    have HQ := hid hq
                    clear hq HQ1 HQ2
                    have c1 : (1 : Int) ≤ (x.size : Int) := by omega
                    go_wp2_with fail
                    go_quiet (fail)
                    go_wp2_with fail
                    go_meet
                    refine ⟨_, _, rfl, rfl, ?_, ?_, by simp; omega, drewN_below (Below.refl _ _) _⟩
                    · have hr := rest_at x h0
                      rw [hr]
                      rcases HQ.out with h | h <;> rw [h] <;> rfl
                    · have hr := rest_at x h0
                      have ho := one_at x h0
                      rw [hr]
                      rcases HQ.out with h | h
                      · rw [h] at ho ⊢; exact set34 _ ho
                      · rw [h] at ho ⊢; exact set39 _ ho
                  | false =>
                    have hq := HQ2.out rfl
                    have HQ := hid hq
                    clear hq HQ1 HQ2
                    go_wp2_with fail
                    go_meet
                    exact ⟨_, _, rfl, rfl, HQ.out.2.symm, by rw [HQ.out.1]; exact setE2, hxz, Below.refl _ _⟩
                case rest =>
                obtain ⟨v, ee, rfl, rfl, hv, hset, hvz, hb3⟩ := hcut
                rw [valL_eq, ← hv] at HT
                clear hv HQ1 HQ2 hxz
                generalize valP x.data.toList = p at HT hset
                have HS := hid hset
                clear hset
                have HVL := hid (size_data v)
                have HB3 : Hid (Below w.heap.size w wc) := HB2.out.trans (hb3.mono HB2.out.size)
                have HLO3 := hid (HLO.out.below hb3)
                clear hb3 HB2 HLO
                go_wp2_with fail
                go_loop [11] (fun i => ∃ n : Nat, n ≤ v.size ∧ n ≤ 41 ∧ i = .int .i64 n ∧ upTo p (v.data.toList.drop n) + n = upTo p v.data.toList) (fun i => 42 - (intOf i).toNat)
                case atStart => exact ⟨0, Nat.zero_le _, by omega, rfl, rfl⟩
                case round =>
                  obtain ⟨n, hnv, hn41, rfl, hu⟩ := hrel
                  have HU := hid hu
                  clear hu
                  by_cases hlt2 : n < v.size
                  · have c0 : (n : Int) < (v.size : Int) := by omega
                    have HVD := hid (drop_at v n hlt2)
                    by_cases hn40 : n ≤ 40
                    · have c1 : (n : Int) ≤ 40 := by omega
                      have c2 : ¬ (40 : Int) < (n : Int) := by omega
                      by_cases hq : p v[n] = true
                      · obtain ⟨z, hc, hx, _⟩ := HS.out v[n] wc
                        replace hx := hx hq
                        have HC := hid hc
                        have HN2 : Hid (upTo p v.data.toList = n) := by
                          show _ = _
                          have := HU.out
                          rw [HVD.out] at this; simp only [upTo, hq, if_true] at this; omega
                        have hne : ((n : Int) == (v.size : Int)) = false := beq_false_of_ne (by omega)
                        have HF : Hid (Calls Tryd.prog 11 #[.string (v.extract 0 n)] wc fun e w' => e = .returned (.int .i64 (findL (v.data.toList.take n))) ∧ Below wc.heap.size wc w') := by
                          have := findRef_any (v.extract 0 n) wc m (by simp; omega) (by rw [HB3.out.cell (World.block_lt_of_cell? _ _ HMX.out)]; exact HMX.out)
                          rw [ext_take] at this; exact this
                        have HX : Hid (atL (u.data.toList.drop k) = if 0 < asUtf (findL (v.data.toList.take n)) then .hit (asUtf (findL (v.data.toList.take n))) else .skip) := by
                          show _ = _
                          rw [HT.out]; unfold bodyL
                          rw [HN2.out, if_neg (by omega), if_neg (by rw [HVL.out]; omega)]
                        have HY := hid (findL_range (v.data.toList.take n))
                        clear hc hq
                        generalize findL (v.data.toList.take n) = e at HX HF HY
                        rw [HD.out] at HX HE
                        by_cases h0 : e = 0
                        · have HN : Hid (srchL (u.data.toList.drop (k + 1)) = srchL u.data.toList) := by
                            show _ = _
                            rw [← HE.out]
                            refine (srch_skip _ _ ?_).symm
                            rw [HX.out, h0]; rfl
                          subst h0
                          go_wp2_with fail
                          refine HC.out.mono ?_
                          rintro e _ ⟨rfl, rfl⟩
                          go_wp2_with fail
                          refine HF.out.mono ?_
                          rintro e w4 ⟨rfl, hb4⟩
                          go_wp2_with fail
                          go_roundw
                          case rel => exact ⟨k + 1, by omega, by go_num, HN.out, fun _ => HLO3.out.below hb4, HB3.out.trans (hb4.mono HB3.out.size)⟩
                          case measure => simp [intOf]; omega
                        · have HR2 : Hid (labelL s.data.toList = (asUtf e, true)) := by
                            show _ = _
                            have hp : 0 < asUtf e := by
                              have := HY.out; unfold asUtf; split <;> omega
                            rw [HR.out, ← HE.out, srch_hit _ _ (asUtf e) (by rw [HX.out, if_pos hp]), if_pos hp]
                          have g0 : 0 < e := by have := HY.out; omega
                          by_cases h5 : 5 ≤ e
                          · have h5e : asUtf e = 1 := if_pos h5
                            rw [h5e] at HR2
                            clear h0 h5e
                            go_wp2_with fail
                            refine HC.out.mono ?_
                            rintro e _ ⟨rfl, rfl⟩
                            go_wp2_with fail
                            refine HF.out.mono ?_
                            rintro e w4 ⟨rfl, hb4⟩
                            go_wp2_with fail
                            go_ret2
                            exact ⟨by rw [HR2.out]; rfl, HB3.out.trans (hb4.mono HB3.out.size)⟩
                          · have h5e : asUtf e = e := if_neg h5
                            rw [h5e] at HR2
                            clear h0 h5e
                            go_wp2_with fail
                            refine HC.out.mono ?_
                            rintro e _ ⟨rfl, rfl⟩
                            go_wp2_with fail
                            refine HF.out.mono ?_
                            rintro e w4 ⟨rfl, hb4⟩
                            go_wp2_with fail
                            go_ret2
                            exact ⟨by rw [HR2.out]; rfl, HB3.out.trans (hb4.mono HB3.out.size)⟩
                      · have hq2 : p v[n] = false := by simpa using hq
                        have HN2 : Hid (upTo p (v.data.toList.drop (n + 1)) + (n + 1) = upTo p v.data.toList) := by
                          show _ = _
                          have := HU.out
                          rw [HVD.out] at this; simp only [upTo, hq2, if_neg Bool.false_ne_true] at this; omega
                        obtain ⟨z, hc, _, hx⟩ := HS.out v[n] wc
                        replace hx := hx hq2
                        have HC := hid hc
                        clear hc hq hq2
                        go_wp2_with fail
                        refine HC.out.mono ?_
                        rintro e _ ⟨rfl, rfl⟩
                        go_wp2_with fail
                        go_round
                        case rel => exact ⟨n + 1, by omega, by omega, by go_num, HN2.out⟩
                        case measure => simp [intOf]; omega
                    · have c1 : decide ((n : Int) ≤ 40) = false := decide_eq_false (by omega)
                      have c2 : (40 : Int) < (n : Int) := by omega
                      have hne : ((n : Int) == (v.size : Int)) = false := beq_false_of_ne (by omega)
                      have HN : Hid (srchL (u.data.toList.drop (k + 1)) = srchL u.data.toList) := by
                        show _ = _
                        have := HT.out
                        rw [HD.out] at this
                        rw [← HE.out, HD.out]
                        refine (srch_skip _ _ ?_).symm
                        rw [this]; unfold bodyL; rw [if_pos (by have := HU.out; omega)]
                      go_wp2_with fail
                      go_roundw
                      case rel => exact ⟨k + 1, by omega, by go_num, HN.out, fun _ => HLO3.out, HB3.out⟩
                      case measure => simp [intOf]; omega
                  · have hnz : n = v.size := by omega
                    have c0 : decide ((n : Int) < (v.size : Int)) = false := decide_eq_false (by omega)
                    have heq : ((n : Int) == (v.size : Int)) = true := by rw [hnz]; exact beq_self_eq_true _
                    have HU2 : Hid (upTo p v.data.toList = n) := by
                      show _ = _
                      have := HU.out
                      rw [List.drop_eq_nil_of_le (by rw [HVL.out]; omega)] at this
                      simp only [upTo] at this; omega
                    by_cases hn40 : n ≤ 40
                    · have c1 : (n : Int) ≤ 40 := by omega
                      have HR2 : Hid (labelL s.data.toList = (0, whole)) := by
                        show _ = _
                        rw [HR.out, ← HE.out, srch_stop _ (by rw [HT.out]; unfold bodyL; rw [HU2.out, if_neg (by omega), if_pos (by rw [HVL.out]; exact hnz)])]; rfl
                      clear hnz
                      go_wp2_with fail
                      go_ret2
                      exact ⟨by rw [HR2.out]; rfl, HB3.out⟩
                    · have c1 : decide ((n : Int) ≤ 40) = false := decide_eq_false (by omega)
                      have c2 : (40 : Int) < (n : Int) := by omega
                      have HN : Hid (srchL (u.data.toList.drop (k + 1)) = srchL u.data.toList) := by
                        show _ = _
                        have := HT.out
                        rw [HD.out] at this
                        rw [← HE.out, HD.out]
                        refine (srch_skip _ _ ?_).symm
                        rw [this]; unfold bodyL; rw [if_pos (by have := HU.out; omega)]
                      clear hnz
                      go_wp2_with fail
                      go_roundw
                      case rel => exact ⟨k + 1, by omega, by go_num, HN.out, fun _ => HLO3.out, HB3.out⟩
                      case measure => simp [intOf]; omega
          · have hk2 : k = u.size := by omega
            have HR2 : Hid (labelL s.data.toList = (0, whole)) := by
              show _ = _
              rw [HR.out, ← he, List.drop_eq_nil_of_le (by rw [HL.out]; omega)]; rfl
            subst hk2
            have HB2 := hid hbe
            clear he hlow hbe
            go_wp2_with fail
            go_ret2
            exact ⟨by rw [HR2.out]; rfl, HB2.out⟩
end Go.Proofs.YtbnjhcdgiieghaaDoor
