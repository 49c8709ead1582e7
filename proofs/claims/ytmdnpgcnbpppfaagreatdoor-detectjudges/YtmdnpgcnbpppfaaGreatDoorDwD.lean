/- The landed detector's finish. -/
import Derived.Test.YtmdnpgcnbpppfaaGreatDoorQE
namespace Go.Proofs.YtmdnpgcnbpppfaaGreatDoor
open Go.RowKit

set_option maxRecDepth 100000 in
set_option maxHeartbeats 1000000 in
theorem finish_take {W w : World} {F : Nat → Prop} {a : Addr} {d : Dt} (h : IsDet W w F a d) (hl : Laid W) (hw : Below W.heap.size W w) (he : d.ended = false) (ve vy : Int) (vf : Bool) (T : List Int) (hv : Hid (Dt.verdict bestL { d with ended := true } = ⟨ve, vy, vf⟩)) (hT : Hid (tellP decA ve d.l = T)) (h1 : 1 ≤ ve) (h2 : ve ≤ 6) :
    Calls Tryz.prog 31 #[.pointer (some a)] w (DDo W w F a ⟨0, ⟨ve, vy, vf⟩, T⟩ { d with ended := true }) := by
  have h' := h
  obtain ⟨g, v, rfl, rfl, hb, hn, ⟨c0, c1, c2, c3, fz⟩, hs, hlen, ha⟩ := h'
  have hlt : g < w.heap.size := World.block_lt_of_cell? w _ c0
  rw [he] at c3
  have hF : FD g v g := Or.inl rfl
  have hD0 := (h.end_).alloc (.cells #[.int .i64 0, .int .i64 0, .int .i64 0, .bool false, .slice none 0 0] 36)
  have hR := Has5.new (w.setCell ⟨g, 3, none⟩ (.bool true)) 0 0 0 false none 0 0 36
  have hz := frozen_new (w.setCell ⟨g, 3, none⟩ (.bool true)) #[.int .i64 0, .int .i64 0, .int .i64 0, .bool false, .slice none 0 0] 36
  have hsz : (w.setCell ⟨g, 3, none⟩ (.bool true)).heap.size = w.heap.size := by simp [World.setCell]
  rw [hsz] at hR hz
  have hO := ((Only.refl (FD g v) w).set hF 3 (.bool true)).alloc (.cells #[.int .i64 0, .int .i64 0, .int .i64 0, .bool false, .slice none 0 0] 36)
  have hwU := hw.trans (hO.below hw.size (fun k hk => (h.lt k hk).1))
  have hlU : Laid _ := hl.below hwU
  have HV := verdict_det hD0 hlU
  rw [hv.out] at HV
  replace HV := hid HV
  have hlen2 : (⟨d.l.toArray⟩ : ByteArray).size ≤ 4000 := by rw [Lib.size_mk]; exact hlen
  have HT := fun w1 hw1 => tell_det ve ⟨d.l.toArray⟩ w1 h1 h2 hlen2 hw1
  simp only [hT.out] at HT
  replace HT := hid HT
  have HB := hid (fun u (hu : IsDet W u (FD g v) ⟨g, 0, none⟩ { d with ended := true }) => bytes_any hu)
  go_enter Tryz.func31, Tryz.ntmps31
  go_wp2_with fail
  generalize (w.setCell ⟨g, 3, none⟩ (.bool true)).alloc (.cells #[.int .i64 0, .int .i64 0, .int .i64 0, .bool false, .slice none 0 0] 36) = u at *
  refine (HV.out).mono ?_
  rintro r u1 ⟨rfl, hb1⟩
  have hD1 := hD0.below hb1
  have hR1 := hR.below hb1
  have hz1 := frozen_below hb1 hR.lt hz
  have hO1 := hO.trans (Only.of (fun _ => False) hb1) (fun _ x => x.elim)
  have hl1 := hlU.below hb1
  clear hD0 hR hz hO hwU hlU HV hb1 c0 c1 c2 c3 fz
  have hD2 := hD1.alloc (.cells #[.int .i64 ve, .int .i64 vy, .bool vf] 24)
  have hR2 := hR1.alloc (.cells #[.int .i64 ve, .int .i64 vy, .bool vf] 24)
  have hb2 : Below u1.heap.size u1 (u1.alloc (.cells #[.int .i64 ve, .int .i64 vy, .bool vf] 24)) := (Below.refl _ _).alloc (Nat.le_refl _) _
  have hz2 := frozen_below hb2 hR1.lt hz1
  have hO2 := hO1.alloc (.cells #[.int .i64 ve, .int .i64 vy, .bool vf] 24)
  have hl2 := hl1.below hb2
  have hv2 := Has3.new u1 ⟨ve, vy, vf⟩ 24
  simp only at hv2
  have hne : w.heap.size ≠ u1.heap.size := Nat.ne_of_lt hR1.lt
  go_wp2_with fail
  generalize u1.alloc (.cells #[.int .i64 ve, .int .i64 vy, .bool vf] 24) = u2 at *
  generalize u1.heap.size = vb at *
  have lR := hR2.lt
  have lv := hv2.lt
  have kv := hv2
  obtain ⟨v0, v1, v2, vz⟩ := kv
  simp only at v0 v1 v2
  go_region_with (first
    | (go_at_call 15; refine (HB.out _ ?_).mono ?_; exact hD2.keep (fun _ _ => rfl); rintro r u3 ⟨rfl, rfl⟩)
    | (go_at_call 11; refine (HT.out _ ?_).mono ?_; exact hl2.drew; rintro r u4 ⟨⟨A4, c4, rfl, hO4⟩, hb4⟩; have hb4' : Below u2.heap.size u2 u4 := undrew hb4; obtain ⟨q0, q1, q2, qz⟩ := hv2.below hb4'; obtain ⟨r0, r1, r2, r3, r4⟩ := hR2.below hb4'; have hz4 := frozen_below hb4' lR hz2))
  all_goals
    go_wp2_with fail
    refine bodyPost_ret (ret_R rfl rfl ((hR2.below hb4').put5 0 ve vy vf A4 T.length c4)) rfl ⟨⟨A4, c4, rfl, ((((((hO4.set1 lR 0 _).set1 lR 1 _).set1 lR 2 _).set1 lR 3 _).set1 lR 4 _).base (Nat.le_of_lt lR))⟩, FD g v, (hD2.below hb4').keep (fun k hk => far5 _ _ _ (by have := (h.lt k hk).2; omega) _ _ _ _ _), fun k hk => Or.inl hk, (hO2.trans (Only.of (fun _ => False) hb4') (fun _ x => x.elim)).own5 (Nat.le_refl _) _ _ _ _ _⟩
end Go.Proofs.YtmdnpgcnbpppfaaGreatDoor
