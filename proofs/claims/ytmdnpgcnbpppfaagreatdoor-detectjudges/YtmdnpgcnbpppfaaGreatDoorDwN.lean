/- The statement DetectNil; what lies behind the statements' own comparisons. -/
import Derived.Test.YtmdnpgcnbpppfaaGreatDoorDePlays
import Derived.Test.YtmdnpgcnbpppfaaGreatDoorQF
namespace Go.Proofs.YtmdnpgcnbpppfaaGreatDoor
open Go.RowKit
attribute [local go_sem ↓] run_eqV run_neV fld_code fld_verdict fld_out

set_option maxRecDepth 100000 in
set_option maxHeartbeats 1000000 in
theorem detectNil_true (k : Int) (b : ByteArray) (W : World) : Calls Tryz.prog 4 #[.agg #[.int .i64 k, .string b]] W fun e w' => e = .returned (.bool true) ∧ Below W.heap.size W w' := by
  have HD := hid (fun w => do_nil k b w)
  have HS := hid (fun w => refSame_nil 1 0 0 false none none 0 0 w)
  have HB := hid (fun w => bytes_nil w)
  go_enter Tryz.func4, Tryz.ntmps4
  go_wp2_with fail
  refine (HD.out _).mono ?_
  rintro r w1 ⟨rfl, hb1⟩
  have hw1 := one_box hb1
  go_wp2_with fail
  refine (HS.out _).mono ?_
  rintro r w2 ⟨rfl, hb2⟩
  go_wp2_with fail
  refine (HB.out _).mono ?_
  rintro r w3 ⟨rfl, rfl⟩
  go_wp2_with fail
  go_ret
  exact ⟨rfl, hw1.trans (hb2.mono hw1.size)⟩
end Go.Proofs.YtmdnpgcnbpppfaaGreatDoor
