/-
  DERIVED. GIVEN WITH THE SEED: THE CARDS: each row of YtmdnpgcnbpppfaaGreatDoorRows.lean that lists a variable, with what it lists TIED to the program's text (the seventh form; the later family's looks); each row that meets fmt, with fmt's text TOLD by the authors' own Lean function (tested against real Go, not proved from fmt's source: count such statements apart). THE CARD IS WHAT COUNTS. Prove the row's statement (the work); the ties are given (YtmdnpgcnbpppfaaGreatDoorTie.lean); close each card by the builder's one call (the guide's Derived/Test/ToyasCard.lean, 'card_holds'). Laid BY PROGRAM, IN A SANDBOX (cutbox-door.mjs). By AI agents, Wed Nov 11 2026. No macro, syntax, notation, axiom, sorry.
-/
import Derived.Test.YtmdnpgcnbpppfaaGreatDoorRows
import GoSem.ClaimSeven
namespace Go.Proofs.YtmdnpgcnbpppfaaGreatDoor
namespace Rows

/-- THE TIED CARD OF 'plumblinelaw.DetectJudges'. -/
def detectJudgesCard : Claim7 := { stood := { row := detectJudgesRow, standIns := [], harness := (true, "146d71f93941d2aa52758091e9237c4677c9a1a6de2ea0ecb738c313acc39121"), looks := false }, kinds := [], alts := [], laidByText := true, laidKinds := [.data, .data, .data, .pinned], laidTests := true, laidLooks := .later }
def DetectJudgesCardSaid : Prop := Claim7.holds Tryz.pinned (.plain (OpenSpec.ofChange detectJudgesSpec)) detectJudgesCard

/-- THE TIED CARD OF 'plumblinelaw.DetectNil'. -/
def detectNilCard : Claim7 := { stood := { row := detectNilRow, standIns := [], harness := (true, "146d71f93941d2aa52758091e9237c4677c9a1a6de2ea0ecb738c313acc39121"), looks := false }, kinds := [], alts := [], laidByText := true, laidKinds := [.data, .data, .data, .pinned], laidTests := true, laidLooks := .later }
def DetectNilCardSaid : Prop := Claim7.holds Tryz.pinned (.plain (OpenSpec.ofChange detectNilSpec)) detectNilCard

/-- THE TIED CARD OF 'plumblinelaw.DetectPlays'. -/
def detectPlaysCard : Claim7 := { stood := { row := detectPlaysRow, standIns := [], harness := (true, "146d71f93941d2aa52758091e9237c4677c9a1a6de2ea0ecb738c313acc39121"), looks := false }, kinds := [], alts := [], laidByText := true, laidKinds := [.data, .data, .data, .pinned], laidTests := true, laidLooks := .later }
def DetectPlaysCardSaid : Prop := Claim7.holds Tryz.pinned (.plain (OpenSpec.ofChange detectPlaysSpec)) detectPlaysCard

/-- THE TIED CARD OF 'plumblinelaw.DetectRuns'. -/
def detectRunsCard : Claim7 := { stood := { row := detectRunsRow, standIns := [], harness := (true, "146d71f93941d2aa52758091e9237c4677c9a1a6de2ea0ecb738c313acc39121"), looks := false }, kinds := [], alts := [], laidByText := true, laidKinds := [.data, .data, .data, .pinned], laidTests := true, laidLooks := .later }
def DetectRunsCardSaid : Prop := Claim7.holds Tryz.pinned (.plain (OpenSpec.ofChange detectRunsSpec)) detectRunsCard

/-- THE SECOND FORM's CARD OF 'plumblinelaw.DetectJudges'. -/
def detectJudgesUptoCard : Claim7 := { stood := { row := detectJudgesUptoRow, standIns := [], harness := (true, "146d71f93941d2aa52758091e9237c4677c9a1a6de2ea0ecb738c313acc39121"), looks := false }, kinds := [], alts := [], laidByText := true, laidKinds := [.data, .data, .data, .pinned], laidTests := true, laidLooks := .later }
def DetectJudgesUptoCardSaid : Prop := Claim7.holds Tryz.pinned (.plain (OpenSpec.upto detectJudgesSpec)) detectJudgesUptoCard

/-- THE SECOND FORM's CARD OF 'plumblinelaw.DetectNil'. -/
def detectNilUptoCard : Claim7 := { stood := { row := detectNilUptoRow, standIns := [], harness := (true, "146d71f93941d2aa52758091e9237c4677c9a1a6de2ea0ecb738c313acc39121"), looks := false }, kinds := [], alts := [], laidByText := true, laidKinds := [.data, .data, .data, .pinned], laidTests := true, laidLooks := .later }
def DetectNilUptoCardSaid : Prop := Claim7.holds Tryz.pinned (.plain (OpenSpec.upto detectNilSpec)) detectNilUptoCard

/-- THE SECOND FORM's CARD OF 'plumblinelaw.DetectPlays'. -/
def detectPlaysUptoCard : Claim7 := { stood := { row := detectPlaysUptoRow, standIns := [], harness := (true, "146d71f93941d2aa52758091e9237c4677c9a1a6de2ea0ecb738c313acc39121"), looks := false }, kinds := [], alts := [], laidByText := true, laidKinds := [.data, .data, .data, .pinned], laidTests := true, laidLooks := .later }
def DetectPlaysUptoCardSaid : Prop := Claim7.holds Tryz.pinned (.plain (OpenSpec.upto detectPlaysSpec)) detectPlaysUptoCard

/-- THE SECOND FORM's CARD OF 'plumblinelaw.DetectRuns'. -/
def detectRunsUptoCard : Claim7 := { stood := { row := detectRunsUptoRow, standIns := [], harness := (true, "146d71f93941d2aa52758091e9237c4677c9a1a6de2ea0ecb738c313acc39121"), looks := false }, kinds := [], alts := [], laidByText := true, laidKinds := [.data, .data, .data, .pinned], laidTests := true, laidLooks := .later }
def DetectRunsUptoCardSaid : Prop := Claim7.holds Tryz.pinned (.plain (OpenSpec.upto detectRunsSpec)) detectRunsUptoCard
end Rows
end Go.Proofs.YtmdnpgcnbpppfaaGreatDoor
