/-
  NARROWER THAN 'FOR EVERY INPUT', by the rows' own cells (each row's printed sentence says how): DetectJudges: laid · DetectNil: laid · DetectPlays: laid · DetectRuns: laid.
  DERIVED. THE GIVEN ROWS OF THIS SEAT. 4 by the template 'for every input the law returns true; each argument reads behind the call as it read before'; 0 by the template 'total and deterministic' (their statements: YtmdnpgcnbpppfaaGreatDoorTotals.lean).
  GIVEN WITH THE SEED: the statements are not yours to turn. If you find one false, say at which input.
  Laid BY PROGRAM, IN A SANDBOX (cutbox-rows.mjs): the forced cells as the released guide's own fill.sh prints them over the translation 8b57739709a30af4… (all of the seat's roots in one cut). By AI agents, Wed Nov 11 2026. No macro, syntax, notation, axiom, sorry.
-/
import Derived.Test.YtmdnpgcnbpppfaaGreatDoorChecked
import GoSem.PinnedTables
import GoSem.Claim
import GoSem.ClaimJoined
import GoSem.ClaimMapViews
import Derived.JoinedTies
import Derived.KernelRfl
namespace Go.Proofs.YtmdnpgcnbpppfaaGreatDoor
/- THE CELL 'sum', in the pinned program and in every row, IS THE sha256 OF THE DUMP (.gsa) THAT YtmdnpgcnbpppfaaGreatDoorProg.lean LOADS. Nothing in Lean hashes anything: it is a label: what it is worth is what the hold of that sum in a sandbox is worth. -/
noncomputable def Tryz.pinned : Pinned := { name := "ytmdnpgcnbpppfaagreatdoor", sum := "8b57739709a30af45d05a2484b875f1069e56cc29fb5e6670a9d4be7ebb1d0ff", checked := Tryz.checked }
namespace Rows
def none {H : Type} : Left H := { results := [], args := [] }

/- WHAT THE LISTED PACKAGE-LEVEL VARIABLES READ AS WHEN THE CALL BEGINS. Each datum BY PROGRAM (the guide's laid-datum.mjs) off the statement by which the dump's own 'gosem.cut.vars' lays the variable. In a bare row this is a premise. The card (YtmdnpgcnbpppfaaGreatDoorCards.lean) ties it to the program's text. -/
def laid_unicode_utf8_acceptRanges {H : Type} : DataW H := .agg [.agg [.lit (.int .u8 128), .lit (.int .u8 191)], .agg [.lit (.int .u8 160), .lit (.int .u8 191)], .agg [.lit (.int .u8 128), .lit (.int .u8 159)], .agg [.lit (.int .u8 144), .lit (.int .u8 191)], .agg [.lit (.int .u8 128), .lit (.int .u8 143)], .agg [.lit (.int .u8 0), .lit (.int .u8 0)], .agg [.lit (.int .u8 0), .lit (.int .u8 0)], .agg [.lit (.int .u8 0), .lit (.int .u8 0)], .agg [.lit (.int .u8 0), .lit (.int .u8 0)], .agg [.lit (.int .u8 0), .lit (.int .u8 0)], .agg [.lit (.int .u8 0), .lit (.int .u8 0)], .agg [.lit (.int .u8 0), .lit (.int .u8 0)], .agg [.lit (.int .u8 0), .lit (.int .u8 0)], .agg [.lit (.int .u8 0), .lit (.int .u8 0)], .agg [.lit (.int .u8 0), .lit (.int .u8 0)], .agg [.lit (.int .u8 0), .lit (.int .u8 0)]]
def laid_plumbline_sniff_marks {H : Type} : DataW H := .agg [.lit (.string [239, 187, 191]), .lit (.string [255, 254]), .lit (.string [254, 255])]
def laid_plumbline_sniff_marked {H : Type} : DataW H := .agg [.lit (.int .i64 1), .lit (.int .i64 5), .lit (.int .i64 6)]
/-- One of Go's own tables, pinned by name: the form's constant. -/
def laid_unicode_utf8_first : DataW Unit := Go.Pinned.utf8First

/-- 'plumblinelaw.DetectJudges': WHATEVER THE INPUT: true; the input reads as it did. -/
def detectJudgesSpec : ChangeSpec := { name := "detectJudges", fn := fun _ => fun
  | [d1, d2, d3] => { results := [.lit (.bool true)], args := [d1, d2, d3] }
  | _ => none }
def detectJudgesRow : OpenClaim := { program := "ytmdnpgcnbpppfaagreatdoor", sum := "8b57739709a30af45d05a2484b875f1069e56cc29fb5e6670a9d4be7ebb1d0ff", func := "plumbline/plumblinelaw.DetectJudges", spec := "detectJudges", inPlace := ["internal/bytealg.IndexByteString", "internal/bytealg.IndexString", "internal/bytealg.CountString"], unfollowed := true, recurses := true, named := ["unicode/utf8.first", "unicode/utf8.acceptRanges", "plumbline/sniff.marks", "plumbline/sniff.marked", "internal/bytealg.MaxLen"], apart := false, laid := [("unicode/utf8.acceptRanges", laid_unicode_utf8_acceptRanges), ("plumbline/sniff.marks", laid_plumbline_sniff_marks), ("plumbline/sniff.marked", laid_plumbline_sniff_marked), ("unicode/utf8.first", laid_unicode_utf8_first)] }
def DetectJudgesSaid : Prop := detectJudgesRow.holds Tryz.pinned (OpenSpec.ofChange detectJudgesSpec)

/-- ITS FALSE NEIGHBOUR: 'it returns false'. Refute it at one input. -/
def detectJudgesWrong : ChangeSpec := { name := "detectJudges", fn := fun _ => fun
  | [d1, d2, d3] => { results := [.lit (.bool false)], args := [d1, d2, d3] }
  | _ => none }
def DetectJudgesWrongFalsely : Prop := detectJudgesRow.holds Tryz.pinned (OpenSpec.ofChange detectJudgesWrong)

/-- 'plumblinelaw.DetectNil': WHATEVER THE INPUT: true; the input reads as it did. -/
def detectNilSpec : ChangeSpec := { name := "detectNil", fn := fun _ => fun
  | [d] => { results := [.lit (.bool true)], args := [d] }
  | _ => none }
def detectNilRow : OpenClaim := { program := "ytmdnpgcnbpppfaagreatdoor", sum := "8b57739709a30af45d05a2484b875f1069e56cc29fb5e6670a9d4be7ebb1d0ff", func := "plumbline/plumblinelaw.DetectNil", spec := "detectNil", inPlace := ["internal/bytealg.IndexByteString", "internal/bytealg.IndexString"], named := ["plumbline/sniff.marks", "plumbline/sniff.marked", "unicode/utf8.first", "unicode/utf8.acceptRanges", "internal/bytealg.MaxLen"], apart := false, laid := [("unicode/utf8.acceptRanges", laid_unicode_utf8_acceptRanges), ("plumbline/sniff.marks", laid_plumbline_sniff_marks), ("plumbline/sniff.marked", laid_plumbline_sniff_marked), ("unicode/utf8.first", laid_unicode_utf8_first)] }
def DetectNilSaid : Prop := detectNilRow.holds Tryz.pinned (OpenSpec.ofChange detectNilSpec)

/-- ITS FALSE NEIGHBOUR: 'it returns false'. Refute it at one input. -/
def detectNilWrong : ChangeSpec := { name := "detectNil", fn := fun _ => fun
  | [d] => { results := [.lit (.bool false)], args := [d] }
  | _ => none }
def DetectNilWrongFalsely : Prop := detectNilRow.holds Tryz.pinned (OpenSpec.ofChange detectNilWrong)

/-- 'plumblinelaw.DetectPlays': WHATEVER THE INPUT: true; the input reads as it did. -/
def detectPlaysSpec : ChangeSpec := { name := "detectPlays", fn := fun _ => fun
  | [d1, d2] => { results := [.lit (.bool true)], args := [d1, d2] }
  | _ => none }
def detectPlaysRow : OpenClaim := { program := "ytmdnpgcnbpppfaagreatdoor", sum := "8b57739709a30af45d05a2484b875f1069e56cc29fb5e6670a9d4be7ebb1d0ff", func := "plumbline/plumblinelaw.DetectPlays", spec := "detectPlays", inPlace := ["internal/bytealg.IndexByteString", "internal/bytealg.IndexString", "internal/bytealg.CountString"], unfollowed := true, recurses := true, named := ["unicode/utf8.first", "unicode/utf8.acceptRanges", "internal/bytealg.MaxLen", "plumbline/sniff.marks", "plumbline/sniff.marked"], apart := false, laid := [("unicode/utf8.acceptRanges", laid_unicode_utf8_acceptRanges), ("plumbline/sniff.marks", laid_plumbline_sniff_marks), ("plumbline/sniff.marked", laid_plumbline_sniff_marked), ("unicode/utf8.first", laid_unicode_utf8_first)] }
def DetectPlaysSaid : Prop := detectPlaysRow.holds Tryz.pinned (OpenSpec.ofChange detectPlaysSpec)

/-- ITS FALSE NEIGHBOUR: 'it returns false'. Refute it at one input. -/
def detectPlaysWrong : ChangeSpec := { name := "detectPlays", fn := fun _ => fun
  | [d1, d2] => { results := [.lit (.bool false)], args := [d1, d2] }
  | _ => none }
def DetectPlaysWrongFalsely : Prop := detectPlaysRow.holds Tryz.pinned (OpenSpec.ofChange detectPlaysWrong)

/-- 'plumblinelaw.DetectRuns': WHATEVER THE INPUT: true; the input reads as it did. -/
def detectRunsSpec : ChangeSpec := { name := "detectRuns", fn := fun _ => fun
  | [d1, d2] => { results := [.lit (.bool true)], args := [d1, d2] }
  | _ => none }
def detectRunsRow : OpenClaim := { program := "ytmdnpgcnbpppfaagreatdoor", sum := "8b57739709a30af45d05a2484b875f1069e56cc29fb5e6670a9d4be7ebb1d0ff", func := "plumbline/plumblinelaw.DetectRuns", spec := "detectRuns", inPlace := ["internal/bytealg.IndexByteString", "internal/bytealg.IndexString", "internal/bytealg.CountString"], unfollowed := true, recurses := true, named := ["unicode/utf8.first", "unicode/utf8.acceptRanges", "plumbline/sniff.marks", "plumbline/sniff.marked", "internal/bytealg.MaxLen"], apart := false, laid := [("unicode/utf8.acceptRanges", laid_unicode_utf8_acceptRanges), ("plumbline/sniff.marks", laid_plumbline_sniff_marks), ("plumbline/sniff.marked", laid_plumbline_sniff_marked), ("unicode/utf8.first", laid_unicode_utf8_first)] }
def DetectRunsSaid : Prop := detectRunsRow.holds Tryz.pinned (OpenSpec.ofChange detectRunsSpec)

/-- ITS FALSE NEIGHBOUR: 'it returns false'. Refute it at one input. -/
def detectRunsWrong : ChangeSpec := { name := "detectRuns", fn := fun _ => fun
  | [d1, d2] => { results := [.lit (.bool false)], args := [d1, d2] }
  | _ => none }
def DetectRunsWrongFalsely : Prop := detectRunsRow.holds Tryz.pinned (OpenSpec.ofChange detectRunsWrong)

/- THE SECOND FORM. 'bulk': how many values and letters a reading holds, each counted each time it is reached (what is shared counts as often as it is met; a slice's spare places count too). A statement '..UptoSaid' is the law's where the arguments, and the package variables that the reading takes, are together of bulk at most 1048576: NARROWER than '..Said'. Prove '..Said' where nothing that the law and all that it calls make is longer than what came in: it says more and counts as full. Else prove '..UptoSaid'. A law counts once. -/
mutual
def uptoBulk {H : Type} : DataW H → Nat
  | .lit (.string bytes) => bytes.length + 1
  | .lit _ => 1
  | .nil => 1
  | .ptr d => uptoBulk d + 1
  | .slice elems spare => uptoBulkAll elems + uptoBulkAll spare + 1
  | .agg parts => uptoBulkAll parts + 1
  | .iface _ d => uptoBulk d + 1
  | .map entries => uptoBulkEntries entries + 1
  | .held _ => 1
def uptoBulkAll {H : Type} : List (DataW H) → Nat
  | [] => 0
  | d :: r => uptoBulk d + uptoBulkAll r
def uptoBulkEntries {H : Type} : List (Lit × DataW H) → Nat
  | [] => 0
  | x :: r => uptoBulkEntry x + uptoBulkEntries r
def uptoBulkEntry {H : Type} : Lit × DataW H → Nat
  | (.string bytes, d) => bytes.length + uptoBulk d + 1
  | (_, d) => uptoBulk d + 1
 end
def uptoSmall : (H : Type) → List (DataW H) → Bool := fun _ ds => decide (uptoBulkAll ds ≤ 1048576)
def OpenSpec.upto (s : _root_.Go.ChangeSpec) : _root_.Go.OpenSpec := { _root_.Go.OpenSpec.ofChange s with cond := some uptoSmall }

/-- 'plumblinelaw.DetectJudges', WHERE WHAT IT READS IS OF BULK AT MOST 1048576: true; the input reads as it did. -/
def detectJudgesUptoRow : OpenClaim := { program := "ytmdnpgcnbpppfaagreatdoor", sum := "8b57739709a30af45d05a2484b875f1069e56cc29fb5e6670a9d4be7ebb1d0ff", func := "plumbline/plumblinelaw.DetectJudges", spec := "detectJudges", inPlace := ["internal/bytealg.IndexByteString", "internal/bytealg.IndexString", "internal/bytealg.CountString"], unfollowed := true, recurses := true, named := ["unicode/utf8.first", "unicode/utf8.acceptRanges", "plumbline/sniff.marks", "plumbline/sniff.marked", "internal/bytealg.MaxLen"], apart := false, laid := [("unicode/utf8.acceptRanges", laid_unicode_utf8_acceptRanges), ("plumbline/sniff.marks", laid_plumbline_sniff_marks), ("plumbline/sniff.marked", laid_plumbline_sniff_marked), ("unicode/utf8.first", laid_unicode_utf8_first)], narrowed := true }
def DetectJudgesUptoSaid : Prop := detectJudgesUptoRow.holds Tryz.pinned (OpenSpec.upto detectJudgesSpec)

/-- 'plumblinelaw.DetectNil', WHERE WHAT IT READS IS OF BULK AT MOST 1048576: true; the input reads as it did. -/
def detectNilUptoRow : OpenClaim := { program := "ytmdnpgcnbpppfaagreatdoor", sum := "8b57739709a30af45d05a2484b875f1069e56cc29fb5e6670a9d4be7ebb1d0ff", func := "plumbline/plumblinelaw.DetectNil", spec := "detectNil", inPlace := ["internal/bytealg.IndexByteString", "internal/bytealg.IndexString"], named := ["plumbline/sniff.marks", "plumbline/sniff.marked", "unicode/utf8.first", "unicode/utf8.acceptRanges", "internal/bytealg.MaxLen"], apart := false, laid := [("unicode/utf8.acceptRanges", laid_unicode_utf8_acceptRanges), ("plumbline/sniff.marks", laid_plumbline_sniff_marks), ("plumbline/sniff.marked", laid_plumbline_sniff_marked), ("unicode/utf8.first", laid_unicode_utf8_first)], narrowed := true }
def DetectNilUptoSaid : Prop := detectNilUptoRow.holds Tryz.pinned (OpenSpec.upto detectNilSpec)

/-- 'plumblinelaw.DetectPlays', WHERE WHAT IT READS IS OF BULK AT MOST 1048576: true; the input reads as it did. -/
def detectPlaysUptoRow : OpenClaim := { program := "ytmdnpgcnbpppfaagreatdoor", sum := "8b57739709a30af45d05a2484b875f1069e56cc29fb5e6670a9d4be7ebb1d0ff", func := "plumbline/plumblinelaw.DetectPlays", spec := "detectPlays", inPlace := ["internal/bytealg.IndexByteString", "internal/bytealg.IndexString", "internal/bytealg.CountString"], unfollowed := true, recurses := true, named := ["unicode/utf8.first", "unicode/utf8.acceptRanges", "internal/bytealg.MaxLen", "plumbline/sniff.marks", "plumbline/sniff.marked"], apart := false, laid := [("unicode/utf8.acceptRanges", laid_unicode_utf8_acceptRanges), ("plumbline/sniff.marks", laid_plumbline_sniff_marks), ("plumbline/sniff.marked", laid_plumbline_sniff_marked), ("unicode/utf8.first", laid_unicode_utf8_first)], narrowed := true }
def DetectPlaysUptoSaid : Prop := detectPlaysUptoRow.holds Tryz.pinned (OpenSpec.upto detectPlaysSpec)

/-- 'plumblinelaw.DetectRuns', WHERE WHAT IT READS IS OF BULK AT MOST 1048576: true; the input reads as it did. -/
def detectRunsUptoRow : OpenClaim := { program := "ytmdnpgcnbpppfaagreatdoor", sum := "8b57739709a30af45d05a2484b875f1069e56cc29fb5e6670a9d4be7ebb1d0ff", func := "plumbline/plumblinelaw.DetectRuns", spec := "detectRuns", inPlace := ["internal/bytealg.IndexByteString", "internal/bytealg.IndexString", "internal/bytealg.CountString"], unfollowed := true, recurses := true, named := ["unicode/utf8.first", "unicode/utf8.acceptRanges", "plumbline/sniff.marks", "plumbline/sniff.marked", "internal/bytealg.MaxLen"], apart := false, laid := [("unicode/utf8.acceptRanges", laid_unicode_utf8_acceptRanges), ("plumbline/sniff.marks", laid_plumbline_sniff_marks), ("plumbline/sniff.marked", laid_plumbline_sniff_marked), ("unicode/utf8.first", laid_unicode_utf8_first)], narrowed := true }
def DetectRunsUptoSaid : Prop := detectRunsUptoRow.holds Tryz.pinned (OpenSpec.upto detectRunsSpec)

end Rows
end Go.Proofs.YtmdnpgcnbpppfaaGreatDoor
