/-
  NARROWER THAN 'FOR EVERY INPUT', by the rows' own cells (each row's printed sentence says how): TopWhole: laid · TopParts: laid · TopFinal: laid · TopSure: laid · TopScored: laid · TopMarks: laid · TopEnded: laid · TopRefused: laid · TopRuns: laid · TopEnds: laid.
  DERIVED. THE GIVEN ROWS OF THIS SEAT. 10 by the template 'for every input the law returns true; each argument reads behind the call as it read before'; 0 by the template 'total and deterministic' (their statements: YtgfndlbmolnblaaGreatDoorTotals.lean).
  GIVEN WITH THE SEED: the statements are not yours to turn. If you find one false, say at which input.
  Laid BY PROGRAM, IN A SANDBOX (cutbox-rows.mjs): the forced cells as the released guide's own fill.sh prints them over the translation fe68831ff02fde6d… (all of the seat's roots in one cut). By AI agents, Wed Nov 11 2026. No macro, syntax, notation, axiom, sorry.
-/
import Derived.Test.YtgfndlbmolnblaaGreatDoorChecked
import GoSem.PinnedTables
import GoSem.Claim
import GoSem.ClaimJoined
import GoSem.ClaimMapViews
import Derived.JoinedTies
import Derived.KernelRfl
namespace Go.Proofs.YtgfndlbmolnblaaGreatDoor
/- THE CELL 'sum', in the pinned program and in every row, IS THE sha256 OF THE DUMP (.gsa) THAT YtgfndlbmolnblaaGreatDoorProg.lean LOADS. Nothing in Lean hashes anything: it is a label: what it is worth is what the hold of that sum in a sandbox is worth. -/
noncomputable def Tryz.pinned : Pinned := { name := "ytgfndlbmolnblaagreatdoor", sum := "fe68831ff02fde6d658bc3a1120ab1e4d647b4d6e128001618970d501abfc230", checked := Tryz.checked }
namespace Rows
def none {H : Type} : Left H := { results := [], args := [] }

/- WHAT THE LISTED PACKAGE-LEVEL VARIABLES READ AS WHEN THE CALL BEGINS. Each datum BY PROGRAM (the guide's laid-datum.mjs) off the statement by which the dump's own 'gosem.cut.vars' lays the variable. In a bare row this is a premise. The card (YtgfndlbmolnblaaGreatDoorCards.lean) ties it to the program's text. -/
def laid_unicode_utf8_acceptRanges {H : Type} : DataW H := .agg [.agg [.lit (.int .u8 128), .lit (.int .u8 191)], .agg [.lit (.int .u8 160), .lit (.int .u8 191)], .agg [.lit (.int .u8 128), .lit (.int .u8 159)], .agg [.lit (.int .u8 144), .lit (.int .u8 191)], .agg [.lit (.int .u8 128), .lit (.int .u8 143)], .agg [.lit (.int .u8 0), .lit (.int .u8 0)], .agg [.lit (.int .u8 0), .lit (.int .u8 0)], .agg [.lit (.int .u8 0), .lit (.int .u8 0)], .agg [.lit (.int .u8 0), .lit (.int .u8 0)], .agg [.lit (.int .u8 0), .lit (.int .u8 0)], .agg [.lit (.int .u8 0), .lit (.int .u8 0)], .agg [.lit (.int .u8 0), .lit (.int .u8 0)], .agg [.lit (.int .u8 0), .lit (.int .u8 0)], .agg [.lit (.int .u8 0), .lit (.int .u8 0)], .agg [.lit (.int .u8 0), .lit (.int .u8 0)], .agg [.lit (.int .u8 0), .lit (.int .u8 0)]]
def laid_plumbline_sniff_marks {H : Type} : DataW H := .agg [.lit (.string [239, 187, 191]), .lit (.string [255, 254]), .lit (.string [254, 255])]
def laid_plumbline_sniff_marked {H : Type} : DataW H := .agg [.lit (.int .i64 1), .lit (.int .i64 5), .lit (.int .i64 6)]
/-- One of Go's own tables, pinned by name: the form's constant. -/
def laid_unicode_utf8_first : DataW Unit := Go.Pinned.utf8First

/-- 'plumblinetop.TopWhole': WHATEVER THE INPUT: true; the input reads as it did. -/
def topWholeSpec : ChangeSpec := { name := "topWhole", fn := fun _ => fun
  | [d1, d2] => { results := [.lit (.bool true)], args := [d1, d2] }
  | _ => none }
def topWholeRow : OpenClaim := { program := "ytgfndlbmolnblaagreatdoor", sum := "fe68831ff02fde6d658bc3a1120ab1e4d647b4d6e128001618970d501abfc230", func := "plumbline/plumblinetop.TopWhole", spec := "topWhole", inPlace := ["internal/bytealg.IndexByteString", "internal/bytealg.IndexString"], unfollowed := true, recurses := true, named := ["unicode/utf8.first", "unicode/utf8.acceptRanges", "plumbline/sniff.marks", "plumbline/sniff.marked", "internal/bytealg.MaxLen"], apart := false, laid := [("unicode/utf8.acceptRanges", laid_unicode_utf8_acceptRanges), ("plumbline/sniff.marks", laid_plumbline_sniff_marks), ("plumbline/sniff.marked", laid_plumbline_sniff_marked), ("unicode/utf8.first", laid_unicode_utf8_first)] }
def TopWholeSaid : Prop := topWholeRow.holds Tryz.pinned (OpenSpec.ofChange topWholeSpec)

/-- ITS FALSE NEIGHBOUR: 'it returns false'. Refute it at one input. -/
def topWholeWrong : ChangeSpec := { name := "topWhole", fn := fun _ => fun
  | [d1, d2] => { results := [.lit (.bool false)], args := [d1, d2] }
  | _ => none }
def TopWholeWrongFalsely : Prop := topWholeRow.holds Tryz.pinned (OpenSpec.ofChange topWholeWrong)

/-- 'plumblinetop.TopParts': WHATEVER THE INPUT: true; the input reads as it did. -/
def topPartsSpec : ChangeSpec := { name := "topParts", fn := fun _ => fun
  | [d1, d2, d3] => { results := [.lit (.bool true)], args := [d1, d2, d3] }
  | _ => none }
def topPartsRow : OpenClaim := { program := "ytgfndlbmolnblaagreatdoor", sum := "fe68831ff02fde6d658bc3a1120ab1e4d647b4d6e128001618970d501abfc230", func := "plumbline/plumblinetop.TopParts", spec := "topParts", inPlace := ["internal/bytealg.IndexByteString", "internal/bytealg.IndexString"], named := ["unicode/utf8.first", "unicode/utf8.acceptRanges", "plumbline/sniff.marks", "plumbline/sniff.marked", "internal/bytealg.MaxLen"], apart := false, laid := [("unicode/utf8.acceptRanges", laid_unicode_utf8_acceptRanges), ("plumbline/sniff.marks", laid_plumbline_sniff_marks), ("plumbline/sniff.marked", laid_plumbline_sniff_marked), ("unicode/utf8.first", laid_unicode_utf8_first)] }
def TopPartsSaid : Prop := topPartsRow.holds Tryz.pinned (OpenSpec.ofChange topPartsSpec)

/-- ITS FALSE NEIGHBOUR: 'it returns false'. Refute it at one input. -/
def topPartsWrong : ChangeSpec := { name := "topParts", fn := fun _ => fun
  | [d1, d2, d3] => { results := [.lit (.bool false)], args := [d1, d2, d3] }
  | _ => none }
def TopPartsWrongFalsely : Prop := topPartsRow.holds Tryz.pinned (OpenSpec.ofChange topPartsWrong)

/-- 'plumblinetop.TopFinal': WHATEVER THE INPUT: true; the input reads as it did. -/
def topFinalSpec : ChangeSpec := { name := "topFinal", fn := fun _ => fun
  | [d1, d2] => { results := [.lit (.bool true)], args := [d1, d2] }
  | _ => none }
def topFinalRow : OpenClaim := { program := "ytgfndlbmolnblaagreatdoor", sum := "fe68831ff02fde6d658bc3a1120ab1e4d647b4d6e128001618970d501abfc230", func := "plumbline/plumblinetop.TopFinal", spec := "topFinal", inPlace := ["internal/bytealg.IndexByteString", "internal/bytealg.IndexString"], unfollowed := true, recurses := true, named := ["unicode/utf8.first", "unicode/utf8.acceptRanges", "plumbline/sniff.marks", "plumbline/sniff.marked", "internal/bytealg.MaxLen"], apart := false, laid := [("unicode/utf8.acceptRanges", laid_unicode_utf8_acceptRanges), ("plumbline/sniff.marks", laid_plumbline_sniff_marks), ("plumbline/sniff.marked", laid_plumbline_sniff_marked), ("unicode/utf8.first", laid_unicode_utf8_first)] }
def TopFinalSaid : Prop := topFinalRow.holds Tryz.pinned (OpenSpec.ofChange topFinalSpec)

/-- ITS FALSE NEIGHBOUR: 'it returns false'. Refute it at one input. -/
def topFinalWrong : ChangeSpec := { name := "topFinal", fn := fun _ => fun
  | [d1, d2] => { results := [.lit (.bool false)], args := [d1, d2] }
  | _ => none }
def TopFinalWrongFalsely : Prop := topFinalRow.holds Tryz.pinned (OpenSpec.ofChange topFinalWrong)

/-- 'plumblinetop.TopSure': WHATEVER THE INPUT: true; the input reads as it did. -/
def topSureSpec : ChangeSpec := { name := "topSure", fn := fun _ => fun
  | [d1, d2, d3] => { results := [.lit (.bool true)], args := [d1, d2, d3] }
  | _ => none }
def topSureRow : OpenClaim := { program := "ytgfndlbmolnblaagreatdoor", sum := "fe68831ff02fde6d658bc3a1120ab1e4d647b4d6e128001618970d501abfc230", func := "plumbline/plumblinetop.TopSure", spec := "topSure", inPlace := ["internal/bytealg.IndexByteString", "internal/bytealg.IndexString"], named := ["unicode/utf8.first", "unicode/utf8.acceptRanges", "plumbline/sniff.marks", "plumbline/sniff.marked", "internal/bytealg.MaxLen"], apart := false, laid := [("unicode/utf8.acceptRanges", laid_unicode_utf8_acceptRanges), ("plumbline/sniff.marks", laid_plumbline_sniff_marks), ("plumbline/sniff.marked", laid_plumbline_sniff_marked), ("unicode/utf8.first", laid_unicode_utf8_first)] }
def TopSureSaid : Prop := topSureRow.holds Tryz.pinned (OpenSpec.ofChange topSureSpec)

/-- ITS FALSE NEIGHBOUR: 'it returns false'. Refute it at one input. -/
def topSureWrong : ChangeSpec := { name := "topSure", fn := fun _ => fun
  | [d1, d2, d3] => { results := [.lit (.bool false)], args := [d1, d2, d3] }
  | _ => none }
def TopSureWrongFalsely : Prop := topSureRow.holds Tryz.pinned (OpenSpec.ofChange topSureWrong)

/-- 'plumblinetop.TopScored': WHATEVER THE INPUT: true; the input reads as it did. -/
def topScoredSpec : ChangeSpec := { name := "topScored", fn := fun _ => fun
  | [d1, d2] => { results := [.lit (.bool true)], args := [d1, d2] }
  | _ => none }
def topScoredRow : OpenClaim := { program := "ytgfndlbmolnblaagreatdoor", sum := "fe68831ff02fde6d658bc3a1120ab1e4d647b4d6e128001618970d501abfc230", func := "plumbline/plumblinetop.TopScored", spec := "topScored", inPlace := ["internal/bytealg.IndexByteString", "internal/bytealg.IndexString"], unfollowed := true, recurses := true, named := ["unicode/utf8.first", "unicode/utf8.acceptRanges", "plumbline/sniff.marks", "plumbline/sniff.marked", "internal/bytealg.MaxLen"], apart := false, laid := [("unicode/utf8.acceptRanges", laid_unicode_utf8_acceptRanges), ("plumbline/sniff.marks", laid_plumbline_sniff_marks), ("plumbline/sniff.marked", laid_plumbline_sniff_marked), ("unicode/utf8.first", laid_unicode_utf8_first)] }
def TopScoredSaid : Prop := topScoredRow.holds Tryz.pinned (OpenSpec.ofChange topScoredSpec)

/-- ITS FALSE NEIGHBOUR: 'it returns false'. Refute it at one input. -/
def topScoredWrong : ChangeSpec := { name := "topScored", fn := fun _ => fun
  | [d1, d2] => { results := [.lit (.bool false)], args := [d1, d2] }
  | _ => none }
def TopScoredWrongFalsely : Prop := topScoredRow.holds Tryz.pinned (OpenSpec.ofChange topScoredWrong)

/-- 'plumblinetop.TopMarks': WHATEVER THE INPUT: true; the input reads as it did. -/
def topMarksSpec : ChangeSpec := { name := "topMarks", fn := fun _ => fun
  | [d1, d2, d3] => { results := [.lit (.bool true)], args := [d1, d2, d3] }
  | _ => none }
def topMarksRow : OpenClaim := { program := "ytgfndlbmolnblaagreatdoor", sum := "fe68831ff02fde6d658bc3a1120ab1e4d647b4d6e128001618970d501abfc230", func := "plumbline/plumblinetop.TopMarks", spec := "topMarks", inPlace := ["internal/bytealg.IndexByteString", "internal/bytealg.IndexString"], named := ["unicode/utf8.first", "unicode/utf8.acceptRanges", "plumbline/sniff.marks", "plumbline/sniff.marked", "internal/bytealg.MaxLen"], apart := false, laid := [("unicode/utf8.acceptRanges", laid_unicode_utf8_acceptRanges), ("plumbline/sniff.marks", laid_plumbline_sniff_marks), ("plumbline/sniff.marked", laid_plumbline_sniff_marked), ("unicode/utf8.first", laid_unicode_utf8_first)] }
def TopMarksSaid : Prop := topMarksRow.holds Tryz.pinned (OpenSpec.ofChange topMarksSpec)

/-- ITS FALSE NEIGHBOUR: 'it returns false'. Refute it at one input. -/
def topMarksWrong : ChangeSpec := { name := "topMarks", fn := fun _ => fun
  | [d1, d2, d3] => { results := [.lit (.bool false)], args := [d1, d2, d3] }
  | _ => none }
def TopMarksWrongFalsely : Prop := topMarksRow.holds Tryz.pinned (OpenSpec.ofChange topMarksWrong)

/-- 'plumblinetop.TopEnded': WHATEVER THE INPUT: true; the input reads as it did. -/
def topEndedSpec : ChangeSpec := { name := "topEnded", fn := fun _ => fun
  | [d1, d2, d3] => { results := [.lit (.bool true)], args := [d1, d2, d3] }
  | _ => none }
def topEndedRow : OpenClaim := { program := "ytgfndlbmolnblaagreatdoor", sum := "fe68831ff02fde6d658bc3a1120ab1e4d647b4d6e128001618970d501abfc230", func := "plumbline/plumblinetop.TopEnded", spec := "topEnded", inPlace := ["internal/bytealg.IndexByteString", "internal/bytealg.IndexString"], unfollowed := true, recurses := true, named := ["unicode/utf8.first", "unicode/utf8.acceptRanges", "plumbline/sniff.marks", "plumbline/sniff.marked", "internal/bytealg.MaxLen"], apart := false, laid := [("unicode/utf8.acceptRanges", laid_unicode_utf8_acceptRanges), ("plumbline/sniff.marks", laid_plumbline_sniff_marks), ("plumbline/sniff.marked", laid_plumbline_sniff_marked), ("unicode/utf8.first", laid_unicode_utf8_first)] }
def TopEndedSaid : Prop := topEndedRow.holds Tryz.pinned (OpenSpec.ofChange topEndedSpec)

/-- ITS FALSE NEIGHBOUR: 'it returns false'. Refute it at one input. -/
def topEndedWrong : ChangeSpec := { name := "topEnded", fn := fun _ => fun
  | [d1, d2, d3] => { results := [.lit (.bool false)], args := [d1, d2, d3] }
  | _ => none }
def TopEndedWrongFalsely : Prop := topEndedRow.holds Tryz.pinned (OpenSpec.ofChange topEndedWrong)

/-- 'plumblinetop.TopRefused': WHATEVER THE INPUT: true; the input reads as it did. -/
def topRefusedSpec : ChangeSpec := { name := "topRefused", fn := fun _ => fun
  | [d1, d2, d3] => { results := [.lit (.bool true)], args := [d1, d2, d3] }
  | _ => none }
def topRefusedRow : OpenClaim := { program := "ytgfndlbmolnblaagreatdoor", sum := "fe68831ff02fde6d658bc3a1120ab1e4d647b4d6e128001618970d501abfc230", func := "plumbline/plumblinetop.TopRefused", spec := "topRefused", inPlace := ["internal/bytealg.IndexByteString", "internal/bytealg.IndexString"], unfollowed := true, recurses := true, named := ["unicode/utf8.first", "unicode/utf8.acceptRanges", "plumbline/sniff.marks", "plumbline/sniff.marked", "internal/bytealg.MaxLen"], apart := false, laid := [("unicode/utf8.acceptRanges", laid_unicode_utf8_acceptRanges), ("plumbline/sniff.marks", laid_plumbline_sniff_marks), ("plumbline/sniff.marked", laid_plumbline_sniff_marked), ("unicode/utf8.first", laid_unicode_utf8_first)] }
def TopRefusedSaid : Prop := topRefusedRow.holds Tryz.pinned (OpenSpec.ofChange topRefusedSpec)

/-- ITS FALSE NEIGHBOUR: 'it returns false'. Refute it at one input. -/
def topRefusedWrong : ChangeSpec := { name := "topRefused", fn := fun _ => fun
  | [d1, d2, d3] => { results := [.lit (.bool false)], args := [d1, d2, d3] }
  | _ => none }
def TopRefusedWrongFalsely : Prop := topRefusedRow.holds Tryz.pinned (OpenSpec.ofChange topRefusedWrong)

/-- 'plumblinetop.TopRuns': WHATEVER THE INPUT: true; the input reads as it did. -/
def topRunsSpec : ChangeSpec := { name := "topRuns", fn := fun _ => fun
  | [d1, d2, d3] => { results := [.lit (.bool true)], args := [d1, d2, d3] }
  | _ => none }
def topRunsRow : OpenClaim := { program := "ytgfndlbmolnblaagreatdoor", sum := "fe68831ff02fde6d658bc3a1120ab1e4d647b4d6e128001618970d501abfc230", func := "plumbline/plumblinetop.TopRuns", spec := "topRuns", inPlace := ["internal/bytealg.IndexByteString", "internal/bytealg.IndexString"], named := ["unicode/utf8.first", "unicode/utf8.acceptRanges", "plumbline/sniff.marks", "plumbline/sniff.marked", "internal/bytealg.MaxLen"], apart := false, laid := [("unicode/utf8.acceptRanges", laid_unicode_utf8_acceptRanges), ("plumbline/sniff.marks", laid_plumbline_sniff_marks), ("plumbline/sniff.marked", laid_plumbline_sniff_marked), ("unicode/utf8.first", laid_unicode_utf8_first)] }
def TopRunsSaid : Prop := topRunsRow.holds Tryz.pinned (OpenSpec.ofChange topRunsSpec)

/-- ITS FALSE NEIGHBOUR: 'it returns false'. Refute it at one input. -/
def topRunsWrong : ChangeSpec := { name := "topRuns", fn := fun _ => fun
  | [d1, d2, d3] => { results := [.lit (.bool false)], args := [d1, d2, d3] }
  | _ => none }
def TopRunsWrongFalsely : Prop := topRunsRow.holds Tryz.pinned (OpenSpec.ofChange topRunsWrong)

/-- 'plumblinetop.TopEnds': WHATEVER THE INPUT: true; the input reads as it did. -/
def topEndsSpec : ChangeSpec := { name := "topEnds", fn := fun _ => fun
  | [d1, d2, d3] => { results := [.lit (.bool true)], args := [d1, d2, d3] }
  | _ => none }
def topEndsRow : OpenClaim := { program := "ytgfndlbmolnblaagreatdoor", sum := "fe68831ff02fde6d658bc3a1120ab1e4d647b4d6e128001618970d501abfc230", func := "plumbline/plumblinetop.TopEnds", spec := "topEnds", inPlace := ["internal/bytealg.IndexByteString", "internal/bytealg.IndexString"], unfollowed := true, recurses := true, named := ["unicode/utf8.first", "unicode/utf8.acceptRanges", "plumbline/sniff.marks", "plumbline/sniff.marked", "internal/bytealg.MaxLen"], apart := false, laid := [("unicode/utf8.acceptRanges", laid_unicode_utf8_acceptRanges), ("plumbline/sniff.marks", laid_plumbline_sniff_marks), ("plumbline/sniff.marked", laid_plumbline_sniff_marked), ("unicode/utf8.first", laid_unicode_utf8_first)] }
def TopEndsSaid : Prop := topEndsRow.holds Tryz.pinned (OpenSpec.ofChange topEndsSpec)

/-- ITS FALSE NEIGHBOUR: 'it returns false'. Refute it at one input. -/
def topEndsWrong : ChangeSpec := { name := "topEnds", fn := fun _ => fun
  | [d1, d2, d3] => { results := [.lit (.bool false)], args := [d1, d2, d3] }
  | _ => none }
def TopEndsWrongFalsely : Prop := topEndsRow.holds Tryz.pinned (OpenSpec.ofChange topEndsWrong)

/- THE SECOND FORM. 'bulk': how many values and letters a reading holds, each counted each time it is reached (what is shared counts as often as it is met; a slice's spare places count too). A statement '..UptoSaid' is the law's where the arguments, and the package variables that the reading takes, are together of bulk at most 1048576: NARROWER than '..Said'. Prove '..Said' where nothing that the law and all that it calls make is longer than what came in: it says more and counts as full. Else prove '..UptoSaid'. A law counts once. -/
mutual
def uptoBulk {H : Type} : DataW H → Nat
  | .lit (.string bytes) => bytes.length + 1
  | .lit _ => 1
  | .nil => 1
  | .ptr d => uptoBulk d + 1
  | .slice elems spare => uptoBulkAll elems + uptoBulkAll spare + 1
  | .agg parts => uptoBulkAll parts + 1
  | .iface _ d => uptoBulk d + 1
  | .map entries => uptoBulkEntries entries + 1
  | .held _ => 1
def uptoBulkAll {H : Type} : List (DataW H) → Nat
  | [] => 0
  | d :: r => uptoBulk d + uptoBulkAll r
def uptoBulkEntries {H : Type} : List (Lit × DataW H) → Nat
  | [] => 0
  | x :: r => uptoBulkEntry x + uptoBulkEntries r
def uptoBulkEntry {H : Type} : Lit × DataW H → Nat
  | (.string bytes, d) => bytes.length + uptoBulk d + 1
  | (_, d) => uptoBulk d + 1
 end
def uptoSmall : (H : Type) → List (DataW H) → Bool := fun _ ds => decide (uptoBulkAll ds ≤ 1048576)
def OpenSpec.upto (s : _root_.Go.ChangeSpec) : _root_.Go.OpenSpec := { _root_.Go.OpenSpec.ofChange s with cond := some uptoSmall }

/-- 'plumblinetop.TopWhole', WHERE WHAT IT READS IS OF BULK AT MOST 1048576: true; the input reads as it did. -/
def topWholeUptoRow : OpenClaim := { program := "ytgfndlbmolnblaagreatdoor", sum := "fe68831ff02fde6d658bc3a1120ab1e4d647b4d6e128001618970d501abfc230", func := "plumbline/plumblinetop.TopWhole", spec := "topWhole", inPlace := ["internal/bytealg.IndexByteString", "internal/bytealg.IndexString"], unfollowed := true, recurses := true, named := ["unicode/utf8.first", "unicode/utf8.acceptRanges", "plumbline/sniff.marks", "plumbline/sniff.marked", "internal/bytealg.MaxLen"], apart := false, laid := [("unicode/utf8.acceptRanges", laid_unicode_utf8_acceptRanges), ("plumbline/sniff.marks", laid_plumbline_sniff_marks), ("plumbline/sniff.marked", laid_plumbline_sniff_marked), ("unicode/utf8.first", laid_unicode_utf8_first)], narrowed := true }
def TopWholeUptoSaid : Prop := topWholeUptoRow.holds Tryz.pinned (OpenSpec.upto topWholeSpec)

/-- 'plumblinetop.TopParts', WHERE WHAT IT READS IS OF BULK AT MOST 1048576: true; the input reads as it did. -/
def topPartsUptoRow : OpenClaim := { program := "ytgfndlbmolnblaagreatdoor", sum := "fe68831ff02fde6d658bc3a1120ab1e4d647b4d6e128001618970d501abfc230", func := "plumbline/plumblinetop.TopParts", spec := "topParts", inPlace := ["internal/bytealg.IndexByteString", "internal/bytealg.IndexString"], named := ["unicode/utf8.first", "unicode/utf8.acceptRanges", "plumbline/sniff.marks", "plumbline/sniff.marked", "internal/bytealg.MaxLen"], apart := false, laid := [("unicode/utf8.acceptRanges", laid_unicode_utf8_acceptRanges), ("plumbline/sniff.marks", laid_plumbline_sniff_marks), ("plumbline/sniff.marked", laid_plumbline_sniff_marked), ("unicode/utf8.first", laid_unicode_utf8_first)], narrowed := true }
def TopPartsUptoSaid : Prop := topPartsUptoRow.holds Tryz.pinned (OpenSpec.upto topPartsSpec)

/-- 'plumblinetop.TopFinal', WHERE WHAT IT READS IS OF BULK AT MOST 1048576: true; the input reads as it did. -/
def topFinalUptoRow : OpenClaim := { program := "ytgfndlbmolnblaagreatdoor", sum := "fe68831ff02fde6d658bc3a1120ab1e4d647b4d6e128001618970d501abfc230", func := "plumbline/plumblinetop.TopFinal", spec := "topFinal", inPlace := ["internal/bytealg.IndexByteString", "internal/bytealg.IndexString"], unfollowed := true, recurses := true, named := ["unicode/utf8.first", "unicode/utf8.acceptRanges", "plumbline/sniff.marks", "plumbline/sniff.marked", "internal/bytealg.MaxLen"], apart := false, laid := [("unicode/utf8.acceptRanges", laid_unicode_utf8_acceptRanges), ("plumbline/sniff.marks", laid_plumbline_sniff_marks), ("plumbline/sniff.marked", laid_plumbline_sniff_marked), ("unicode/utf8.first", laid_unicode_utf8_first)], narrowed := true }
def TopFinalUptoSaid : Prop := topFinalUptoRow.holds Tryz.pinned (OpenSpec.upto topFinalSpec)

/-- 'plumblinetop.TopSure', WHERE WHAT IT READS IS OF BULK AT MOST 1048576: true; the input reads as it did. -/
def topSureUptoRow : OpenClaim := { program := "ytgfndlbmolnblaagreatdoor", sum := "fe68831ff02fde6d658bc3a1120ab1e4d647b4d6e128001618970d501abfc230", func := "plumbline/plumblinetop.TopSure", spec := "topSure", inPlace := ["internal/bytealg.IndexByteString", "internal/bytealg.IndexString"], named := ["unicode/utf8.first", "unicode/utf8.acceptRanges", "plumbline/sniff.marks", "plumbline/sniff.marked", "internal/bytealg.MaxLen"], apart := false, laid := [("unicode/utf8.acceptRanges", laid_unicode_utf8_acceptRanges), ("plumbline/sniff.marks", laid_plumbline_sniff_marks), ("plumbline/sniff.marked", laid_plumbline_sniff_marked), ("unicode/utf8.first", laid_unicode_utf8_first)], narrowed := true }
def TopSureUptoSaid : Prop := topSureUptoRow.holds Tryz.pinned (OpenSpec.upto topSureSpec)

/-- 'plumblinetop.TopScored', WHERE WHAT IT READS IS OF BULK AT MOST 1048576: true; the input reads as it did. -/
def topScoredUptoRow : OpenClaim := { program := "ytgfndlbmolnblaagreatdoor", sum := "fe68831ff02fde6d658bc3a1120ab1e4d647b4d6e128001618970d501abfc230", func := "plumbline/plumblinetop.TopScored", spec := "topScored", inPlace := ["internal/bytealg.IndexByteString", "internal/bytealg.IndexString"], unfollowed := true, recurses := true, named := ["unicode/utf8.first", "unicode/utf8.acceptRanges", "plumbline/sniff.marks", "plumbline/sniff.marked", "internal/bytealg.MaxLen"], apart := false, laid := [("unicode/utf8.acceptRanges", laid_unicode_utf8_acceptRanges), ("plumbline/sniff.marks", laid_plumbline_sniff_marks), ("plumbline/sniff.marked", laid_plumbline_sniff_marked), ("unicode/utf8.first", laid_unicode_utf8_first)], narrowed := true }
def TopScoredUptoSaid : Prop := topScoredUptoRow.holds Tryz.pinned (OpenSpec.upto topScoredSpec)

/-- 'plumblinetop.TopMarks', WHERE WHAT IT READS IS OF BULK AT MOST 1048576: true; the input reads as it did. -/
def topMarksUptoRow : OpenClaim := { program := "ytgfndlbmolnblaagreatdoor", sum := "fe68831ff02fde6d658bc3a1120ab1e4d647b4d6e128001618970d501abfc230", func := "plumbline/plumblinetop.TopMarks", spec := "topMarks", inPlace := ["internal/bytealg.IndexByteString", "internal/bytealg.IndexString"], named := ["unicode/utf8.first", "unicode/utf8.acceptRanges", "plumbline/sniff.marks", "plumbline/sniff.marked", "internal/bytealg.MaxLen"], apart := false, laid := [("unicode/utf8.acceptRanges", laid_unicode_utf8_acceptRanges), ("plumbline/sniff.marks", laid_plumbline_sniff_marks), ("plumbline/sniff.marked", laid_plumbline_sniff_marked), ("unicode/utf8.first", laid_unicode_utf8_first)], narrowed := true }
def TopMarksUptoSaid : Prop := topMarksUptoRow.holds Tryz.pinned (OpenSpec.upto topMarksSpec)

/-- 'plumblinetop.TopEnded', WHERE WHAT IT READS IS OF BULK AT MOST 1048576: true; the input reads as it did. -/
def topEndedUptoRow : OpenClaim := { program := "ytgfndlbmolnblaagreatdoor", sum := "fe68831ff02fde6d658bc3a1120ab1e4d647b4d6e128001618970d501abfc230", func := "plumbline/plumblinetop.TopEnded", spec := "topEnded", inPlace := ["internal/bytealg.IndexByteString", "internal/bytealg.IndexString"], unfollowed := true, recurses := true, named := ["unicode/utf8.first", "unicode/utf8.acceptRanges", "plumbline/sniff.marks", "plumbline/sniff.marked", "internal/bytealg.MaxLen"], apart := false, laid := [("unicode/utf8.acceptRanges", laid_unicode_utf8_acceptRanges), ("plumbline/sniff.marks", laid_plumbline_sniff_marks), ("plumbline/sniff.marked", laid_plumbline_sniff_marked), ("unicode/utf8.first", laid_unicode_utf8_first)], narrowed := true }
def TopEndedUptoSaid : Prop := topEndedUptoRow.holds Tryz.pinned (OpenSpec.upto topEndedSpec)

/-- 'plumblinetop.TopRefused', WHERE WHAT IT READS IS OF BULK AT MOST 1048576: true; the input reads as it did. -/
def topRefusedUptoRow : OpenClaim := { program := "ytgfndlbmolnblaagreatdoor", sum := "fe68831ff02fde6d658bc3a1120ab1e4d647b4d6e128001618970d501abfc230", func := "plumbline/plumblinetop.TopRefused", spec := "topRefused", inPlace := ["internal/bytealg.IndexByteString", "internal/bytealg.IndexString"], unfollowed := true, recurses := true, named := ["unicode/utf8.first", "unicode/utf8.acceptRanges", "plumbline/sniff.marks", "plumbline/sniff.marked", "internal/bytealg.MaxLen"], apart := false, laid := [("unicode/utf8.acceptRanges", laid_unicode_utf8_acceptRanges), ("plumbline/sniff.marks", laid_plumbline_sniff_marks), ("plumbline/sniff.marked", laid_plumbline_sniff_marked), ("unicode/utf8.first", laid_unicode_utf8_first)], narrowed := true }
def TopRefusedUptoSaid : Prop := topRefusedUptoRow.holds Tryz.pinned (OpenSpec.upto topRefusedSpec)

/-- 'plumblinetop.TopRuns', WHERE WHAT IT READS IS OF BULK AT MOST 1048576: true; the input reads as it did. -/
def topRunsUptoRow : OpenClaim := { program := "ytgfndlbmolnblaagreatdoor", sum := "fe68831ff02fde6d658bc3a1120ab1e4d647b4d6e128001618970d501abfc230", func := "plumbline/plumblinetop.TopRuns", spec := "topRuns", inPlace := ["internal/bytealg.IndexByteString", "internal/bytealg.IndexString"], named := ["unicode/utf8.first", "unicode/utf8.acceptRanges", "plumbline/sniff.marks", "plumbline/sniff.marked", "internal/bytealg.MaxLen"], apart := false, laid := [("unicode/utf8.acceptRanges", laid_unicode_utf8_acceptRanges), ("plumbline/sniff.marks", laid_plumbline_sniff_marks), ("plumbline/sniff.marked", laid_plumbline_sniff_marked), ("unicode/utf8.first", laid_unicode_utf8_first)], narrowed := true }
def TopRunsUptoSaid : Prop := topRunsUptoRow.holds Tryz.pinned (OpenSpec.upto topRunsSpec)

/-- 'plumblinetop.TopEnds', WHERE WHAT IT READS IS OF BULK AT MOST 1048576: true; the input reads as it did. -/
def topEndsUptoRow : OpenClaim := { program := "ytgfndlbmolnblaagreatdoor", sum := "fe68831ff02fde6d658bc3a1120ab1e4d647b4d6e128001618970d501abfc230", func := "plumbline/plumblinetop.TopEnds", spec := "topEnds", inPlace := ["internal/bytealg.IndexByteString", "internal/bytealg.IndexString"], unfollowed := true, recurses := true, named := ["unicode/utf8.first", "unicode/utf8.acceptRanges", "plumbline/sniff.marks", "plumbline/sniff.marked", "internal/bytealg.MaxLen"], apart := false, laid := [("unicode/utf8.acceptRanges", laid_unicode_utf8_acceptRanges), ("plumbline/sniff.marks", laid_plumbline_sniff_marks), ("plumbline/sniff.marked", laid_plumbline_sniff_marked), ("unicode/utf8.first", laid_unicode_utf8_first)], narrowed := true }
def TopEndsUptoSaid : Prop := topEndsUptoRow.holds Tryz.pinned (OpenSpec.upto topEndsSpec)

end Rows
end Go.Proofs.YtgfndlbmolnblaaGreatDoor
