/-
  NARROWER THAN 'FOR EVERY INPUT', by the rows' own cells (each row's printed sentence says how): LabelTells: laid · LabelSame: laid · SniffTells: laid · SniffStays: laid · SniffWindow: laid.
  DERIVED. THE GIVEN ROWS OF THIS SEAT. 5 by the template 'for every input the law returns true; each argument reads behind the call as it read before'; 0 by the template 'total and deterministic' (their statements: YtbnjhcdgiieghaaDoorTotals.lean).
  GIVEN WITH THE SEED: the statements are not yours to turn. If you find one false, say at which input.
  Laid BY PROGRAM, IN A SANDBOX (cutbox-rows.mjs): the forced cells as the released guide's own fill.sh prints them over the translation 421fc9474905c886… (all of the seat's roots in one cut). By AI agents, Wed Nov 11 2026. No macro, syntax, notation, axiom, sorry.
-/
import Derived.Test.YtbnjhcdgiieghaaDoorChecked
import GoSem.PinnedTables
import GoSem.Claim
import GoSem.ClaimJoined
import GoSem.ClaimMapViews
import Derived.JoinedTies
import Derived.KernelRfl
namespace Go.Proofs.YtbnjhcdgiieghaaDoor
/- THE CELL 'sum', in the pinned program and in every row, IS THE sha256 OF THE DUMP (.gsa) THAT YtbnjhcdgiieghaaDoorProg.lean LOADS. Nothing in Lean hashes anything: it is a label: what it is worth is what the hold of that sum in a sandbox is worth. -/
noncomputable def Tryd.pinned : Pinned := { name := "ytbnjhcdgiieghaadoor", sum := "421fc9474905c886e078fe168f12b2241e489aa247e4bf57b6a8514d1cca626f", checked := Tryd.checked }
namespace Rows
def none {H : Type} : Left H := { results := [], args := [] }

/- WHAT THE LISTED PACKAGE-LEVEL VARIABLES READ AS WHEN THE CALL BEGINS. Each datum BY PROGRAM (the guide's laid-datum.mjs) off the statement by which the dump's own 'gosem.cut.vars' lays the variable. In a bare row this is a premise. The card (YtbnjhcdgiieghaaDoorCards.lean) ties it to the program's text. -/
def laid_unicode_utf8_acceptRanges {H : Type} : DataW H := .agg [.agg [.lit (.int .u8 128), .lit (.int .u8 191)], .agg [.lit (.int .u8 160), .lit (.int .u8 191)], .agg [.lit (.int .u8 128), .lit (.int .u8 159)], .agg [.lit (.int .u8 144), .lit (.int .u8 191)], .agg [.lit (.int .u8 128), .lit (.int .u8 143)], .agg [.lit (.int .u8 0), .lit (.int .u8 0)], .agg [.lit (.int .u8 0), .lit (.int .u8 0)], .agg [.lit (.int .u8 0), .lit (.int .u8 0)], .agg [.lit (.int .u8 0), .lit (.int .u8 0)], .agg [.lit (.int .u8 0), .lit (.int .u8 0)], .agg [.lit (.int .u8 0), .lit (.int .u8 0)], .agg [.lit (.int .u8 0), .lit (.int .u8 0)], .agg [.lit (.int .u8 0), .lit (.int .u8 0)], .agg [.lit (.int .u8 0), .lit (.int .u8 0)], .agg [.lit (.int .u8 0), .lit (.int .u8 0)], .agg [.lit (.int .u8 0), .lit (.int .u8 0)]]
/-- One of Go's own tables, pinned by name: the form's constant. -/
def laid_unicode_utf8_first : DataW Unit := Go.Pinned.utf8First
def laid_plumbline_sniff_marks {H : Type} : DataW H := .agg [.lit (.string [239, 187, 191]), .lit (.string [255, 254]), .lit (.string [254, 255])]
def laid_plumbline_sniff_marked {H : Type} : DataW H := .agg [.lit (.int .i64 1), .lit (.int .i64 5), .lit (.int .i64 6)]

/-- 'plumblinelaw.LabelTells': WHATEVER THE INPUT: true; the input reads as it did. -/
def labelTellsSpec : ChangeSpec := { name := "labelTells", fn := fun _ => fun
  | [d1, d2] => { results := [.lit (.bool true)], args := [d1, d2] }
  | _ => none }
def labelTellsRow : OpenClaim := { program := "ytbnjhcdgiieghaadoor", sum := "421fc9474905c886e078fe168f12b2241e489aa247e4bf57b6a8514d1cca626f", func := "plumbline/plumblinelaw.LabelTells", spec := "labelTells", inPlace := ["internal/bytealg.IndexByteString", "internal/bytealg.IndexString", "internal/bytealg.CountString"], unfollowed := true, recurses := true, named := ["unicode/utf8.first", "unicode/utf8.acceptRanges", "internal/bytealg.MaxLen"], apart := false, laid := [("unicode/utf8.acceptRanges", laid_unicode_utf8_acceptRanges), ("unicode/utf8.first", laid_unicode_utf8_first)] }
def LabelTellsSaid : Prop := labelTellsRow.holds Tryd.pinned (OpenSpec.ofChange labelTellsSpec)

/-- ITS FALSE NEIGHBOUR: 'it returns false'. Refute it at one input. -/
def labelTellsWrong : ChangeSpec := { name := "labelTells", fn := fun _ => fun
  | [d1, d2] => { results := [.lit (.bool false)], args := [d1, d2] }
  | _ => none }
def LabelTellsWrongFalsely : Prop := labelTellsRow.holds Tryd.pinned (OpenSpec.ofChange labelTellsWrong)

/-- 'plumblinekeep.LabelSame': WHATEVER THE INPUT: true; the input reads as it did. -/
def labelSameSpec : ChangeSpec := { name := "labelSame", fn := fun _ => fun
  | [d1, d2, d3] => { results := [.lit (.bool true)], args := [d1, d2, d3] }
  | _ => none }
def labelSameRow : OpenClaim := { program := "ytbnjhcdgiieghaadoor", sum := "421fc9474905c886e078fe168f12b2241e489aa247e4bf57b6a8514d1cca626f", func := "plumbline/plumblinekeep.LabelSame", spec := "labelSame", inPlace := ["internal/bytealg.IndexByteString", "internal/bytealg.IndexString"], named := ["unicode/utf8.first", "unicode/utf8.acceptRanges", "internal/bytealg.MaxLen"], apart := false, laid := [("unicode/utf8.acceptRanges", laid_unicode_utf8_acceptRanges), ("unicode/utf8.first", laid_unicode_utf8_first)] }
def LabelSameSaid : Prop := labelSameRow.holds Tryd.pinned (OpenSpec.ofChange labelSameSpec)

/-- ITS FALSE NEIGHBOUR: 'it returns false'. Refute it at one input. -/
def labelSameWrong : ChangeSpec := { name := "labelSame", fn := fun _ => fun
  | [d1, d2, d3] => { results := [.lit (.bool false)], args := [d1, d2, d3] }
  | _ => none }
def LabelSameWrongFalsely : Prop := labelSameRow.holds Tryd.pinned (OpenSpec.ofChange labelSameWrong)

/-- 'plumblinelaw.SniffTells': WHATEVER THE INPUT: true; the input reads as it did. -/
def sniffTellsSpec : ChangeSpec := { name := "sniffTells", fn := fun _ => fun
  | [d] => { results := [.lit (.bool true)], args := [d] }
  | _ => none }
def sniffTellsRow : OpenClaim := { program := "ytbnjhcdgiieghaadoor", sum := "421fc9474905c886e078fe168f12b2241e489aa247e4bf57b6a8514d1cca626f", func := "plumbline/plumblinelaw.SniffTells", spec := "sniffTells", inPlace := ["internal/bytealg.IndexByteString", "internal/bytealg.IndexString", "internal/bytealg.CountString"], unfollowed := true, recurses := true, named := ["plumbline/sniff.marks", "plumbline/sniff.marked", "unicode/utf8.first", "unicode/utf8.acceptRanges", "internal/bytealg.MaxLen"], apart := false, laid := [("unicode/utf8.acceptRanges", laid_unicode_utf8_acceptRanges), ("plumbline/sniff.marks", laid_plumbline_sniff_marks), ("plumbline/sniff.marked", laid_plumbline_sniff_marked), ("unicode/utf8.first", laid_unicode_utf8_first)] }
def SniffTellsSaid : Prop := sniffTellsRow.holds Tryd.pinned (OpenSpec.ofChange sniffTellsSpec)

/-- ITS FALSE NEIGHBOUR: 'it returns false'. Refute it at one input. -/
def sniffTellsWrong : ChangeSpec := { name := "sniffTells", fn := fun _ => fun
  | [d] => { results := [.lit (.bool false)], args := [d] }
  | _ => none }
def SniffTellsWrongFalsely : Prop := sniffTellsRow.holds Tryd.pinned (OpenSpec.ofChange sniffTellsWrong)

/-- 'plumblinekeep.SniffStays': WHATEVER THE INPUT: true; the input reads as it did. -/
def sniffStaysSpec : ChangeSpec := { name := "sniffStays", fn := fun _ => fun
  | [d1, d2] => { results := [.lit (.bool true)], args := [d1, d2] }
  | _ => none }
def sniffStaysRow : OpenClaim := { program := "ytbnjhcdgiieghaadoor", sum := "421fc9474905c886e078fe168f12b2241e489aa247e4bf57b6a8514d1cca626f", func := "plumbline/plumblinekeep.SniffStays", spec := "sniffStays", inPlace := ["internal/bytealg.IndexByteString", "internal/bytealg.IndexString"], named := ["plumbline/sniff.marks", "plumbline/sniff.marked", "unicode/utf8.first", "unicode/utf8.acceptRanges", "internal/bytealg.MaxLen"], apart := false, laid := [("unicode/utf8.acceptRanges", laid_unicode_utf8_acceptRanges), ("plumbline/sniff.marks", laid_plumbline_sniff_marks), ("plumbline/sniff.marked", laid_plumbline_sniff_marked), ("unicode/utf8.first", laid_unicode_utf8_first)] }
def SniffStaysSaid : Prop := sniffStaysRow.holds Tryd.pinned (OpenSpec.ofChange sniffStaysSpec)

/-- ITS FALSE NEIGHBOUR: 'it returns false'. Refute it at one input. -/
def sniffStaysWrong : ChangeSpec := { name := "sniffStays", fn := fun _ => fun
  | [d1, d2] => { results := [.lit (.bool false)], args := [d1, d2] }
  | _ => none }
def SniffStaysWrongFalsely : Prop := sniffStaysRow.holds Tryd.pinned (OpenSpec.ofChange sniffStaysWrong)

/-- 'plumblinekeep.SniffWindow': WHATEVER THE INPUT: true; the input reads as it did. -/
def sniffWindowSpec : ChangeSpec := { name := "sniffWindow", fn := fun _ => fun
  | [d1, d2] => { results := [.lit (.bool true)], args := [d1, d2] }
  | _ => none }
def sniffWindowRow : OpenClaim := { program := "ytbnjhcdgiieghaadoor", sum := "421fc9474905c886e078fe168f12b2241e489aa247e4bf57b6a8514d1cca626f", func := "plumbline/plumblinekeep.SniffWindow", spec := "sniffWindow", inPlace := ["internal/bytealg.IndexByteString", "internal/bytealg.IndexString"], named := ["plumbline/sniff.marks", "plumbline/sniff.marked", "unicode/utf8.first", "unicode/utf8.acceptRanges", "internal/bytealg.MaxLen"], apart := false, laid := [("unicode/utf8.acceptRanges", laid_unicode_utf8_acceptRanges), ("plumbline/sniff.marks", laid_plumbline_sniff_marks), ("plumbline/sniff.marked", laid_plumbline_sniff_marked), ("unicode/utf8.first", laid_unicode_utf8_first)] }
def SniffWindowSaid : Prop := sniffWindowRow.holds Tryd.pinned (OpenSpec.ofChange sniffWindowSpec)

/-- ITS FALSE NEIGHBOUR: 'it returns false'. Refute it at one input. -/
def sniffWindowWrong : ChangeSpec := { name := "sniffWindow", fn := fun _ => fun
  | [d1, d2] => { results := [.lit (.bool false)], args := [d1, d2] }
  | _ => none }
def SniffWindowWrongFalsely : Prop := sniffWindowRow.holds Tryd.pinned (OpenSpec.ofChange sniffWindowWrong)

/- THE SECOND FORM. 'bulk': how many values and letters a reading holds, each counted each time it is reached (what is shared counts as often as it is met; a slice's spare places count too). A statement '..UptoSaid' is the law's where the arguments, and the package variables that the reading takes, are together of bulk at most 1048576: NARROWER than '..Said'. Prove '..Said' where nothing that the law and all that it calls make is longer than what came in: it says more and counts as full. Else prove '..UptoSaid'. A law counts once. -/
mutual
def uptoBulk {H : Type} : DataW H → Nat
  | .lit (.string bytes) => bytes.length + 1
  | .lit _ => 1
  | .nil => 1
  | .ptr d => uptoBulk d + 1
  | .slice elems spare => uptoBulkAll elems + uptoBulkAll spare + 1
  | .agg parts => uptoBulkAll parts + 1
  | .iface _ d => uptoBulk d + 1
  | .map entries => uptoBulkEntries entries + 1
  | .held _ => 1
def uptoBulkAll {H : Type} : List (DataW H) → Nat
  | [] => 0
  | d :: r => uptoBulk d + uptoBulkAll r
def uptoBulkEntries {H : Type} : List (Lit × DataW H) → Nat
  | [] => 0
  | x :: r => uptoBulkEntry x + uptoBulkEntries r
def uptoBulkEntry {H : Type} : Lit × DataW H → Nat
  | (.string bytes, d) => bytes.length + uptoBulk d + 1
  | (_, d) => uptoBulk d + 1
 end
def uptoSmall : (H : Type) → List (DataW H) → Bool := fun _ ds => decide (uptoBulkAll ds ≤ 1048576)
def OpenSpec.upto (s : _root_.Go.ChangeSpec) : _root_.Go.OpenSpec := { _root_.Go.OpenSpec.ofChange s with cond := some uptoSmall }

/-- 'plumblinelaw.LabelTells', WHERE WHAT IT READS IS OF BULK AT MOST 1048576: true; the input reads as it did. -/
def labelTellsUptoRow : OpenClaim := { program := "ytbnjhcdgiieghaadoor", sum := "421fc9474905c886e078fe168f12b2241e489aa247e4bf57b6a8514d1cca626f", func := "plumbline/plumblinelaw.LabelTells", spec := "labelTells", inPlace := ["internal/bytealg.IndexByteString", "internal/bytealg.IndexString", "internal/bytealg.CountString"], unfollowed := true, recurses := true, named := ["unicode/utf8.first", "unicode/utf8.acceptRanges", "internal/bytealg.MaxLen"], apart := false, laid := [("unicode/utf8.acceptRanges", laid_unicode_utf8_acceptRanges), ("unicode/utf8.first", laid_unicode_utf8_first)], narrowed := true }
def LabelTellsUptoSaid : Prop := labelTellsUptoRow.holds Tryd.pinned (OpenSpec.upto labelTellsSpec)

/-- 'plumblinekeep.LabelSame', WHERE WHAT IT READS IS OF BULK AT MOST 1048576: true; the input reads as it did. -/
def labelSameUptoRow : OpenClaim := { program := "ytbnjhcdgiieghaadoor", sum := "421fc9474905c886e078fe168f12b2241e489aa247e4bf57b6a8514d1cca626f", func := "plumbline/plumblinekeep.LabelSame", spec := "labelSame", inPlace := ["internal/bytealg.IndexByteString", "internal/bytealg.IndexString"], named := ["unicode/utf8.first", "unicode/utf8.acceptRanges", "internal/bytealg.MaxLen"], apart := false, laid := [("unicode/utf8.acceptRanges", laid_unicode_utf8_acceptRanges), ("unicode/utf8.first", laid_unicode_utf8_first)], narrowed := true }
def LabelSameUptoSaid : Prop := labelSameUptoRow.holds Tryd.pinned (OpenSpec.upto labelSameSpec)

/-- 'plumblinelaw.SniffTells', WHERE WHAT IT READS IS OF BULK AT MOST 1048576: true; the input reads as it did. -/
def sniffTellsUptoRow : OpenClaim := { program := "ytbnjhcdgiieghaadoor", sum := "421fc9474905c886e078fe168f12b2241e489aa247e4bf57b6a8514d1cca626f", func := "plumbline/plumblinelaw.SniffTells", spec := "sniffTells", inPlace := ["internal/bytealg.IndexByteString", "internal/bytealg.IndexString", "internal/bytealg.CountString"], unfollowed := true, recurses := true, named := ["plumbline/sniff.marks", "plumbline/sniff.marked", "unicode/utf8.first", "unicode/utf8.acceptRanges", "internal/bytealg.MaxLen"], apart := false, laid := [("unicode/utf8.acceptRanges", laid_unicode_utf8_acceptRanges), ("plumbline/sniff.marks", laid_plumbline_sniff_marks), ("plumbline/sniff.marked", laid_plumbline_sniff_marked), ("unicode/utf8.first", laid_unicode_utf8_first)], narrowed := true }
def SniffTellsUptoSaid : Prop := sniffTellsUptoRow.holds Tryd.pinned (OpenSpec.upto sniffTellsSpec)

/-- 'plumblinekeep.SniffStays', WHERE WHAT IT READS IS OF BULK AT MOST 1048576: true; the input reads as it did. -/
def sniffStaysUptoRow : OpenClaim := { program := "ytbnjhcdgiieghaadoor", sum := "421fc9474905c886e078fe168f12b2241e489aa247e4bf57b6a8514d1cca626f", func := "plumbline/plumblinekeep.SniffStays", spec := "sniffStays", inPlace := ["internal/bytealg.IndexByteString", "internal/bytealg.IndexString"], named := ["plumbline/sniff.marks", "plumbline/sniff.marked", "unicode/utf8.first", "unicode/utf8.acceptRanges", "internal/bytealg.MaxLen"], apart := false, laid := [("unicode/utf8.acceptRanges", laid_unicode_utf8_acceptRanges), ("plumbline/sniff.marks", laid_plumbline_sniff_marks), ("plumbline/sniff.marked", laid_plumbline_sniff_marked), ("unicode/utf8.first", laid_unicode_utf8_first)], narrowed := true }
def SniffStaysUptoSaid : Prop := sniffStaysUptoRow.holds Tryd.pinned (OpenSpec.upto sniffStaysSpec)

/-- 'plumblinekeep.SniffWindow', WHERE WHAT IT READS IS OF BULK AT MOST 1048576: true; the input reads as it did. -/
def sniffWindowUptoRow : OpenClaim := { program := "ytbnjhcdgiieghaadoor", sum := "421fc9474905c886e078fe168f12b2241e489aa247e4bf57b6a8514d1cca626f", func := "plumbline/plumblinekeep.SniffWindow", spec := "sniffWindow", inPlace := ["internal/bytealg.IndexByteString", "internal/bytealg.IndexString"], named := ["plumbline/sniff.marks", "plumbline/sniff.marked", "unicode/utf8.first", "unicode/utf8.acceptRanges", "internal/bytealg.MaxLen"], apart := false, laid := [("unicode/utf8.acceptRanges", laid_unicode_utf8_acceptRanges), ("plumbline/sniff.marks", laid_plumbline_sniff_marks), ("plumbline/sniff.marked", laid_plumbline_sniff_marked), ("unicode/utf8.first", laid_unicode_utf8_first)], narrowed := true }
def SniffWindowUptoSaid : Prop := sniffWindowUptoRow.holds Tryd.pinned (OpenSpec.upto sniffWindowSpec)

end Rows
end Go.Proofs.YtbnjhcdgiieghaaDoor
