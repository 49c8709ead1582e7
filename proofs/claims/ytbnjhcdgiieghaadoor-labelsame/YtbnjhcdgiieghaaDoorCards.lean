/-
  DERIVED. GIVEN WITH THE SEED: THE CARDS: each row of YtbnjhcdgiieghaaDoorRows.lean that lists a variable, with what it lists TIED to the program's text (the seventh form; the later family's looks); each row that meets fmt, with fmt's text TOLD by the authors' own Lean function (tested against real Go, not proved from fmt's source: count such statements apart). THE CARD IS WHAT COUNTS. Prove the row's statement (the work); the ties are given (YtbnjhcdgiieghaaDoorTie.lean); close each card by the builder's one call (the guide's Derived/Test/ToyasCard.lean, 'card_holds'). Laid BY PROGRAM, IN A SANDBOX (cutbox-door.mjs). By AI agents, Wed Nov 11 2026. No macro, syntax, notation, axiom, sorry.
-/
import Derived.Test.YtbnjhcdgiieghaaDoorRows
import GoSem.ClaimSeven
namespace Go.Proofs.YtbnjhcdgiieghaaDoor
namespace Rows

/-- THE TIED CARD OF 'plumblinelaw.LabelTells'. -/
def labelTellsCard : Claim7 := { stood := { row := labelTellsRow, standIns := [], harness := (true, "05714a56f4e51e1035f3d1bb69a456b54c4905edbb10861d6ddbb78c97dce6e9"), looks := false }, kinds := [], alts := [], laidByText := true, laidKinds := [.data, .pinned], laidTests := true, laidLooks := .later }
def LabelTellsCardSaid : Prop := Claim7.holds Tryd.pinned (.plain (OpenSpec.ofChange labelTellsSpec)) labelTellsCard

/-- THE TIED CARD OF 'plumblinekeep.LabelSame'. -/
def labelSameCard : Claim7 := { stood := { row := labelSameRow, standIns := [], harness := (true, "05714a56f4e51e1035f3d1bb69a456b54c4905edbb10861d6ddbb78c97dce6e9"), looks := false }, kinds := [], alts := [], laidByText := true, laidKinds := [.data, .pinned], laidTests := true, laidLooks := .later }
def LabelSameCardSaid : Prop := Claim7.holds Tryd.pinned (.plain (OpenSpec.ofChange labelSameSpec)) labelSameCard

/-- THE TIED CARD OF 'plumblinelaw.SniffTells'. -/
def sniffTellsCard : Claim7 := { stood := { row := sniffTellsRow, standIns := [], harness := (true, "05714a56f4e51e1035f3d1bb69a456b54c4905edbb10861d6ddbb78c97dce6e9"), looks := false }, kinds := [], alts := [], laidByText := true, laidKinds := [.data, .data, .data, .pinned], laidTests := true, laidLooks := .later }
def SniffTellsCardSaid : Prop := Claim7.holds Tryd.pinned (.plain (OpenSpec.ofChange sniffTellsSpec)) sniffTellsCard

/-- THE TIED CARD OF 'plumblinekeep.SniffStays'. -/
def sniffStaysCard : Claim7 := { stood := { row := sniffStaysRow, standIns := [], harness := (true, "05714a56f4e51e1035f3d1bb69a456b54c4905edbb10861d6ddbb78c97dce6e9"), looks := false }, kinds := [], alts := [], laidByText := true, laidKinds := [.data, .data, .data, .pinned], laidTests := true, laidLooks := .later }
def SniffStaysCardSaid : Prop := Claim7.holds Tryd.pinned (.plain (OpenSpec.ofChange sniffStaysSpec)) sniffStaysCard

/-- THE TIED CARD OF 'plumblinekeep.SniffWindow'. -/
def sniffWindowCard : Claim7 := { stood := { row := sniffWindowRow, standIns := [], harness := (true, "05714a56f4e51e1035f3d1bb69a456b54c4905edbb10861d6ddbb78c97dce6e9"), looks := false }, kinds := [], alts := [], laidByText := true, laidKinds := [.data, .data, .data, .pinned], laidTests := true, laidLooks := .later }
def SniffWindowCardSaid : Prop := Claim7.holds Tryd.pinned (.plain (OpenSpec.ofChange sniffWindowSpec)) sniffWindowCard

/-- THE SECOND FORM's CARD OF 'plumblinelaw.LabelTells'. -/
def labelTellsUptoCard : Claim7 := { stood := { row := labelTellsUptoRow, standIns := [], harness := (true, "05714a56f4e51e1035f3d1bb69a456b54c4905edbb10861d6ddbb78c97dce6e9"), looks := false }, kinds := [], alts := [], laidByText := true, laidKinds := [.data, .pinned], laidTests := true, laidLooks := .later }
def LabelTellsUptoCardSaid : Prop := Claim7.holds Tryd.pinned (.plain (OpenSpec.upto labelTellsSpec)) labelTellsUptoCard

/-- THE SECOND FORM's CARD OF 'plumblinekeep.LabelSame'. -/
def labelSameUptoCard : Claim7 := { stood := { row := labelSameUptoRow, standIns := [], harness := (true, "05714a56f4e51e1035f3d1bb69a456b54c4905edbb10861d6ddbb78c97dce6e9"), looks := false }, kinds := [], alts := [], laidByText := true, laidKinds := [.data, .pinned], laidTests := true, laidLooks := .later }
def LabelSameUptoCardSaid : Prop := Claim7.holds Tryd.pinned (.plain (OpenSpec.upto labelSameSpec)) labelSameUptoCard

/-- THE SECOND FORM's CARD OF 'plumblinelaw.SniffTells'. -/
def sniffTellsUptoCard : Claim7 := { stood := { row := sniffTellsUptoRow, standIns := [], harness := (true, "05714a56f4e51e1035f3d1bb69a456b54c4905edbb10861d6ddbb78c97dce6e9"), looks := false }, kinds := [], alts := [], laidByText := true, laidKinds := [.data, .data, .data, .pinned], laidTests := true, laidLooks := .later }
def SniffTellsUptoCardSaid : Prop := Claim7.holds Tryd.pinned (.plain (OpenSpec.upto sniffTellsSpec)) sniffTellsUptoCard

/-- THE SECOND FORM's CARD OF 'plumblinekeep.SniffStays'. -/
def sniffStaysUptoCard : Claim7 := { stood := { row := sniffStaysUptoRow, standIns := [], harness := (true, "05714a56f4e51e1035f3d1bb69a456b54c4905edbb10861d6ddbb78c97dce6e9"), looks := false }, kinds := [], alts := [], laidByText := true, laidKinds := [.data, .data, .data, .pinned], laidTests := true, laidLooks := .later }
def SniffStaysUptoCardSaid : Prop := Claim7.holds Tryd.pinned (.plain (OpenSpec.upto sniffStaysSpec)) sniffStaysUptoCard

/-- THE SECOND FORM's CARD OF 'plumblinekeep.SniffWindow'. -/
def sniffWindowUptoCard : Claim7 := { stood := { row := sniffWindowUptoRow, standIns := [], harness := (true, "05714a56f4e51e1035f3d1bb69a456b54c4905edbb10861d6ddbb78c97dce6e9"), looks := false }, kinds := [], alts := [], laidByText := true, laidKinds := [.data, .data, .data, .pinned], laidTests := true, laidLooks := .later }
def SniffWindowUptoCardSaid : Prop := Claim7.holds Tryd.pinned (.plain (OpenSpec.upto sniffWindowSpec)) sniffWindowUptoCard
end Rows
end Go.Proofs.YtbnjhcdgiieghaaDoor
