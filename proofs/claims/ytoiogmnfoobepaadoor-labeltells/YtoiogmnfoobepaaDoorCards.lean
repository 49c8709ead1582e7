/-
  DERIVED. GIVEN WITH THE SEED: THE CARDS: each row of YtoiogmnfoobepaaDoorRows.lean that lists a variable, with what it lists TIED to the program's text (the seventh form; the later family's looks); each row that meets fmt, with fmt's text TOLD by the authors' own Lean function (tested against real Go, not proved from fmt's source: count such statements apart). THE CARD IS WHAT COUNTS. Prove the row's statement (the work); the ties are given (YtoiogmnfoobepaaDoorTie.lean); close each card by the builder's one call (the guide's Derived/Test/ToyasCard.lean, 'card_holds'). Laid BY PROGRAM, IN A SANDBOX (cutbox-door.mjs). By AI agents, Wed Nov 11 2026. No macro, syntax, notation, axiom, sorry.
-/
import Derived.Test.YtoiogmnfoobepaaDoorRows
import GoSem.ClaimSeven
namespace Go.Proofs.YtoiogmnfoobepaaDoor
namespace Rows

/-- THE TIED CARD OF 'plumblinelaw.LabelTells'. -/
def labelTellsCard : Claim7 := { stood := { row := labelTellsRow, standIns := [], harness := (true, "9d2b77979da307671a03b8ddd8004eb8db9c5bca523a8479c461628bc5ef5e20"), looks := false }, kinds := [], alts := [], laidByText := true, laidKinds := [.data, .pinned], laidTests := true, laidLooks := .later }
def LabelTellsCardSaid : Prop := Claim7.holds Tryd.pinned (.plain (OpenSpec.ofChange labelTellsSpec)) labelTellsCard

/-- THE TIED CARD OF 'plumblinekeep.LabelSame'. -/
def labelSameCard : Claim7 := { stood := { row := labelSameRow, standIns := [], harness := (true, "9d2b77979da307671a03b8ddd8004eb8db9c5bca523a8479c461628bc5ef5e20"), looks := false }, kinds := [], alts := [], laidByText := true, laidKinds := [.data, .pinned], laidTests := true, laidLooks := .later }
def LabelSameCardSaid : Prop := Claim7.holds Tryd.pinned (.plain (OpenSpec.ofChange labelSameSpec)) labelSameCard

/-- THE SECOND FORM's CARD OF 'plumblinelaw.LabelTells'. -/
def labelTellsUptoCard : Claim7 := { stood := { row := labelTellsUptoRow, standIns := [], harness := (true, "9d2b77979da307671a03b8ddd8004eb8db9c5bca523a8479c461628bc5ef5e20"), looks := false }, kinds := [], alts := [], laidByText := true, laidKinds := [.data, .pinned], laidTests := true, laidLooks := .later }
def LabelTellsUptoCardSaid : Prop := Claim7.holds Tryd.pinned (.plain (OpenSpec.upto labelTellsSpec)) labelTellsUptoCard

/-- THE SECOND FORM's CARD OF 'plumblinekeep.LabelSame'. -/
def labelSameUptoCard : Claim7 := { stood := { row := labelSameUptoRow, standIns := [], harness := (true, "9d2b77979da307671a03b8ddd8004eb8db9c5bca523a8479c461628bc5ef5e20"), looks := false }, kinds := [], alts := [], laidByText := true, laidKinds := [.data, .pinned], laidTests := true, laidLooks := .later }
def LabelSameUptoCardSaid : Prop := Claim7.holds Tryd.pinned (.plain (OpenSpec.upto labelSameSpec)) labelSameUptoCard
end Rows
end Go.Proofs.YtoiogmnfoobepaaDoor
