/-
  DERIVED. GIVEN WITH THE SEED: THE CARDS: each row of YtgfndlbmolnblaaGreatDoorRows.lean that lists a variable, with what it lists TIED to the program's text (the seventh form; the later family's looks); each row that meets fmt, with fmt's text TOLD by the authors' own Lean function (tested against real Go, not proved from fmt's source: count such statements apart). THE CARD IS WHAT COUNTS. Prove the row's statement (the work); the ties are given (YtgfndlbmolnblaaGreatDoorTie.lean); close each card by the builder's one call (the guide's Derived/Test/ToyasCard.lean, 'card_holds'). Laid BY PROGRAM, IN A SANDBOX (cutbox-door.mjs). By AI agents, Wed Nov 11 2026. No macro, syntax, notation, axiom, sorry.
-/
import Derived.Test.YtgfndlbmolnblaaGreatDoorRows
import GoSem.ClaimSeven
namespace Go.Proofs.YtgfndlbmolnblaaGreatDoor
namespace Rows

/-- THE TIED CARD OF 'plumblinetop.TopWhole'. -/
def topWholeCard : Claim7 := { stood := { row := topWholeRow, standIns := [], harness := (true, "85884d82799461e58109b84b70383b76a5d1687dbcecf173bfee5c6fe5d57c56"), looks := false }, kinds := [], alts := [], laidByText := true, laidKinds := [.data, .data, .data, .pinned], laidTests := true, laidLooks := .later }
def TopWholeCardSaid : Prop := Claim7.holds Tryz.pinned (.plain (OpenSpec.ofChange topWholeSpec)) topWholeCard

/-- THE TIED CARD OF 'plumblinetop.TopParts'. -/
def topPartsCard : Claim7 := { stood := { row := topPartsRow, standIns := [], harness := (true, "85884d82799461e58109b84b70383b76a5d1687dbcecf173bfee5c6fe5d57c56"), looks := false }, kinds := [], alts := [], laidByText := true, laidKinds := [.data, .data, .data, .pinned], laidTests := true, laidLooks := .later }
def TopPartsCardSaid : Prop := Claim7.holds Tryz.pinned (.plain (OpenSpec.ofChange topPartsSpec)) topPartsCard

/-- THE TIED CARD OF 'plumblinetop.TopFinal'. -/
def topFinalCard : Claim7 := { stood := { row := topFinalRow, standIns := [], harness := (true, "85884d82799461e58109b84b70383b76a5d1687dbcecf173bfee5c6fe5d57c56"), looks := false }, kinds := [], alts := [], laidByText := true, laidKinds := [.data, .data, .data, .pinned], laidTests := true, laidLooks := .later }
def TopFinalCardSaid : Prop := Claim7.holds Tryz.pinned (.plain (OpenSpec.ofChange topFinalSpec)) topFinalCard

/-- THE TIED CARD OF 'plumblinetop.TopSure'. -/
def topSureCard : Claim7 := { stood := { row := topSureRow, standIns := [], harness := (true, "85884d82799461e58109b84b70383b76a5d1687dbcecf173bfee5c6fe5d57c56"), looks := false }, kinds := [], alts := [], laidByText := true, laidKinds := [.data, .data, .data, .pinned], laidTests := true, laidLooks := .later }
def TopSureCardSaid : Prop := Claim7.holds Tryz.pinned (.plain (OpenSpec.ofChange topSureSpec)) topSureCard

/-- THE TIED CARD OF 'plumblinetop.TopScored'. -/
def topScoredCard : Claim7 := { stood := { row := topScoredRow, standIns := [], harness := (true, "85884d82799461e58109b84b70383b76a5d1687dbcecf173bfee5c6fe5d57c56"), looks := false }, kinds := [], alts := [], laidByText := true, laidKinds := [.data, .data, .data, .pinned], laidTests := true, laidLooks := .later }
def TopScoredCardSaid : Prop := Claim7.holds Tryz.pinned (.plain (OpenSpec.ofChange topScoredSpec)) topScoredCard

/-- THE TIED CARD OF 'plumblinetop.TopMarks'. -/
def topMarksCard : Claim7 := { stood := { row := topMarksRow, standIns := [], harness := (true, "85884d82799461e58109b84b70383b76a5d1687dbcecf173bfee5c6fe5d57c56"), looks := false }, kinds := [], alts := [], laidByText := true, laidKinds := [.data, .data, .data, .pinned], laidTests := true, laidLooks := .later }
def TopMarksCardSaid : Prop := Claim7.holds Tryz.pinned (.plain (OpenSpec.ofChange topMarksSpec)) topMarksCard

/-- THE TIED CARD OF 'plumblinetop.TopEnded'. -/
def topEndedCard : Claim7 := { stood := { row := topEndedRow, standIns := [], harness := (true, "85884d82799461e58109b84b70383b76a5d1687dbcecf173bfee5c6fe5d57c56"), looks := false }, kinds := [], alts := [], laidByText := true, laidKinds := [.data, .data, .data, .pinned], laidTests := true, laidLooks := .later }
def TopEndedCardSaid : Prop := Claim7.holds Tryz.pinned (.plain (OpenSpec.ofChange topEndedSpec)) topEndedCard

/-- THE TIED CARD OF 'plumblinetop.TopRefused'. -/
def topRefusedCard : Claim7 := { stood := { row := topRefusedRow, standIns := [], harness := (true, "85884d82799461e58109b84b70383b76a5d1687dbcecf173bfee5c6fe5d57c56"), looks := false }, kinds := [], alts := [], laidByText := true, laidKinds := [.data, .data, .data, .pinned], laidTests := true, laidLooks := .later }
def TopRefusedCardSaid : Prop := Claim7.holds Tryz.pinned (.plain (OpenSpec.ofChange topRefusedSpec)) topRefusedCard

/-- THE TIED CARD OF 'plumblinetop.TopRuns'. -/
def topRunsCard : Claim7 := { stood := { row := topRunsRow, standIns := [], harness := (true, "85884d82799461e58109b84b70383b76a5d1687dbcecf173bfee5c6fe5d57c56"), looks := false }, kinds := [], alts := [], laidByText := true, laidKinds := [.data, .data, .data, .pinned], laidTests := true, laidLooks := .later }
def TopRunsCardSaid : Prop := Claim7.holds Tryz.pinned (.plain (OpenSpec.ofChange topRunsSpec)) topRunsCard

/-- THE TIED CARD OF 'plumblinetop.TopEnds'. -/
def topEndsCard : Claim7 := { stood := { row := topEndsRow, standIns := [], harness := (true, "85884d82799461e58109b84b70383b76a5d1687dbcecf173bfee5c6fe5d57c56"), looks := false }, kinds := [], alts := [], laidByText := true, laidKinds := [.data, .data, .data, .pinned], laidTests := true, laidLooks := .later }
def TopEndsCardSaid : Prop := Claim7.holds Tryz.pinned (.plain (OpenSpec.ofChange topEndsSpec)) topEndsCard

/-- THE SECOND FORM's CARD OF 'plumblinetop.TopWhole'. -/
def topWholeUptoCard : Claim7 := { stood := { row := topWholeUptoRow, standIns := [], harness := (true, "85884d82799461e58109b84b70383b76a5d1687dbcecf173bfee5c6fe5d57c56"), looks := false }, kinds := [], alts := [], laidByText := true, laidKinds := [.data, .data, .data, .pinned], laidTests := true, laidLooks := .later }
def TopWholeUptoCardSaid : Prop := Claim7.holds Tryz.pinned (.plain (OpenSpec.upto topWholeSpec)) topWholeUptoCard

/-- THE SECOND FORM's CARD OF 'plumblinetop.TopParts'. -/
def topPartsUptoCard : Claim7 := { stood := { row := topPartsUptoRow, standIns := [], harness := (true, "85884d82799461e58109b84b70383b76a5d1687dbcecf173bfee5c6fe5d57c56"), looks := false }, kinds := [], alts := [], laidByText := true, laidKinds := [.data, .data, .data, .pinned], laidTests := true, laidLooks := .later }
def TopPartsUptoCardSaid : Prop := Claim7.holds Tryz.pinned (.plain (OpenSpec.upto topPartsSpec)) topPartsUptoCard

/-- THE SECOND FORM's CARD OF 'plumblinetop.TopFinal'. -/
def topFinalUptoCard : Claim7 := { stood := { row := topFinalUptoRow, standIns := [], harness := (true, "85884d82799461e58109b84b70383b76a5d1687dbcecf173bfee5c6fe5d57c56"), looks := false }, kinds := [], alts := [], laidByText := true, laidKinds := [.data, .data, .data, .pinned], laidTests := true, laidLooks := .later }
def TopFinalUptoCardSaid : Prop := Claim7.holds Tryz.pinned (.plain (OpenSpec.upto topFinalSpec)) topFinalUptoCard

/-- THE SECOND FORM's CARD OF 'plumblinetop.TopSure'. -/
def topSureUptoCard : Claim7 := { stood := { row := topSureUptoRow, standIns := [], harness := (true, "85884d82799461e58109b84b70383b76a5d1687dbcecf173bfee5c6fe5d57c56"), looks := false }, kinds := [], alts := [], laidByText := true, laidKinds := [.data, .data, .data, .pinned], laidTests := true, laidLooks := .later }
def TopSureUptoCardSaid : Prop := Claim7.holds Tryz.pinned (.plain (OpenSpec.upto topSureSpec)) topSureUptoCard

/-- THE SECOND FORM's CARD OF 'plumblinetop.TopScored'. -/
def topScoredUptoCard : Claim7 := { stood := { row := topScoredUptoRow, standIns := [], harness := (true, "85884d82799461e58109b84b70383b76a5d1687dbcecf173bfee5c6fe5d57c56"), looks := false }, kinds := [], alts := [], laidByText := true, laidKinds := [.data, .data, .data, .pinned], laidTests := true, laidLooks := .later }
def TopScoredUptoCardSaid : Prop := Claim7.holds Tryz.pinned (.plain (OpenSpec.upto topScoredSpec)) topScoredUptoCard

/-- THE SECOND FORM's CARD OF 'plumblinetop.TopMarks'. -/
def topMarksUptoCard : Claim7 := { stood := { row := topMarksUptoRow, standIns := [], harness := (true, "85884d82799461e58109b84b70383b76a5d1687dbcecf173bfee5c6fe5d57c56"), looks := false }, kinds := [], alts := [], laidByText := true, laidKinds := [.data, .data, .data, .pinned], laidTests := true, laidLooks := .later }
def TopMarksUptoCardSaid : Prop := Claim7.holds Tryz.pinned (.plain (OpenSpec.upto topMarksSpec)) topMarksUptoCard

/-- THE SECOND FORM's CARD OF 'plumblinetop.TopEnded'. -/
def topEndedUptoCard : Claim7 := { stood := { row := topEndedUptoRow, standIns := [], harness := (true, "85884d82799461e58109b84b70383b76a5d1687dbcecf173bfee5c6fe5d57c56"), looks := false }, kinds := [], alts := [], laidByText := true, laidKinds := [.data, .data, .data, .pinned], laidTests := true, laidLooks := .later }
def TopEndedUptoCardSaid : Prop := Claim7.holds Tryz.pinned (.plain (OpenSpec.upto topEndedSpec)) topEndedUptoCard

/-- THE SECOND FORM's CARD OF 'plumblinetop.TopRefused'. -/
def topRefusedUptoCard : Claim7 := { stood := { row := topRefusedUptoRow, standIns := [], harness := (true, "85884d82799461e58109b84b70383b76a5d1687dbcecf173bfee5c6fe5d57c56"), looks := false }, kinds := [], alts := [], laidByText := true, laidKinds := [.data, .data, .data, .pinned], laidTests := true, laidLooks := .later }
def TopRefusedUptoCardSaid : Prop := Claim7.holds Tryz.pinned (.plain (OpenSpec.upto topRefusedSpec)) topRefusedUptoCard

/-- THE SECOND FORM's CARD OF 'plumblinetop.TopRuns'. -/
def topRunsUptoCard : Claim7 := { stood := { row := topRunsUptoRow, standIns := [], harness := (true, "85884d82799461e58109b84b70383b76a5d1687dbcecf173bfee5c6fe5d57c56"), looks := false }, kinds := [], alts := [], laidByText := true, laidKinds := [.data, .data, .data, .pinned], laidTests := true, laidLooks := .later }
def TopRunsUptoCardSaid : Prop := Claim7.holds Tryz.pinned (.plain (OpenSpec.upto topRunsSpec)) topRunsUptoCard

/-- THE SECOND FORM's CARD OF 'plumblinetop.TopEnds'. -/
def topEndsUptoCard : Claim7 := { stood := { row := topEndsUptoRow, standIns := [], harness := (true, "85884d82799461e58109b84b70383b76a5d1687dbcecf173bfee5c6fe5d57c56"), looks := false }, kinds := [], alts := [], laidByText := true, laidKinds := [.data, .data, .data, .pinned], laidTests := true, laidLooks := .later }
def TopEndsUptoCardSaid : Prop := Claim7.holds Tryz.pinned (.plain (OpenSpec.upto topEndsSpec)) topEndsUptoCard
end Rows
end Go.Proofs.YtgfndlbmolnblaaGreatDoor
