/-
  DERIVED. GIVEN WITH THE SEED: THE CARDS: each row of YtippbjpodnnhiaaDoorRows.lean that lists a variable, with what it lists TIED to the program's text (the seventh form; the later family's looks); each row that meets fmt, with fmt's text TOLD by the authors' own Lean function (tested against real Go, not proved from fmt's source: count such statements apart). THE CARD IS WHAT COUNTS. Prove the row's statement (the work); the ties are given (YtippbjpodnnhiaaDoorTie.lean); close each card by the builder's one call (the guide's Derived/Test/ToyasCard.lean, 'card_holds'). Laid BY PROGRAM, IN A SANDBOX (cutbox-door.mjs). By AI agents, Wed Nov 11 2026. No macro, syntax, notation, axiom, sorry.
-/
import Derived.Test.YtippbjpodnnhiaaDoorRows
import GoSem.ClaimSeven
namespace Go.Proofs.YtippbjpodnnhiaaDoor
namespace Rows

/-- THE TIED CARD OF 'erewhiletop.WholeKept'. -/
def wholeKeptCard : Claim7 := { stood := { row := wholeKeptRow, standIns := [], harness := (true, "2b988fa52cdb99bfd476ee12cf322eccb91f1b51489fad6d2c870be75ebe8551"), looks := false }, kinds := [], alts := [], laidByText := true, laidKinds := [.data], laidTests := true, laidLooks := .later }
def WholeKeptCardSaid : Prop := Claim7.holds Tryd.pinned (.plain (OpenSpec.ofChange wholeKeptSpec)) wholeKeptCard

/-- THE SECOND FORM's CARD OF 'erewhiletop.WholeKept'. -/
def wholeKeptUptoCard : Claim7 := { stood := { row := wholeKeptUptoRow, standIns := [], harness := (true, "2b988fa52cdb99bfd476ee12cf322eccb91f1b51489fad6d2c870be75ebe8551"), looks := false }, kinds := [], alts := [], laidByText := true, laidKinds := [.data], laidTests := true, laidLooks := .later }
def WholeKeptUptoCardSaid : Prop := Claim7.holds Tryd.pinned (.plain (OpenSpec.upto wholeKeptSpec)) wholeKeptUptoCard
end Rows
end Go.Proofs.YtippbjpodnnhiaaDoor
