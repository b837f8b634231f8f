/-
  DERIVED. GIVEN WITH THE SEED: THE CARDS: each row of YtpaemofjeadhcaaDoorRows.lean that lists a variable, with what it lists TIED to the program's text (the seventh form; the later family's looks); each row that meets fmt, with fmt's text TOLD by the authors' own Lean function (tested against real Go, not proved from fmt's source: count such statements apart). THE CARD IS WHAT COUNTS. Prove the row's statement (the work); the ties are given (YtpaemofjeadhcaaDoorTie.lean); close each card by the builder's one call (the guide's Derived/Test/ToyasCard.lean, 'card_holds'). Laid BY PROGRAM, IN A SANDBOX (cutbox-door.mjs). By AI agents, Wed Nov 11 2026. No macro, syntax, notation, axiom, sorry.
-/
import Derived.Test.YtpaemofjeadhcaaDoorRows
import GoSem.ClaimSeven
namespace Go.Proofs.YtpaemofjeadhcaaDoor
namespace Rows

/-- THE TIED CARD OF 'draymanlaw11.LinesNorm'. -/
def linesNormCard : Claim7 := { stood := { row := linesNormRow, standIns := [], harness := (true, "d0a40eedaa80d7d627937437257dd3f10ed7a37fdccad1a023c080726d9e5e7d"), looks := false }, kinds := [], alts := [], laidByText := true, laidKinds := [.data, .data, .data, .data, .pinned], laidTests := true, laidLooks := .later }
def LinesNormCardSaid : Prop := Claim7.holds Tryd.pinned (.plain (OpenSpec.ofChange linesNormSpec)) linesNormCard

/-- THE TIED CARD OF 'draymanlaw11.LinesOrder'. -/
def linesOrderCard : Claim7 := { stood := { row := linesOrderRow, standIns := [], harness := (true, "d0a40eedaa80d7d627937437257dd3f10ed7a37fdccad1a023c080726d9e5e7d"), looks := false }, kinds := [], alts := [], laidByText := true, laidKinds := [.data, .data, .data, .data, .pinned], laidTests := true, laidLooks := .later }
def LinesOrderCardSaid : Prop := Claim7.holds Tryd.pinned (.plain (OpenSpec.ofChange linesOrderSpec)) linesOrderCard

/-- THE SECOND FORM's CARD OF 'draymanlaw11.LinesNorm'. -/
def linesNormUptoCard : Claim7 := { stood := { row := linesNormUptoRow, standIns := [], harness := (true, "d0a40eedaa80d7d627937437257dd3f10ed7a37fdccad1a023c080726d9e5e7d"), looks := false }, kinds := [], alts := [], laidByText := true, laidKinds := [.data, .data, .data, .data, .pinned], laidTests := true, laidLooks := .later }
def LinesNormUptoCardSaid : Prop := Claim7.holds Tryd.pinned (.plain (OpenSpec.upto linesNormSpec)) linesNormUptoCard

/-- THE SECOND FORM's CARD OF 'draymanlaw11.LinesOrder'. -/
def linesOrderUptoCard : Claim7 := { stood := { row := linesOrderUptoRow, standIns := [], harness := (true, "d0a40eedaa80d7d627937437257dd3f10ed7a37fdccad1a023c080726d9e5e7d"), looks := false }, kinds := [], alts := [], laidByText := true, laidKinds := [.data, .data, .data, .data, .pinned], laidTests := true, laidLooks := .later }
def LinesOrderUptoCardSaid : Prop := Claim7.holds Tryd.pinned (.plain (OpenSpec.upto linesOrderSpec)) linesOrderUptoCard
end Rows
end Go.Proofs.YtpaemofjeadhcaaDoor
