/-
  DERIVED. GIVEN WITH THE SEED: THE CARDS: each row of YtdpgfnnhbfkacaaDoorRows.lean that lists a variable, with what it lists TIED to the program's text (the seventh form; the later family's looks); each row that meets fmt, with fmt's text TOLD by the authors' own Lean function (tested against real Go, not proved from fmt's source: count such statements apart). THE CARD IS WHAT COUNTS. Prove the row's statement (the work); the ties are given (YtdpgfnnhbfkacaaDoorTie.lean); close each card by the builder's one call (the guide's Derived/Test/ToyasCard.lean, 'card_holds'). Laid BY PROGRAM, IN A SANDBOX (cutbox-door.mjs). By AI agents, Wed Nov 11 2026. No macro, syntax, notation, axiom, sorry.
-/
import Derived.Test.YtdpgfnnhbfkacaaDoorRows
import GoSem.ClaimSeven
namespace Go.Proofs.YtdpgfnnhbfkacaaDoor
namespace Rows

/-- THE TIED CARD OF 'draymanlaw21.DefOrder'. -/
def defOrderCard : Claim7 := { stood := { row := defOrderRow, standIns := [], harness := (true, "52d94dd45e6d186bb431a8d26d0c31176ef68a267758f1cdb69a6f2277b5cd8e"), looks := false }, kinds := [], alts := [], laidByText := true, laidKinds := [.data, .pinned], laidTests := true, laidLooks := .later }
def DefOrderCardSaid : Prop := Claim7.holds Tryd.pinned (.plain (OpenSpec.ofChange defOrderSpec)) defOrderCard

/-- THE TIED CARD OF 'draymanlaw21.DefBuilt'. -/
def defBuiltCard : Claim7 := { stood := { row := defBuiltRow, standIns := [], harness := (true, "52d94dd45e6d186bb431a8d26d0c31176ef68a267758f1cdb69a6f2277b5cd8e"), looks := false }, kinds := [], alts := [], laidByText := true, laidKinds := [.data, .data, .data, .data, .pinned], laidTests := true, laidLooks := .later }
def DefBuiltCardSaid : Prop := Claim7.holds Tryd.pinned (.plain (OpenSpec.ofChange defBuiltSpec)) defBuiltCard

/-- THE SECOND FORM's CARD OF 'draymanlaw21.DefOrder'. -/
def defOrderUptoCard : Claim7 := { stood := { row := defOrderUptoRow, standIns := [], harness := (true, "52d94dd45e6d186bb431a8d26d0c31176ef68a267758f1cdb69a6f2277b5cd8e"), looks := false }, kinds := [], alts := [], laidByText := true, laidKinds := [.data, .pinned], laidTests := true, laidLooks := .later }
def DefOrderUptoCardSaid : Prop := Claim7.holds Tryd.pinned (.plain (OpenSpec.upto defOrderSpec)) defOrderUptoCard

/-- THE SECOND FORM's CARD OF 'draymanlaw21.DefBuilt'. -/
def defBuiltUptoCard : Claim7 := { stood := { row := defBuiltUptoRow, standIns := [], harness := (true, "52d94dd45e6d186bb431a8d26d0c31176ef68a267758f1cdb69a6f2277b5cd8e"), looks := false }, kinds := [], alts := [], laidByText := true, laidKinds := [.data, .data, .data, .data, .pinned], laidTests := true, laidLooks := .later }
def DefBuiltUptoCardSaid : Prop := Claim7.holds Tryd.pinned (.plain (OpenSpec.upto defBuiltSpec)) defBuiltUptoCard
end Rows
end Go.Proofs.YtdpgfnnhbfkacaaDoor
