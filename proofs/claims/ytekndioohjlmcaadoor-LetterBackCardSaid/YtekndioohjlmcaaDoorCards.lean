/-
  DERIVED. GIVEN WITH THE SEED: THE CARDS: each row of YtekndioohjlmcaaDoorRows.lean that lists a variable, with what it lists TIED to the program's text (the seventh form; the later family's looks); each row that meets fmt, with fmt's text TOLD by the authors' own Lean function (tested against real Go, not proved from fmt's source: count such statements apart). THE CARD IS WHAT COUNTS. Prove the row's statement (the work); the ties are given (YtekndioohjlmcaaDoorTie.lean); close each card by the builder's one call (the guide's Derived/Test/ToyasCard.lean, 'card_holds'). Laid BY PROGRAM, IN A SANDBOX (cutbox-door.mjs). By AI agents, Wed Nov 11 2026. No macro, syntax, notation, axiom, sorry.
-/
import Derived.Test.YtekndioohjlmcaaDoorRows
import GoSem.ClaimSeven
namespace Go.Proofs.YtekndioohjlmcaaDoor
namespace Rows

/-- THE TIED CARD OF 'draymanlaw19.LetterTells'. -/
def letterTellsCard : Claim7 := { stood := { row := letterTellsRow, standIns := [], harness := (true, "05eaf123a20c0978c4a51281e091388d19c45145f32d239b73deb13b2acfb862"), looks := false }, kinds := [], alts := [], laidByText := true, laidKinds := [.data, .data, .data], laidTests := true, laidLooks := .later }
def LetterTellsCardSaid : Prop := Claim7.holds Tryd.pinned (.plain (OpenSpec.ofChange letterTellsSpec)) letterTellsCard

/-- THE TIED CARD OF 'draymanlaw19.LetterTurns'. -/
def letterTurnsCard : Claim7 := { stood := { row := letterTurnsRow, standIns := [], harness := (true, "05eaf123a20c0978c4a51281e091388d19c45145f32d239b73deb13b2acfb862"), looks := false }, kinds := [], alts := [], laidByText := true, laidKinds := [.data, .data, .data], laidTests := true, laidLooks := .later }
def LetterTurnsCardSaid : Prop := Claim7.holds Tryd.pinned (.plain (OpenSpec.ofChange letterTurnsSpec)) letterTurnsCard

/-- THE TIED CARD OF 'draymanlaw19.LetterBack'. -/
def letterBackCard : Claim7 := { stood := { row := letterBackRow, standIns := [], harness := (true, "05eaf123a20c0978c4a51281e091388d19c45145f32d239b73deb13b2acfb862"), looks := false }, kinds := [], alts := [], laidByText := true, laidKinds := [.data, .data, .data], laidTests := true, laidLooks := .later }
def LetterBackCardSaid : Prop := Claim7.holds Tryd.pinned (.plain (OpenSpec.ofChange letterBackSpec)) letterBackCard

/-- THE SECOND FORM's CARD OF 'draymanlaw19.LetterTells'. -/
def letterTellsUptoCard : Claim7 := { stood := { row := letterTellsUptoRow, standIns := [], harness := (true, "05eaf123a20c0978c4a51281e091388d19c45145f32d239b73deb13b2acfb862"), looks := false }, kinds := [], alts := [], laidByText := true, laidKinds := [.data, .data, .data], laidTests := true, laidLooks := .later }
def LetterTellsUptoCardSaid : Prop := Claim7.holds Tryd.pinned (.plain (OpenSpec.upto letterTellsSpec)) letterTellsUptoCard

/-- THE SECOND FORM's CARD OF 'draymanlaw19.LetterTurns'. -/
def letterTurnsUptoCard : Claim7 := { stood := { row := letterTurnsUptoRow, standIns := [], harness := (true, "05eaf123a20c0978c4a51281e091388d19c45145f32d239b73deb13b2acfb862"), looks := false }, kinds := [], alts := [], laidByText := true, laidKinds := [.data, .data, .data], laidTests := true, laidLooks := .later }
def LetterTurnsUptoCardSaid : Prop := Claim7.holds Tryd.pinned (.plain (OpenSpec.upto letterTurnsSpec)) letterTurnsUptoCard

/-- THE SECOND FORM's CARD OF 'draymanlaw19.LetterBack'. -/
def letterBackUptoCard : Claim7 := { stood := { row := letterBackUptoRow, standIns := [], harness := (true, "05eaf123a20c0978c4a51281e091388d19c45145f32d239b73deb13b2acfb862"), looks := false }, kinds := [], alts := [], laidByText := true, laidKinds := [.data, .data, .data], laidTests := true, laidLooks := .later }
def LetterBackUptoCardSaid : Prop := Claim7.holds Tryd.pinned (.plain (OpenSpec.upto letterBackSpec)) letterBackUptoCard
end Rows
end Go.Proofs.YtekndioohjlmcaaDoor
