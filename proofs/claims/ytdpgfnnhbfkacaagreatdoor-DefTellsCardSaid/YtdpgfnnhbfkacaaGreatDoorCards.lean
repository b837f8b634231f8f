/-
  DERIVED. GIVEN WITH THE SEED: THE CARDS: each row of YtdpgfnnhbfkacaaGreatDoorRows.lean that lists a variable, with what it lists TIED to the program's text (the seventh form; the later family's looks); each row that meets fmt, with fmt's text TOLD by the authors' own Lean function (tested against real Go, not proved from fmt's source: count such statements apart). THE CARD IS WHAT COUNTS. Prove the row's statement (the work); the ties are given (YtdpgfnnhbfkacaaGreatDoorTie.lean); close each card by the builder's one call (the guide's Derived/Test/ToyasCard.lean, 'card_holds'). Laid BY PROGRAM, IN A SANDBOX (cutbox-door.mjs). By AI agents, Wed Nov 11 2026. No macro, syntax, notation, axiom, sorry.
-/
import Derived.Test.YtdpgfnnhbfkacaaGreatDoorRows
import GoSem.ClaimSeven
namespace Go.Proofs.YtdpgfnnhbfkacaaGreatDoor
namespace Rows

/-- THE TIED CARD OF 'draymanlaw21.DefTells'. -/
def defTellsCard : Claim7 := { stood := { row := defTellsRow, standIns := [], harness := (true, "2e726b84e23deddcda10e14583d5018017524ac94c4a8846863c6415ad27853f"), looks := false }, kinds := [], alts := [], laidByText := true, laidKinds := [.data, .data, .data, .data, .pinned], laidTests := true, laidLooks := .later }
def DefTellsCardSaid : Prop := Claim7.holds Tryz.pinned (.plain (OpenSpec.ofChange defTellsSpec)) defTellsCard

/-- THE TIED CARD OF 'draymanlaw21.DefReads'. -/
def defReadsCard : Claim7 := { stood := { row := defReadsRow, standIns := [], harness := (true, "2e726b84e23deddcda10e14583d5018017524ac94c4a8846863c6415ad27853f"), looks := false }, kinds := [], alts := [], laidByText := true, laidKinds := [.data, .pinned], laidTests := true, laidLooks := .later }
def DefReadsCardSaid : Prop := Claim7.holds Tryz.pinned (.plain (OpenSpec.ofChange defReadsSpec)) defReadsCard

/-- THE TIED CARD OF 'draymanlaw21.DefBack'. -/
def defBackCard : Claim7 := { stood := { row := defBackRow, standIns := [], harness := (true, "2e726b84e23deddcda10e14583d5018017524ac94c4a8846863c6415ad27853f"), looks := false }, kinds := [], alts := [], laidByText := true, laidKinds := [.data, .data, .data, .data, .pinned], laidTests := true, laidLooks := .later }
def DefBackCardSaid : Prop := Claim7.holds Tryz.pinned (.plain (OpenSpec.ofChange defBackSpec)) defBackCard

/-- THE SECOND FORM's CARD OF 'draymanlaw21.DefTells'. -/
def defTellsUptoCard : Claim7 := { stood := { row := defTellsUptoRow, standIns := [], harness := (true, "2e726b84e23deddcda10e14583d5018017524ac94c4a8846863c6415ad27853f"), looks := false }, kinds := [], alts := [], laidByText := true, laidKinds := [.data, .data, .data, .data, .pinned], laidTests := true, laidLooks := .later }
def DefTellsUptoCardSaid : Prop := Claim7.holds Tryz.pinned (.plain (OpenSpec.upto defTellsSpec)) defTellsUptoCard

/-- THE SECOND FORM's CARD OF 'draymanlaw21.DefReads'. -/
def defReadsUptoCard : Claim7 := { stood := { row := defReadsUptoRow, standIns := [], harness := (true, "2e726b84e23deddcda10e14583d5018017524ac94c4a8846863c6415ad27853f"), looks := false }, kinds := [], alts := [], laidByText := true, laidKinds := [.data, .pinned], laidTests := true, laidLooks := .later }
def DefReadsUptoCardSaid : Prop := Claim7.holds Tryz.pinned (.plain (OpenSpec.upto defReadsSpec)) defReadsUptoCard

/-- THE SECOND FORM's CARD OF 'draymanlaw21.DefBack'. -/
def defBackUptoCard : Claim7 := { stood := { row := defBackUptoRow, standIns := [], harness := (true, "2e726b84e23deddcda10e14583d5018017524ac94c4a8846863c6415ad27853f"), looks := false }, kinds := [], alts := [], laidByText := true, laidKinds := [.data, .data, .data, .data, .pinned], laidTests := true, laidLooks := .later }
def DefBackUptoCardSaid : Prop := Claim7.holds Tryz.pinned (.plain (OpenSpec.upto defBackSpec)) defBackUptoCard
end Rows
end Go.Proofs.YtdpgfnnhbfkacaaGreatDoor
