/-
  DERIVED. GIVEN WITH THE SEED: THE CARDS: each row of YtmieghihapkgeaaDoorRows.lean that lists a variable, with what it lists TIED to the program's text (the seventh form; the later family's looks); each row that meets fmt, with fmt's text TOLD by the authors' own Lean function (tested against real Go, not proved from fmt's source: count such statements apart). THE CARD IS WHAT COUNTS. Prove the row's statement (the work); the ties are given (YtmieghihapkgeaaDoorTie.lean); close each card by the builder's one call (the guide's Derived/Test/ToyasCard.lean, 'card_holds'). Laid BY PROGRAM, IN A SANDBOX (cutbox-door.mjs). By AI agents, Wed Nov 11 2026. No macro, syntax, notation, axiom, sorry.
-/
import Derived.Test.YtmieghihapkgeaaDoorRows
import GoSem.ClaimSeven
namespace Go.Proofs.YtmieghihapkgeaaDoor
namespace Rows

/-- THE TIED CARD OF 'draymanlaw01.NumSums'. -/
def numSumsCard : Claim7 := { stood := { row := numSumsRow, standIns := [], harness := (true, "cd02287aeb0381433f362fe7ba8ffff57fdb67c53cbcea4eaf3539de7a75711c"), looks := false }, kinds := [], alts := [], laidByText := true, laidKinds := [.data, .data, .data], laidTests := true, laidLooks := .later }
def NumSumsCardSaid : Prop := Claim7.holds Tryd.pinned (.plain (OpenSpec.ofChange numSumsSpec)) numSumsCard

/-- THE TIED CARD OF 'draymanlaw01.NumDigits'. -/
def numDigitsCard : Claim7 := { stood := { row := numDigitsRow, standIns := [], harness := (true, "cd02287aeb0381433f362fe7ba8ffff57fdb67c53cbcea4eaf3539de7a75711c"), looks := false }, kinds := [], alts := [], laidByText := true, laidKinds := [.data, .data, .data], laidTests := true, laidLooks := .later }
def NumDigitsCardSaid : Prop := Claim7.holds Tryd.pinned (.plain (OpenSpec.ofChange numDigitsSpec)) numDigitsCard

/-- THE TIED CARD OF 'draymanlaw01.NumThere'. -/
def numThereCard : Claim7 := { stood := { row := numThereRow, standIns := [], harness := (true, "cd02287aeb0381433f362fe7ba8ffff57fdb67c53cbcea4eaf3539de7a75711c"), looks := false }, kinds := [], alts := [], laidByText := true, laidKinds := [.data, .data, .data], laidTests := true, laidLooks := .later }
def NumThereCardSaid : Prop := Claim7.holds Tryd.pinned (.plain (OpenSpec.ofChange numThereSpec)) numThereCard

/-- THE TIED CARD OF 'draymanlaw01.NumBack'. -/
def numBackCard : Claim7 := { stood := { row := numBackRow, standIns := [], harness := (true, "cd02287aeb0381433f362fe7ba8ffff57fdb67c53cbcea4eaf3539de7a75711c"), looks := false }, kinds := [], alts := [], laidByText := true, laidKinds := [.data, .data, .data], laidTests := true, laidLooks := .later }
def NumBackCardSaid : Prop := Claim7.holds Tryd.pinned (.plain (OpenSpec.ofChange numBackSpec)) numBackCard

/-- THE SECOND FORM's CARD OF 'draymanlaw01.NumSums'. -/
def numSumsUptoCard : Claim7 := { stood := { row := numSumsUptoRow, standIns := [], harness := (true, "cd02287aeb0381433f362fe7ba8ffff57fdb67c53cbcea4eaf3539de7a75711c"), looks := false }, kinds := [], alts := [], laidByText := true, laidKinds := [.data, .data, .data], laidTests := true, laidLooks := .later }
def NumSumsUptoCardSaid : Prop := Claim7.holds Tryd.pinned (.plain (OpenSpec.upto numSumsSpec)) numSumsUptoCard

/-- THE SECOND FORM's CARD OF 'draymanlaw01.NumDigits'. -/
def numDigitsUptoCard : Claim7 := { stood := { row := numDigitsUptoRow, standIns := [], harness := (true, "cd02287aeb0381433f362fe7ba8ffff57fdb67c53cbcea4eaf3539de7a75711c"), looks := false }, kinds := [], alts := [], laidByText := true, laidKinds := [.data, .data, .data], laidTests := true, laidLooks := .later }
def NumDigitsUptoCardSaid : Prop := Claim7.holds Tryd.pinned (.plain (OpenSpec.upto numDigitsSpec)) numDigitsUptoCard

/-- THE SECOND FORM's CARD OF 'draymanlaw01.NumThere'. -/
def numThereUptoCard : Claim7 := { stood := { row := numThereUptoRow, standIns := [], harness := (true, "cd02287aeb0381433f362fe7ba8ffff57fdb67c53cbcea4eaf3539de7a75711c"), looks := false }, kinds := [], alts := [], laidByText := true, laidKinds := [.data, .data, .data], laidTests := true, laidLooks := .later }
def NumThereUptoCardSaid : Prop := Claim7.holds Tryd.pinned (.plain (OpenSpec.upto numThereSpec)) numThereUptoCard

/-- THE SECOND FORM's CARD OF 'draymanlaw01.NumBack'. -/
def numBackUptoCard : Claim7 := { stood := { row := numBackUptoRow, standIns := [], harness := (true, "cd02287aeb0381433f362fe7ba8ffff57fdb67c53cbcea4eaf3539de7a75711c"), looks := false }, kinds := [], alts := [], laidByText := true, laidKinds := [.data, .data, .data], laidTests := true, laidLooks := .later }
def NumBackUptoCardSaid : Prop := Claim7.holds Tryd.pinned (.plain (OpenSpec.upto numBackSpec)) numBackUptoCard
end Rows
end Go.Proofs.YtmieghihapkgeaaDoor
