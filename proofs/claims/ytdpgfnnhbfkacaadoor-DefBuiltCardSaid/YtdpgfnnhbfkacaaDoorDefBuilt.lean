/-
  Plain facts of def: the definitions that are built in; nothing of the program.
-/
import Derived.Test.YtdpgfnnhbfkacaaDoorDefWire
set_option linter.unusedVariables false
set_option maxRecDepth 8000
namespace Go.Proofs.YtdpgfnnhbfkacaaDoor
namespace DefP

def fulfilS : List Step := [⟨1, 1, 0, 1, 1, 40⟩, ⟨2, 1, 3, 1, 8, 30⟩, ⟨3, 1, 0, 1, 1, 0⟩, ⟨4, 2, 3, 1, 8, 0⟩, ⟨5, 3, 0, 1, 1, 0⟩, ⟨6, 3, 5, 1, 8, 0⟩]
def fulfilB : ByteArray := ⟨#[102, 117, 108, 102, 105, 108]⟩
def fulfilT : List UInt8 := [102, 117, 108, 102, 105, 108, 32, 104, 111, 108, 100, 47, 115, 111, 102, 116, 47, 48, 47, 49, 47, 49, 47, 52, 48, 44, 97, 117, 116, 104, 47, 115, 111, 102, 116, 47, 51, 47, 49, 47, 56, 47, 51, 48, 44, 107, 101, 101, 112, 47, 115, 111, 102, 116, 47, 48, 47, 49, 47, 49, 47, 48, 44, 98, 111, 111, 107, 47, 112, 105, 118, 111, 116, 47, 51, 47, 49, 47, 56, 47, 48, 44, 115, 101, 110, 100, 47, 102, 105, 114, 109, 47, 48, 47, 49, 47, 49, 47, 48, 44, 116, 97, 107, 101, 47, 102, 105, 114, 109, 47, 53, 47, 49, 47, 56, 47, 48]
theorem fulfil_fit : fitL fulfilS = true := by decide
theorem fulfil_name : nm fulfilB = true := by decide
theorem fulfil_read : readD fulfilT = some ⟨fulfilB, fulfilS⟩ := by rfl
theorem fulfil_text : textD ⟨fulfilB, fulfilS⟩ = fulfilT := (readD_some fulfil_read).2
def pickupS : List Step := [⟨1, 1, 0, 1, 1, 20⟩, ⟨2, 1, 2, 1, 4, 20⟩, ⟨3, 1, 0, 1, 1, 0⟩, ⟨6, 2, 2, 1, 4, 0⟩, ⟨5, 3, 0, 1, 1, 0⟩]
def pickupB : ByteArray := ⟨#[112, 105, 99, 107, 117, 112]⟩
def pickupT : List UInt8 := [112, 105, 99, 107, 117, 112, 32, 104, 111, 108, 100, 47, 115, 111, 102, 116, 47, 48, 47, 49, 47, 49, 47, 50, 48, 44, 97, 117, 116, 104, 47, 115, 111, 102, 116, 47, 50, 47, 49, 47, 52, 47, 50, 48, 44, 107, 101, 101, 112, 47, 115, 111, 102, 116, 47, 48, 47, 49, 47, 49, 47, 48, 44, 116, 97, 107, 101, 47, 112, 105, 118, 111, 116, 47, 50, 47, 49, 47, 52, 47, 48, 44, 115, 101, 110, 100, 47, 102, 105, 114, 109, 47, 48, 47, 49, 47, 49, 47, 48]
theorem pickup_fit : fitL pickupS = true := by decide
theorem pickup_name : nm pickupB = true := by decide
theorem pickup_read : readD pickupT = some ⟨pickupB, pickupS⟩ := by rfl
theorem pickup_text : textD ⟨pickupB, pickupS⟩ = pickupT := (readD_some pickup_read).2
def prepaidS : List Step := [⟨2, 1, 3, 2, 8, 0⟩, ⟨6, 1, 3, 2, 8, 0⟩, ⟨4, 1, 3, 1, 4, 50⟩]
def prepaidB : ByteArray := ⟨#[112, 114, 101, 112, 97, 105, 100]⟩
def prepaidT : List UInt8 := [112, 114, 101, 112, 97, 105, 100, 32, 97, 117, 116, 104, 47, 115, 111, 102, 116, 47, 51, 47, 50, 47, 56, 47, 48, 44, 116, 97, 107, 101, 47, 115, 111, 102, 116, 47, 51, 47, 50, 47, 56, 47, 48, 44, 98, 111, 111, 107, 47, 115, 111, 102, 116, 47, 51, 47, 49, 47, 52, 47, 53, 48]
theorem prepaid_fit : fitL prepaidS = true := by decide
theorem prepaid_name : nm prepaidB = true := by decide
theorem prepaid_read : readD prepaidT = some ⟨prepaidB, prepaidS⟩ := by rfl
theorem prepaid_text : textD ⟨prepaidB, prepaidS⟩ = prepaidT := (readD_some prepaid_read).2
/-- The chapter's example: a text that is none. -/
theorem keep_alone : readD [120, 32, 107, 101, 101, 112, 47, 115, 111, 102, 116, 47, 48, 47, 49, 47, 49, 47, 48] = none := by rfl
theorem fulfil_piv : pivL fulfilS = 3 := by decide
theorem prepaid_piv : pivL prepaidS = -1 := by decide
theorem pickup_take : placeL pickupS 6 = 3 := by decide
end DefP
end Go.Proofs.YtdpgfnnhbfkacaaDoor
