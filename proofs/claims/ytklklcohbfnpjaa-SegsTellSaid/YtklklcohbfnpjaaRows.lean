/-
  No cell of these rows narrows 'for every input' (looked for: loops, veiled, ifaces, maps, wideKeys, modest, calm, conditions, laid).
  DERIVED. THE GIVEN ROWS OF THIS SEAT. 3 by the template 'for every input the law returns true; each argument reads behind the call as it read before'; 0 by the template 'total and deterministic' (their statements: YtklklcohbfnpjaaTotals.lean).
  GIVEN WITH THE SEED: the statements are not yours to turn. If you find one false, say at which input.
  Laid BY PROGRAM, IN A SANDBOX (cutbox-rows.mjs): the forced cells as the released guide's own fill.sh prints them over the translation a09b14b7c1fb94c2… (all of the seat's roots in one cut). By AI agents, Wed Nov 11 2026. No macro, syntax, notation, axiom, sorry.
-/
import Derived.Test.YtklklcohbfnpjaaChecked
import GoSem.Claim
import GoSem.ClaimJoined
import GoSem.ClaimMapViews
import Derived.JoinedTies
import Derived.KernelRfl
namespace Go.Proofs.Ytklklcohbfnpjaa
/- THE CELL 'sum', in the pinned program and in every row, IS THE sha256 OF THE DUMP (.gsa) THAT YtklklcohbfnpjaaProg.lean LOADS. Nothing in Lean hashes anything: it is a label: what it is worth is what the hold of that sum in a sandbox is worth. -/
noncomputable def Try.pinned : Pinned := { name := "ytklklcohbfnpjaa", sum := "a09b14b7c1fb94c2445b6d544c87a64b393384fd189d360fcdeda390de00e892", checked := Try.checked }
namespace Rows
def none {H : Type} : Left H := { results := [], args := [] }

/-- 'draymanlaw09.SegsTell': WHATEVER THE INPUT: true; the input reads as it did. -/
def segsTellSpec : ChangeSpec := { name := "segsTell", fn := fun _ => fun
  | [d1, d2] => { results := [.lit (.bool true)], args := [d1, d2] }
  | _ => none }
def segsTellRow : OpenClaim := { program := "ytklklcohbfnpjaa", sum := "a09b14b7c1fb94c2445b6d544c87a64b393384fd189d360fcdeda390de00e892", func := "drayman/draymanlaw09.SegsTell", spec := "segsTell", apart := false }
def SegsTellSaid : Prop := segsTellRow.holds Try.pinned (OpenSpec.ofChange segsTellSpec)

/-- ITS FALSE NEIGHBOUR: 'it returns false'. Refute it at one input. -/
def segsTellWrong : ChangeSpec := { name := "segsTell", fn := fun _ => fun
  | [d1, d2] => { results := [.lit (.bool false)], args := [d1, d2] }
  | _ => none }
def SegsTellWrongFalsely : Prop := segsTellRow.holds Try.pinned (OpenSpec.ofChange segsTellWrong)

/-- 'draymanlaw09.SegsErase': WHATEVER THE INPUT: true; the input reads as it did. -/
def segsEraseSpec : ChangeSpec := { name := "segsErase", fn := fun _ => fun
  | [d1, d2, d3] => { results := [.lit (.bool true)], args := [d1, d2, d3] }
  | _ => none }
def segsEraseRow : OpenClaim := { program := "ytklklcohbfnpjaa", sum := "a09b14b7c1fb94c2445b6d544c87a64b393384fd189d360fcdeda390de00e892", func := "drayman/draymanlaw09.SegsErase", spec := "segsErase", inPlace := ["internal/abi.NoEscape", "internal/bytealg.MakeNoZero"], unfollowed := true, recurses := true, apart := false }
def SegsEraseSaid : Prop := segsEraseRow.holds Try.pinned (OpenSpec.ofChange segsEraseSpec)

/-- ITS FALSE NEIGHBOUR: 'it returns false'. Refute it at one input. -/
def segsEraseWrong : ChangeSpec := { name := "segsErase", fn := fun _ => fun
  | [d1, d2, d3] => { results := [.lit (.bool false)], args := [d1, d2, d3] }
  | _ => none }
def SegsEraseWrongFalsely : Prop := segsEraseRow.holds Try.pinned (OpenSpec.ofChange segsEraseWrong)

/-- 'draymanlaw09.SegsApart': WHATEVER THE INPUT: true; the input reads as it did. -/
def segsApartSpec : ChangeSpec := { name := "segsApart", fn := fun _ => fun
  | [d1, d2, d3] => { results := [.lit (.bool true)], args := [d1, d2, d3] }
  | _ => none }
def segsApartRow : OpenClaim := { program := "ytklklcohbfnpjaa", sum := "a09b14b7c1fb94c2445b6d544c87a64b393384fd189d360fcdeda390de00e892", func := "drayman/draymanlaw09.SegsApart", spec := "segsApart", apart := false }
def SegsApartSaid : Prop := segsApartRow.holds Try.pinned (OpenSpec.ofChange segsApartSpec)

/-- ITS FALSE NEIGHBOUR: 'it returns false'. Refute it at one input. -/
def segsApartWrong : ChangeSpec := { name := "segsApart", fn := fun _ => fun
  | [d1, d2, d3] => { results := [.lit (.bool false)], args := [d1, d2, d3] }
  | _ => none }
def SegsApartWrongFalsely : Prop := segsApartRow.holds Try.pinned (OpenSpec.ofChange segsApartWrong)

/- THE SECOND FORM. 'bulk': how many values and letters a reading holds, each counted each time it is reached (what is shared counts as often as it is met; a slice's spare places count too). A statement '..UptoSaid' is the law's where the arguments, and the package variables that the reading takes, are together of bulk at most 1048576: NARROWER than '..Said'. Prove '..Said' where nothing that the law and all that it calls make is longer than what came in: it says more and counts as full. Else prove '..UptoSaid'. A law counts once. -/
mutual
def uptoBulk {H : Type} : DataW H → Nat
  | .lit (.string bytes) => bytes.length + 1
  | .lit _ => 1
  | .nil => 1
  | .ptr d => uptoBulk d + 1
  | .slice elems spare => uptoBulkAll elems + uptoBulkAll spare + 1
  | .agg parts => uptoBulkAll parts + 1
  | .iface _ d => uptoBulk d + 1
  | .map entries => uptoBulkEntries entries + 1
  | .held _ => 1
def uptoBulkAll {H : Type} : List (DataW H) → Nat
  | [] => 0
  | d :: r => uptoBulk d + uptoBulkAll r
def uptoBulkEntries {H : Type} : List (Lit × DataW H) → Nat
  | [] => 0
  | x :: r => uptoBulkEntry x + uptoBulkEntries r
def uptoBulkEntry {H : Type} : Lit × DataW H → Nat
  | (.string bytes, d) => bytes.length + uptoBulk d + 1
  | (_, d) => uptoBulk d + 1
 end
def uptoSmall : (H : Type) → List (DataW H) → Bool := fun _ ds => decide (uptoBulkAll ds ≤ 1048576)
def OpenSpec.upto (s : _root_.Go.ChangeSpec) : _root_.Go.OpenSpec := { _root_.Go.OpenSpec.ofChange s with cond := some uptoSmall }

/-- 'draymanlaw09.SegsTell', WHERE WHAT IT READS IS OF BULK AT MOST 1048576: true; the input reads as it did. -/
def segsTellUptoRow : OpenClaim := { program := "ytklklcohbfnpjaa", sum := "a09b14b7c1fb94c2445b6d544c87a64b393384fd189d360fcdeda390de00e892", func := "drayman/draymanlaw09.SegsTell", spec := "segsTell", apart := false, narrowed := true }
def SegsTellUptoSaid : Prop := segsTellUptoRow.holds Try.pinned (OpenSpec.upto segsTellSpec)

/-- 'draymanlaw09.SegsErase', WHERE WHAT IT READS IS OF BULK AT MOST 1048576: true; the input reads as it did. -/
def segsEraseUptoRow : OpenClaim := { program := "ytklklcohbfnpjaa", sum := "a09b14b7c1fb94c2445b6d544c87a64b393384fd189d360fcdeda390de00e892", func := "drayman/draymanlaw09.SegsErase", spec := "segsErase", inPlace := ["internal/abi.NoEscape", "internal/bytealg.MakeNoZero"], unfollowed := true, recurses := true, apart := false, narrowed := true }
def SegsEraseUptoSaid : Prop := segsEraseUptoRow.holds Try.pinned (OpenSpec.upto segsEraseSpec)

/-- 'draymanlaw09.SegsApart', WHERE WHAT IT READS IS OF BULK AT MOST 1048576: true; the input reads as it did. -/
def segsApartUptoRow : OpenClaim := { program := "ytklklcohbfnpjaa", sum := "a09b14b7c1fb94c2445b6d544c87a64b393384fd189d360fcdeda390de00e892", func := "drayman/draymanlaw09.SegsApart", spec := "segsApart", apart := false, narrowed := true }
def SegsApartUptoSaid : Prop := segsApartUptoRow.holds Try.pinned (OpenSpec.upto segsApartSpec)

end Rows
end Go.Proofs.Ytklklcohbfnpjaa
