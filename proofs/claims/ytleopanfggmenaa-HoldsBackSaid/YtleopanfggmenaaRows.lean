/-
  No cell of these rows narrows 'for every input' (looked for: loops, veiled, ifaces, maps, wideKeys, modest, calm, conditions, laid).
  DERIVED. THE GIVEN ROWS OF THIS SEAT. 3 by the template 'for every input the law returns true; each argument reads behind the call as it read before'; 0 by the template 'total and deterministic' (their statements: YtleopanfggmenaaTotals.lean).
  GIVEN WITH THE SEED: the statements are not yours to turn. If you find one false, say at which input.
  Laid BY PROGRAM, IN A SANDBOX (cutbox-rows.mjs): the forced cells as the released guide's own fill.sh prints them over the translation 904a7f472645084d… (all of the seat's roots in one cut). By AI agents, Wed Nov 11 2026. No macro, syntax, notation, axiom, sorry.
-/
import Derived.Test.YtleopanfggmenaaChecked
import GoSem.Claim
import GoSem.ClaimJoined
import GoSem.ClaimMapViews
import Derived.JoinedTies
import Derived.KernelRfl
namespace Go.Proofs.Ytleopanfggmenaa
/- THE CELL 'sum', in the pinned program and in every row, IS THE sha256 OF THE DUMP (.gsa) THAT YtleopanfggmenaaProg.lean LOADS. Nothing in Lean hashes anything: it is a label: what it is worth is what the hold of that sum in a sandbox is worth. -/
noncomputable def Try.pinned : Pinned := { name := "ytleopanfggmenaa", sum := "904a7f472645084d6795e437e4ab0b35581f42e0f1a143a9229fbd142c50937a", checked := Try.checked }
namespace Rows
def none {H : Type} : Left H := { results := [], args := [] }

/-- 'draymanlaw13.HoldsTell': WHATEVER THE INPUT: true; the input reads as it did. -/
def holdsTellSpec : ChangeSpec := { name := "holdsTell", fn := fun _ => fun
  | [d1, d2, d3, d4] => { results := [.lit (.bool true)], args := [d1, d2, d3, d4] }
  | _ => none }
def holdsTellRow : OpenClaim := { program := "ytleopanfggmenaa", sum := "904a7f472645084d6795e437e4ab0b35581f42e0f1a143a9229fbd142c50937a", func := "drayman/draymanlaw13.HoldsTell", spec := "holdsTell", unfollowed := true, recurses := true, apart := false }
def HoldsTellSaid : Prop := holdsTellRow.holds Try.pinned (OpenSpec.ofChange holdsTellSpec)

/-- ITS FALSE NEIGHBOUR: 'it returns false'. Refute it at one input. -/
def holdsTellWrong : ChangeSpec := { name := "holdsTell", fn := fun _ => fun
  | [d1, d2, d3, d4] => { results := [.lit (.bool false)], args := [d1, d2, d3, d4] }
  | _ => none }
def HoldsTellWrongFalsely : Prop := holdsTellRow.holds Try.pinned (OpenSpec.ofChange holdsTellWrong)

/-- 'draymanlaw13.HoldsTurn': WHATEVER THE INPUT: true; the input reads as it did. -/
def holdsTurnSpec : ChangeSpec := { name := "holdsTurn", fn := fun _ => fun
  | [d1, d2, d3] => { results := [.lit (.bool true)], args := [d1, d2, d3] }
  | _ => none }
def holdsTurnRow : OpenClaim := { program := "ytleopanfggmenaa", sum := "904a7f472645084d6795e437e4ab0b35581f42e0f1a143a9229fbd142c50937a", func := "drayman/draymanlaw13.HoldsTurn", spec := "holdsTurn", unfollowed := true, recurses := true, apart := false }
def HoldsTurnSaid : Prop := holdsTurnRow.holds Try.pinned (OpenSpec.ofChange holdsTurnSpec)

/-- ITS FALSE NEIGHBOUR: 'it returns false'. Refute it at one input. -/
def holdsTurnWrong : ChangeSpec := { name := "holdsTurn", fn := fun _ => fun
  | [d1, d2, d3] => { results := [.lit (.bool false)], args := [d1, d2, d3] }
  | _ => none }
def HoldsTurnWrongFalsely : Prop := holdsTurnRow.holds Try.pinned (OpenSpec.ofChange holdsTurnWrong)

/-- 'draymanlaw13.HoldsBack': WHATEVER THE INPUT: true; the input reads as it did. -/
def holdsBackSpec : ChangeSpec := { name := "holdsBack", fn := fun _ => fun
  | [d1, d2, d3] => { results := [.lit (.bool true)], args := [d1, d2, d3] }
  | _ => none }
def holdsBackRow : OpenClaim := { program := "ytleopanfggmenaa", sum := "904a7f472645084d6795e437e4ab0b35581f42e0f1a143a9229fbd142c50937a", func := "drayman/draymanlaw13.HoldsBack", spec := "holdsBack", unfollowed := true, recurses := true, apart := false }
def HoldsBackSaid : Prop := holdsBackRow.holds Try.pinned (OpenSpec.ofChange holdsBackSpec)

/-- ITS FALSE NEIGHBOUR: 'it returns false'. Refute it at one input. -/
def holdsBackWrong : ChangeSpec := { name := "holdsBack", fn := fun _ => fun
  | [d1, d2, d3] => { results := [.lit (.bool false)], args := [d1, d2, d3] }
  | _ => none }
def HoldsBackWrongFalsely : Prop := holdsBackRow.holds Try.pinned (OpenSpec.ofChange holdsBackWrong)

/- THE SECOND FORM. 'bulk': how many values and letters a reading holds, each counted each time it is reached (what is shared counts as often as it is met; a slice's spare places count too). A statement '..UptoSaid' is the law's where the arguments, and the package variables that the reading takes, are together of bulk at most 1048576: NARROWER than '..Said'. Prove '..Said' where nothing that the law and all that it calls make is longer than what came in: it says more and counts as full. Else prove '..UptoSaid'. A law counts once. -/
mutual
def uptoBulk {H : Type} : DataW H → Nat
  | .lit (.string bytes) => bytes.length + 1
  | .lit _ => 1
  | .nil => 1
  | .ptr d => uptoBulk d + 1
  | .slice elems spare => uptoBulkAll elems + uptoBulkAll spare + 1
  | .agg parts => uptoBulkAll parts + 1
  | .iface _ d => uptoBulk d + 1
  | .map entries => uptoBulkEntries entries + 1
  | .held _ => 1
def uptoBulkAll {H : Type} : List (DataW H) → Nat
  | [] => 0
  | d :: r => uptoBulk d + uptoBulkAll r
def uptoBulkEntries {H : Type} : List (Lit × DataW H) → Nat
  | [] => 0
  | x :: r => uptoBulkEntry x + uptoBulkEntries r
def uptoBulkEntry {H : Type} : Lit × DataW H → Nat
  | (.string bytes, d) => bytes.length + uptoBulk d + 1
  | (_, d) => uptoBulk d + 1
 end
def uptoSmall : (H : Type) → List (DataW H) → Bool := fun _ ds => decide (uptoBulkAll ds ≤ 1048576)
def OpenSpec.upto (s : _root_.Go.ChangeSpec) : _root_.Go.OpenSpec := { _root_.Go.OpenSpec.ofChange s with cond := some uptoSmall }

/-- 'draymanlaw13.HoldsTell', WHERE WHAT IT READS IS OF BULK AT MOST 1048576: true; the input reads as it did. -/
def holdsTellUptoRow : OpenClaim := { program := "ytleopanfggmenaa", sum := "904a7f472645084d6795e437e4ab0b35581f42e0f1a143a9229fbd142c50937a", func := "drayman/draymanlaw13.HoldsTell", spec := "holdsTell", unfollowed := true, recurses := true, apart := false, narrowed := true }
def HoldsTellUptoSaid : Prop := holdsTellUptoRow.holds Try.pinned (OpenSpec.upto holdsTellSpec)

/-- 'draymanlaw13.HoldsTurn', WHERE WHAT IT READS IS OF BULK AT MOST 1048576: true; the input reads as it did. -/
def holdsTurnUptoRow : OpenClaim := { program := "ytleopanfggmenaa", sum := "904a7f472645084d6795e437e4ab0b35581f42e0f1a143a9229fbd142c50937a", func := "drayman/draymanlaw13.HoldsTurn", spec := "holdsTurn", unfollowed := true, recurses := true, apart := false, narrowed := true }
def HoldsTurnUptoSaid : Prop := holdsTurnUptoRow.holds Try.pinned (OpenSpec.upto holdsTurnSpec)

/-- 'draymanlaw13.HoldsBack', WHERE WHAT IT READS IS OF BULK AT MOST 1048576: true; the input reads as it did. -/
def holdsBackUptoRow : OpenClaim := { program := "ytleopanfggmenaa", sum := "904a7f472645084d6795e437e4ab0b35581f42e0f1a143a9229fbd142c50937a", func := "drayman/draymanlaw13.HoldsBack", spec := "holdsBack", unfollowed := true, recurses := true, apart := false, narrowed := true }
def HoldsBackUptoSaid : Prop := holdsBackUptoRow.holds Try.pinned (OpenSpec.upto holdsBackSpec)

end Rows
end Go.Proofs.Ytleopanfggmenaa
