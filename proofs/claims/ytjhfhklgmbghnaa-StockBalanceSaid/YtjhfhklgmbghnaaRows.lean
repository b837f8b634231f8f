/-
  No cell of these rows narrows 'for every input' (looked for: loops, veiled, ifaces, maps, wideKeys, modest, calm, conditions, laid).
  DERIVED. THE GIVEN ROWS OF THIS SEAT. 4 by the template 'for every input the law returns true; each argument reads behind the call as it read before'; 0 by the template 'total and deterministic' (their statements: YtjhfhklgmbghnaaTotals.lean).
  GIVEN WITH THE SEED: the statements are not yours to turn. If you find one false, say at which input.
  Laid BY PROGRAM, IN A SANDBOX (cutbox-rows.mjs): the forced cells as the released guide's own fill.sh prints them over the translation fa717d089830c302… (all of the seat's roots in one cut). By AI agents, Wed Nov 11 2026. No macro, syntax, notation, axiom, sorry.
-/
import Derived.Test.YtjhfhklgmbghnaaChecked
import GoSem.Claim
import GoSem.ClaimJoined
import GoSem.ClaimMapViews
import Derived.JoinedTies
import Derived.KernelRfl
namespace Go.Proofs.Ytjhfhklgmbghnaa
/- THE CELL 'sum', in the pinned program and in every row, IS THE sha256 OF THE DUMP (.gsa) THAT YtjhfhklgmbghnaaProg.lean LOADS. Nothing in Lean hashes anything: it is a label: what it is worth is what the hold of that sum in a sandbox is worth. -/
noncomputable def Try.pinned : Pinned := { name := "ytjhfhklgmbghnaa", sum := "fa717d089830c3029485c1584f32fd4a621569dfb1e48a6cd67a164a084de78f", checked := Try.checked }
namespace Rows
def none {H : Type} : Left H := { results := [], args := [] }

/-- 'draymanlaw12.StockMoves': WHATEVER THE INPUT: true; the input reads as it did. -/
def stockMovesSpec : ChangeSpec := { name := "stockMoves", fn := fun _ => fun
  | [d1, d2, d3] => { results := [.lit (.bool true)], args := [d1, d2, d3] }
  | _ => none }
def stockMovesRow : OpenClaim := { program := "ytjhfhklgmbghnaa", sum := "fa717d089830c3029485c1584f32fd4a621569dfb1e48a6cd67a164a084de78f", func := "drayman/draymanlaw12.StockMoves", spec := "stockMoves", unfollowed := true, recurses := true, apart := false }
def StockMovesSaid : Prop := stockMovesRow.holds Try.pinned (OpenSpec.ofChange stockMovesSpec)

/-- ITS FALSE NEIGHBOUR: 'it returns false'. Refute it at one input. -/
def stockMovesWrong : ChangeSpec := { name := "stockMoves", fn := fun _ => fun
  | [d1, d2, d3] => { results := [.lit (.bool false)], args := [d1, d2, d3] }
  | _ => none }
def StockMovesWrongFalsely : Prop := stockMovesRow.holds Try.pinned (OpenSpec.ofChange stockMovesWrong)

/-- 'draymanlaw12.StockPuts': WHATEVER THE INPUT: true; the input reads as it did. -/
def stockPutsSpec : ChangeSpec := { name := "stockPuts", fn := fun _ => fun
  | [d1, d2, d3] => { results := [.lit (.bool true)], args := [d1, d2, d3] }
  | _ => none }
def stockPutsRow : OpenClaim := { program := "ytjhfhklgmbghnaa", sum := "fa717d089830c3029485c1584f32fd4a621569dfb1e48a6cd67a164a084de78f", func := "drayman/draymanlaw12.StockPuts", spec := "stockPuts", unfollowed := true, recurses := true, apart := false }
def StockPutsSaid : Prop := stockPutsRow.holds Try.pinned (OpenSpec.ofChange stockPutsSpec)

/-- ITS FALSE NEIGHBOUR: 'it returns false'. Refute it at one input. -/
def stockPutsWrong : ChangeSpec := { name := "stockPuts", fn := fun _ => fun
  | [d1, d2, d3] => { results := [.lit (.bool false)], args := [d1, d2, d3] }
  | _ => none }
def StockPutsWrongFalsely : Prop := stockPutsRow.holds Try.pinned (OpenSpec.ofChange stockPutsWrong)

/-- 'draymanlaw12.StockBalance': WHATEVER THE INPUT: true; the input reads as it did. -/
def stockBalanceSpec : ChangeSpec := { name := "stockBalance", fn := fun _ => fun
  | [d] => { results := [.lit (.bool true)], args := [d] }
  | _ => none }
def stockBalanceRow : OpenClaim := { program := "ytjhfhklgmbghnaa", sum := "fa717d089830c3029485c1584f32fd4a621569dfb1e48a6cd67a164a084de78f", func := "drayman/draymanlaw12.StockBalance", spec := "stockBalance", unfollowed := true, recurses := true, apart := false }
def StockBalanceSaid : Prop := stockBalanceRow.holds Try.pinned (OpenSpec.ofChange stockBalanceSpec)

/-- ITS FALSE NEIGHBOUR: 'it returns false'. Refute it at one input. -/
def stockBalanceWrong : ChangeSpec := { name := "stockBalance", fn := fun _ => fun
  | [d] => { results := [.lit (.bool false)], args := [d] }
  | _ => none }
def StockBalanceWrongFalsely : Prop := stockBalanceRow.holds Try.pinned (OpenSpec.ofChange stockBalanceWrong)

/-- 'draymanlaw12.StockBack': WHATEVER THE INPUT: true; the input reads as it did. -/
def stockBackSpec : ChangeSpec := { name := "stockBack", fn := fun _ => fun
  | [d1, d2] => { results := [.lit (.bool true)], args := [d1, d2] }
  | _ => none }
def stockBackRow : OpenClaim := { program := "ytjhfhklgmbghnaa", sum := "fa717d089830c3029485c1584f32fd4a621569dfb1e48a6cd67a164a084de78f", func := "drayman/draymanlaw12.StockBack", spec := "stockBack", unfollowed := true, recurses := true, apart := false }
def StockBackSaid : Prop := stockBackRow.holds Try.pinned (OpenSpec.ofChange stockBackSpec)

/-- ITS FALSE NEIGHBOUR: 'it returns false'. Refute it at one input. -/
def stockBackWrong : ChangeSpec := { name := "stockBack", fn := fun _ => fun
  | [d1, d2] => { results := [.lit (.bool false)], args := [d1, d2] }
  | _ => none }
def StockBackWrongFalsely : Prop := stockBackRow.holds Try.pinned (OpenSpec.ofChange stockBackWrong)

/- THE SECOND FORM. 'bulk': how many values and letters a reading holds, each counted each time it is reached (what is shared counts as often as it is met; a slice's spare places count too). A statement '..UptoSaid' is the law's where the arguments, and the package variables that the reading takes, are together of bulk at most 1048576: NARROWER than '..Said'. Prove '..Said' where nothing that the law and all that it calls make is longer than what came in: it says more and counts as full. Else prove '..UptoSaid'. A law counts once. -/
mutual
def uptoBulk {H : Type} : DataW H → Nat
  | .lit (.string bytes) => bytes.length + 1
  | .lit _ => 1
  | .nil => 1
  | .ptr d => uptoBulk d + 1
  | .slice elems spare => uptoBulkAll elems + uptoBulkAll spare + 1
  | .agg parts => uptoBulkAll parts + 1
  | .iface _ d => uptoBulk d + 1
  | .map entries => uptoBulkEntries entries + 1
  | .held _ => 1
def uptoBulkAll {H : Type} : List (DataW H) → Nat
  | [] => 0
  | d :: r => uptoBulk d + uptoBulkAll r
def uptoBulkEntries {H : Type} : List (Lit × DataW H) → Nat
  | [] => 0
  | x :: r => uptoBulkEntry x + uptoBulkEntries r
def uptoBulkEntry {H : Type} : Lit × DataW H → Nat
  | (.string bytes, d) => bytes.length + uptoBulk d + 1
  | (_, d) => uptoBulk d + 1
 end
def uptoSmall : (H : Type) → List (DataW H) → Bool := fun _ ds => decide (uptoBulkAll ds ≤ 1048576)
def OpenSpec.upto (s : _root_.Go.ChangeSpec) : _root_.Go.OpenSpec := { _root_.Go.OpenSpec.ofChange s with cond := some uptoSmall }

/-- 'draymanlaw12.StockMoves', WHERE WHAT IT READS IS OF BULK AT MOST 1048576: true; the input reads as it did. -/
def stockMovesUptoRow : OpenClaim := { program := "ytjhfhklgmbghnaa", sum := "fa717d089830c3029485c1584f32fd4a621569dfb1e48a6cd67a164a084de78f", func := "drayman/draymanlaw12.StockMoves", spec := "stockMoves", unfollowed := true, recurses := true, apart := false, narrowed := true }
def StockMovesUptoSaid : Prop := stockMovesUptoRow.holds Try.pinned (OpenSpec.upto stockMovesSpec)

/-- 'draymanlaw12.StockPuts', WHERE WHAT IT READS IS OF BULK AT MOST 1048576: true; the input reads as it did. -/
def stockPutsUptoRow : OpenClaim := { program := "ytjhfhklgmbghnaa", sum := "fa717d089830c3029485c1584f32fd4a621569dfb1e48a6cd67a164a084de78f", func := "drayman/draymanlaw12.StockPuts", spec := "stockPuts", unfollowed := true, recurses := true, apart := false, narrowed := true }
def StockPutsUptoSaid : Prop := stockPutsUptoRow.holds Try.pinned (OpenSpec.upto stockPutsSpec)

/-- 'draymanlaw12.StockBalance', WHERE WHAT IT READS IS OF BULK AT MOST 1048576: true; the input reads as it did. -/
def stockBalanceUptoRow : OpenClaim := { program := "ytjhfhklgmbghnaa", sum := "fa717d089830c3029485c1584f32fd4a621569dfb1e48a6cd67a164a084de78f", func := "drayman/draymanlaw12.StockBalance", spec := "stockBalance", unfollowed := true, recurses := true, apart := false, narrowed := true }
def StockBalanceUptoSaid : Prop := stockBalanceUptoRow.holds Try.pinned (OpenSpec.upto stockBalanceSpec)

/-- 'draymanlaw12.StockBack', WHERE WHAT IT READS IS OF BULK AT MOST 1048576: true; the input reads as it did. -/
def stockBackUptoRow : OpenClaim := { program := "ytjhfhklgmbghnaa", sum := "fa717d089830c3029485c1584f32fd4a621569dfb1e48a6cd67a164a084de78f", func := "drayman/draymanlaw12.StockBack", spec := "stockBack", unfollowed := true, recurses := true, apart := false, narrowed := true }
def StockBackUptoSaid : Prop := stockBackUptoRow.holds Try.pinned (OpenSpec.upto stockBackSpec)

end Rows
end Go.Proofs.Ytjhfhklgmbghnaa
