/-
  The contracts of the document's Find, Drop, Since and Same: any entries; what was there stays as it was.
-/
import Derived.Test.YtamcidlkbhanfaaOutboxA
set_option linter.unusedVariables false
set_option linter.unusedSimpArgs false
set_option maxRecDepth 4000
set_option maxRecDepth 4000
namespace Go.Proofs.Ytamcidlkbhanfaa.Outbox
open Go.RowKit OutP
open Go.Proofs.Ytamcidlkbhanfaa.Kt

def getE (o : Option En) : En := o.getD en0
theorem findE_hit {g : Int} {l : List En} {k : Nat} {x : En} (hk : k < l.length) (hx : l.getD k en0 = x) (h : x.saga = g) : findE g (l.drop k) = some x := by
  rw [Rw.drop_cons hk hx, findE, if_pos h]
theorem findE_miss {g : Int} {l : List En} {k : Nat} {x : En} (hk : k < l.length) (hx : l.getD k en0 = x) (h : ¬ x.saga = g) : findE g (l.drop k) = findE g (l.drop (k + 1)) := by
  rw [Rw.drop_cons hk hx, findE, if_neg h]
theorem findE_end {g : Int} {l : List En} {k : Nat} (hk : ¬ k < l.length) : findE g (l.drop k) = none := by
  rw [List.drop_eq_nil_of_le (by omega)]; rfl
theorem filt_yes {p : En → Bool} {l : List En} {k : Nat} {x : En} (hk : k < l.length) (hx : l.getD k en0 = x) (h : p x = true) : (l.take (k + 1)).filter p = (l.take k).filter p ++ [x] := by
  rw [Rw.take_snoc hk hx]; simp [List.filter_append, h]
theorem filt_no {p : En → Bool} {l : List En} {k : Nat} {x : En} (hk : k < l.length) (hx : l.getD k en0 = x) (h : p x = false) : (l.take (k + 1)).filter p = (l.take k).filter p := by
  rw [Rw.take_snoc hk hx]; simp [List.filter_append, h]
theorem eqEs_len {a b : List En} (h : a.length ≠ b.length) : eqEs a b = false := by
  cases he : eqEs a b with
  | false => rfl
  | true => exact absurd (congrArg List.length (eqEs_iff.1 he)) h
theorem eqEs_end {a b : List En} {k : Nat} (h1 : ¬ k < a.length) (h2 : ¬ k < b.length) : eqEs (a.drop k) (b.drop k) = true := by
  rw [List.drop_eq_nil_of_le (by omega), List.drop_eq_nil_of_le (by omega)]; rfl
theorem eqEs_no {a b : List En} {k : Nat} {x y : En} (h1 : k < a.length) (h2 : k < b.length) (hx : a.getD k en0 = x) (hy : b.getD k en0 = y) (h : eqE x y = false) : eqEs (a.drop k) (b.drop k) = false := by
  rw [Rw.drop_cons h1 hx, Rw.drop_cons h2 hy, eqEs, h]; rfl
theorem eqEs_go {a b : List En} {k : Nat} {x y : En} (h1 : k < a.length) (h2 : k < b.length) (hx : a.getD k en0 = x) (hy : b.getD k en0 = y) (h : eqE x y = true) : eqEs (a.drop k) (b.drop k) = eqEs (a.drop (k + 1)) (b.drop (k + 1)) := by
  rw [Rw.drop_cons h1 hx, Rw.drop_cons h2 hy, eqEs, h]; rfl

end Go.Proofs.Ytamcidlkbhanfaa.Outbox
