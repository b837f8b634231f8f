/-
  Plain facts of lines: fit lines, a text's parts, lines read and written as text; lists, bytes and numbers alone, nothing of the program.
-/
import Derived.Test.YtjclkiabgemfpaaGreatPdNamePlain
import Derived.Lib.SplitLaws
import Derived.Lib.ItoaLen
import Derived.Lib.Join
import Derived.Lib.ItoaNum
import Derived.Lib.Strings
import Derived.Lib.Hide
set_option linter.unusedVariables false
set_option maxRecDepth 4000
namespace Go.Proofs.YtjclkiabgemfpaaGreat
open NameP
namespace LinesP

abbrev Ln := ByteArray × Int
abbrev ln0 : Ln := (ByteArray.empty, 0)
def qty (n : Int) : Bool := decide (1 ≤ n) && decide (n ≤ 1048576)
def nm (s : ByteArray) : Bool := fitV (vals s.data.toList)
def lss (a b : ByteArray) : Bool := Op.bytesLess a.data.toList b.data.toList
def okUp : Option ByteArray → List Ln → Bool
  | _, [] => true
  | none, x :: r => nm x.1 && qty x.2 && okUp (some x.1) r
  | some q, x :: r => nm x.1 && qty x.2 && lss q x.1 && okUp (some x.1) r
def fitL (l : List Ln) : Bool := decide (l.length ≤ 4) && okUp none l
theorem qty_iff {n : Int} : qty n = true ↔ 1 ≤ n ∧ n ≤ 1048576 := by unfold qty; simp
theorem qty_no {n : Int} (h : n < 1 ∨ 1048576 < n) : qty n = false := by
  cases hq : qty n with
  | false => rfl
  | true => have := qty_iff.1 hq; omega
def prev (l : List Ln) (k : Nat) : Option ByteArray := if k = 0 then none else some (l.getD (k - 1) ln0).1
theorem fitL_long {l : List Ln} (h : 4 < l.length) : fitL l = false := by unfold fitL; simp; omega
theorem fitL_short {l : List Ln} (h : l.length ≤ 4) : fitL l = okUp none l := by unfold fitL; simp [h]
theorem okUp_done {l : List Ln} {k : Nat} (h : ¬ k < l.length) : okUp (prev l k) (l.drop k) = true := by
  rw [List.drop_eq_nil_of_le (by omega)]; cases prev l k <;> rfl
theorem drop_get {l : List Ln} {k : Nat} {x : Ln} (hk : k < l.length) (hx : l.getD k ln0 = x) : l.drop k = x :: l.drop (k + 1) := by
  rw [List.drop_eq_getElem_cons hk, ← hx]; simp [List.getD, hk]
theorem prev_succ {l : List Ln} {k : Nat} {x : Ln} (hx : l.getD k ln0 = x) : prev l (k + 1) = some x.1 := by
  unfold prev; rw [if_neg (by omega), Nat.add_sub_cancel, hx]
theorem okUp_no {l : List Ln} {k : Nat} {x : Ln} (hk : k < l.length) (hx : l.getD k ln0 = x) (h : nm x.1 = false ∨ qty x.2 = false) : okUp (prev l k) (l.drop k) = false := by
  rw [drop_get hk hx]
  cases prev l k with
  | none => unfold okUp; rcases h with h | h <;> simp [h]
  | some q => unfold okUp; rcases h with h | h <;> simp [h]
theorem okUp_less {l : List Ln} {k : Nat} {x y : Ln} (h0 : 0 < k) (hk : k < l.length) (hx : l.getD k ln0 = x) (hy : l.getD (k - 1) ln0 = y) (h : lss y.1 x.1 = false) : okUp (prev l k) (l.drop k) = false := by
  rw [drop_get hk hx]
  unfold prev
  rw [if_neg (by omega), hy]
  unfold okUp
  simp [h]
theorem okUp_go0 {l : List Ln} {x : Ln} (hk : 0 < l.length) (hx : l.getD 0 ln0 = x) (h1 : nm x.1 = true) (h2 : qty x.2 = true) : okUp (prev l 0) (l.drop 0) = okUp (prev l (0 + 1)) (l.drop (0 + 1)) := by
  rw [drop_get hk hx, prev_succ hx]
  unfold prev
  rw [if_pos rfl, okUp, h1, h2]; rfl
theorem okUp_go {l : List Ln} {k : Nat} {x y : Ln} (h0 : 0 < k) (hk : k < l.length) (hx : l.getD k ln0 = x) (hy : l.getD (k - 1) ln0 = y) (h1 : nm x.1 = true) (h2 : qty x.2 = true) (h : lss y.1 x.1 = true) : okUp (prev l k) (l.drop k) = okUp (prev l (k + 1)) (l.drop (k + 1)) := by
  rw [drop_get hk hx, prev_succ hx]
  unfold prev
  rw [if_neg (by omega), hy, okUp, h1, h2, h]; rfl
theorem okUp_mem : ∀ {p : Option ByteArray} {l : List Ln}, okUp p l = true → ∀ x ∈ l, nm x.1 = true ∧ qty x.2 = true
  | _, [], _, x, hx => by cases hx
  | none, y :: r, h, x, hx => by
    simp only [okUp, Bool.and_eq_true] at h
    rcases List.mem_cons.1 hx with rfl | hx
    · exact h.1
    · exact okUp_mem h.2 x hx
  | some q, y :: r, h, x, hx => by
    simp only [okUp, Bool.and_eq_true] at h
    rcases List.mem_cons.1 hx with rfl | hx
    · exact h.1.1
    · exact okUp_mem h.2 x hx
theorem fitL_mem {l : List Ln} (h : fitL l = true) : ∀ x ∈ l, nm x.1 = true ∧ qty x.2 = true := by
  unfold fitL at h; rw [Bool.and_eq_true] at h; exact okUp_mem h.2
/-! ### the first line with a Sku, the sum -/
def ofL (s : ByteArray) : List Ln → Int
  | [] => 0
  | x :: r => if x.1.toList == s.toList then x.2 else ofL s r
theorem ofL_yes {l : List Ln} {k : Nat} {x : Ln} {s : ByteArray} (hk : k < l.length) (hx : l.getD k ln0 = x) (h : (x.1.toList == s.toList) = true) : ofL s (l.drop k) = x.2 := by
  rw [drop_get hk hx, ofL, if_pos h]
theorem ofL_no {l : List Ln} {k : Nat} {x : Ln} {s : ByteArray} (hk : k < l.length) (hx : l.getD k ln0 = x) (h : (x.1.toList == s.toList) = false) : ofL s (l.drop k) = ofL s (l.drop (k + 1)) := by
  rw [drop_get hk hx, ofL, if_neg (by rw [h]; decide)]
theorem ofL_done {l : List Ln} {k : Nat} {s : ByteArray} (hk : ¬ k < l.length) : ofL s (l.drop k) = 0 := by
  rw [List.drop_eq_nil_of_le (by omega)]; rfl
/-! ### a text's parts -/
/-! ### lines read from a text -/
/-! ### there and back -/
def tx (x : Ln) : List UInt8 := x.1.data.toList ++ 58 :: Lib.itoa x.2
end LinesP
end Go.Proofs.YtjclkiabgemfpaaGreat
