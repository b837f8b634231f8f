/-
  Boxes by value and slices of integers that came in; InboxTells' contract in the frame's form.
-/
import Derived.Test.YtbnneibceilcjaaInboxJ
import Derived.Test.YtbnneibceilcjaaRows
import Derived.OpenShut
import Derived.Deep.Slices
import Derived.ChangeOld
import Derived.ChangeSlices
set_option linter.unusedVariables false
set_option maxRecDepth 4000
namespace Go.Proofs.Ytbnneibceilcjaa
open Go.RowKit InP

/-- What the walk is told of a slice of integers that came in: it is nil, or it leads to its cells. -/
def IsRow (k : IntKind) (w : World) (a : Option Addr) (len cap : Nat) (zs : List Int) : Prop :=
  (a = none ∧ len = 0 ∧ cap = 0 ∧ zs = []) ∨
  ∃ x, a = some x ∧ len ≤ cap ∧ cap ≤ maxLen ∧ zs.length = cap ∧ (∀ i, i < zs.length → w.cell? (x.add i) = some (.int k (zs.getD i 0))) ∧ ∀ n ∈ zs, (Lit.int k n).wf = true
namespace Inbox
theorem cells_ints (l : List Int) : Rw.cells intS l = l.map fun x => Value.int .i64 x := by
  induction l with
  | nil => rfl
  | cons x r ih => show [Value.int .i64 x] ++ Rw.cells intS r = _; rw [ih]; rfl
theorem ns_of {w : World} {a : Option Addr} {len : Nat} {l : List Int} (h : l.length = len) (hl : len ≤ 9223372036854775807) (hc : len = 0 ∨ ∃ b off, a = some ⟨b, off, none⟩ ∧ b < w.heap.size ∧ ∀ i, i < len → w.cell? ⟨b, off + i, none⟩ = some (.int .i64 (l.getD i 0))) : NsAt w a len l := by
  refine ⟨h, hl, hc.imp id fun ⟨b, off, e, hlt, hcell⟩ => ⟨b, off, e, hlt, fun j u hu => ?_⟩⟩
  rw [cells_ints] at hu
  have hj := (List.getElem?_eq_some_iff.1 hu).1
  rw [List.length_map] at hj
  rw [hcell j (by omega), ← hu]
  simp [List.getD, hj]
theorem isRow_ns {w : World} {a : Option Addr} {len cap : Nat} {zs : List Int} (h : IsRow .i64 w a len cap zs) : NsAt w a len (zs.take len) ∧ ∀ n ∈ zs.take len, -9223372036854775808 ≤ n ∧ n ≤ 9223372036854775807 := by
  rcases h with ⟨rfl, rfl, _, rfl⟩ | ⟨x, rfl, hl, hm, hz, hc, hw⟩
  · exact ⟨Rw.At.nil _ _ _, by simp⟩
  · unfold maxLen at hm
    refine ⟨ns_of (by rw [List.length_take]; omega) (by omega) ?_, fun n hn => bounds_i64 (hw n (List.mem_of_mem_take hn))⟩
    by_cases h0 : len = 0
    · exact .inl h0
    · right
      obtain ⟨b, off, rfl, hcell⟩ := ints_at hc (by omega)
      have h00 := hcell 0 (by omega)
      have hlt := World.block_lt_of_cell? w _ h00
      exact ⟨b, off, rfl, hlt, fun i hi => by rw [hcell i (by omega)]; simp [List.getD, hi]⟩
theorem cells_box : Try.prog.cellsOf 24 = 3 := by kernel_rfl
theorem cells_one_int : Try.prog.cellsOf 3 = 1 := by kernel_rfl
theorem cells_row : Try.prog.cellsOf 22 = 1 := by kernel_rfl
/-- One field of a struct, an integer: what is read there. -/
theorem field_int {H : Type} {enc : TypeId × Value → H} {w : World} {base : Nat} {spare : Nat → Bool} {held : Bool} {n j : Nat} {cs : List Value} {y : Option (DataW H × List MemPlace)}
    (hj : j < cs.length) (hy : y.isSome = true) (h : DataW.trod enc Try.prog w base spare held n 3 ((cs.drop j).take 1) = y) : ∃ q : Int, cs[j]? = some (.int .i64 q) := by
  obtain ⟨x, rfl⟩ := Option.isSome_iff_exists.1 hy
  obtain ⟨q, hq, _, hw⟩ := DataW.trod_int Try.underlying3 h
  refine ⟨q, ?_⟩
  rw [List.drop_eq_getElem_cons hj, List.take_succ_cons, List.take_zero] at hq
  rw [List.getElem?_eq_getElem hj, (List.cons.inj hq).1]
/-- One field of a struct, a slice of integers. -/
theorem field_ints {H : Type} {enc : TypeId × Value → H} {w : World} {base : Nat} {spare : Nat → Bool} {held : Bool} {n j : Nat} {cs : List Value} {y : Option (DataW H × List MemPlace)}
    (hj : j < cs.length) (hy : y.isSome = true) (h : DataW.trod enc Try.prog w base spare held n 22 ((cs.drop j).take 1) = y) : ∃ (a : Option Addr) (l c : Nat) (xs : List Int), cs[j]? = some (.slice a l c) ∧ AbAt w a l c xs := by
  obtain ⟨x, rfl⟩ := Option.isSome_iff_exists.1 hy
  have hd : (cs.drop j).take 1 = [cs[j]] := by rw [List.drop_eq_getElem_cons hj, List.take_succ_cons, List.take_zero]
  rw [hd] at h
  rw [List.getElem?_eq_getElem hj]
  rcases Go.ChangeShapes.open_ints Try.underlying22 Try.underlying3 cells_one_int h with ⟨h0, _⟩ | ⟨a, len, cap, zs, h0, _, hl, hm, hz, _, hcell, hwz⟩
  · exact ⟨none, 0, 0, [], by rw [(List.cons.inj h0).1], AbAt.nil _⟩
  · unfold maxLen at hm
    have hlz : len ≤ zs.length := by rw [hz]; split <;> omega
    refine ⟨some a, len, cap, zs.take len, by rw [(List.cons.inj h0).1], ⟨ns_of (by rw [List.length_take]; omega) (by omega) ?_, hl⟩⟩
    by_cases h0 : len = 0
    · exact .inl h0
    · right
      obtain ⟨b, off, rfl, hc2⟩ := ints_at hcell (by omega)
      have h00 := hc2 0 (by omega)
      have hlt := World.block_lt_of_cell? w _ h00
      exact ⟨b, off, rfl, hlt, fun i hi => by rw [hc2 i (by omega)]; simp [List.getD, hi]⟩
end Inbox
/-- What is told of a box that came in. -/
def BoxIn (w : World) (a : Option Addr) (n c : Nat) : Prop := ∃ xs, Inbox.AbAt w a n c xs
theorem openBox {H : Type} {enc : TypeId × Value → H} {w : World} {r : Reach} {b0 base : Nat} {spare : Nat → Bool} {held : Bool} {v : Value} {d : DataW H} {p : List MemPlace}
    (hv : Value.okWide Try.prog w r b0 24 v) (h : DataW.Trod enc Try.prog w base spare held 24 v d p) :
    ∃ (s l : Int) (a : Option Addr) (n c : Nat), BoxIn w a n c ∧ v = Inbox.bxV s l (.slice a n c) := by
  obtain ⟨cs, rfl, hsz⟩ := Go.WideShapes.okWide_struct Try.underlying24 hv
  rw [Inbox.cells_box] at hsz
  obtain ⟨fuel, ht⟩ := h
  obtain ⟨cs', hcs⟩ : ∃ l, cs.toList = l := ⟨_, rfl⟩
  have hcl : cs'.length = 3 := by rw [← hcs, Array.length_toList]; exact hsz
  change DataW.trod enc Try.prog w base spare held fuel 24 cs.toList = some (d, p) at ht
  rw [hcs] at ht
  obtain ⟨ys, n', _, _, _, hyl, hf⟩ := DataW.trod_struct Try.underlying24 ht
  have hys : ys.length = 3 := hyl
  have g0 : DataW.trod enc Try.prog w base spare held n' 3 ((cs'.drop 0).take 1) = ys[0]? := by
    have h := hf 0 _ rfl
    change DataW.trod enc Try.prog w base spare held n' 3 ((cs'.drop 0).take (Try.prog.cellsOf 3)) = ys[0]? at h
    rw [Inbox.cells_one_int] at h; exact h
  have g1 : DataW.trod enc Try.prog w base spare held n' 3 ((cs'.drop 1).take 1) = ys[1]? := by
    have h := hf 1 _ rfl
    change DataW.trod enc Try.prog w base spare held n' 3 ((cs'.drop 1).take (Try.prog.cellsOf 3)) = ys[1]? at h
    rw [Inbox.cells_one_int] at h; exact h
  have g2 : DataW.trod enc Try.prog w base spare held n' 22 ((cs'.drop 2).take 1) = ys[2]? := by
    have h := hf 2 _ rfl
    change DataW.trod enc Try.prog w base spare held n' 22 ((cs'.drop 2).take (Try.prog.cellsOf 22)) = ys[2]? at h
    rw [Inbox.cells_row] at h; exact h
  obtain ⟨k0, v0⟩ := Inbox.field_int (show 0 < cs'.length by omega) (show (ys[0]?).isSome = true by simp [hys]) g0
  obtain ⟨k1, v1⟩ := Inbox.field_int (show 1 < cs'.length by omega) (show (ys[1]?).isSome = true by simp [hys]) g1
  obtain ⟨a, n, c, xs, v2, i2⟩ := Inbox.field_ints (show 2 < cs'.length by omega) (show (ys[2]?).isSome = true by simp [hys]) g2
  refine ⟨k0, k1, a, n, c, ⟨xs, i2⟩, ?_⟩
  unfold Inbox.bxV
  congr 1
  apply Array.toList_inj.1
  rw [hcs]
  apply List.ext_getElem?
  intro i
  match i with
  | 0 => rw [v0]; rfl
  | 1 => rw [v1]; rfl
  | 2 => rw [v2]; rfl
  | i + 3 => rw [List.getElem?_eq_none (by omega)]; rfl
namespace Contract
theorem inboxTells (s l : Int) (a : Option Addr) (n c : Nat) (s2 l2 : Int) (a2 : Option Addr) (n2 c2 : Nat) (x : Int) (W : World) (w0 : BoxIn W a n c) (w1 : BoxIn W a2 n2 c2) (_hx : (Lit.int .i64 x).wf = true) :
    Calls Try.prog 3 #[Inbox.bxV s l (.slice a n c), Inbox.bxV s2 l2 (.slice a2 n2 c2), .int .i64 x] W fun e W' => e = .returned (.bool true) ∧ Below W.heap.size W W' := by
  obtain ⟨xs, h1⟩ := w0
  obtain ⟨ys, h2⟩ := w1
  exact Inbox.tells_any s l a n c xs s2 l2 a2 n2 c2 ys x W h1 h2
end Contract
end Go.Proofs.Ytbnneibceilcjaa
