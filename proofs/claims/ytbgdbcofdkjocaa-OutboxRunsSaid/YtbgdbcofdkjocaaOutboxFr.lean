/-
  What a law of outbox is told of what came in: slices of entries, an entry by value.
-/
import Derived.Test.YtbgdbcofdkjocaaOutboxB
import Derived.Test.YtbgdbcofdkjocaaRows
import Derived.OpenShut
import Derived.Deep.Slices
import Derived.WideShapes
set_option linter.unusedVariables false
set_option maxRecDepth 4000
namespace Go.Proofs.Ytbgdbcofdkjocaa
open Go.RowKit OutP
open Go.Proofs.Ytbgdbcofdkjocaa.Outbox (EnAt enS)

theorem cells_entry : Try.prog.cellsOf 25 = 7 := by kernel_rfl
theorem cells_int : Try.prog.cellsOf 3 = 1 := by kernel_rfl
theorem cells_bool : Try.prog.cellsOf 4 = 1 := by kernel_rfl
/-- An entry that came in is told of its seven cells. -/
theorem entry_cells {H : Type} {enc : TypeId × Value → H} {w : World} {base : Nat} {spare : Nat → Bool} {held : Bool} {n : Nat} {cs' : List Value} {y : DataW H × List MemPlace} (hcl : cs'.length = 7)
    (ht : DataW.trod enc Try.prog w base spare held n 25 cs' = some y) : ∃ x0 x1 x2 x3 x4 x5 x6, cs' = Outbox.ecell ⟨x0, x1, x2, x3, x4, x5, x6⟩ := by
  obtain ⟨ys, n', _, _, _, hyl, hf⟩ := DataW.trod_struct Try.underlying25 ht
  have hys : ys.length = 7 := hyl
  have g0 : DataW.trod enc Try.prog w base spare held n' 3 ((cs'.drop 0).take 1) = ys[0]? := by
    have h := hf 0 _ rfl
    change DataW.trod enc Try.prog w base spare held n' 3 ((cs'.drop 0).take (Try.prog.cellsOf 3)) = ys[0]? at h
    rw [cells_int] at h
    exact h
  obtain ⟨y0, hy0⟩ : ∃ y0, ys[0]? = some y0 := ⟨_, List.getElem?_eq_getElem (by omega)⟩
  obtain ⟨x0, hx0, _, _⟩ := DataW.trod_int Try.underlying3 (g0.trans hy0)
  have g1 : DataW.trod enc Try.prog w base spare held n' 3 ((cs'.drop 1).take 1) = ys[1]? := by
    have h := hf 1 _ rfl
    change DataW.trod enc Try.prog w base spare held n' 3 ((cs'.drop 1).take (Try.prog.cellsOf 3)) = ys[1]? at h
    rw [cells_int] at h
    exact h
  obtain ⟨y1, hy1⟩ : ∃ y1, ys[1]? = some y1 := ⟨_, List.getElem?_eq_getElem (by omega)⟩
  obtain ⟨x1, hx1, _, _⟩ := DataW.trod_int Try.underlying3 (g1.trans hy1)
  have g2 : DataW.trod enc Try.prog w base spare held n' 3 ((cs'.drop 2).take 1) = ys[2]? := by
    have h := hf 2 _ rfl
    change DataW.trod enc Try.prog w base spare held n' 3 ((cs'.drop 2).take (Try.prog.cellsOf 3)) = ys[2]? at h
    rw [cells_int] at h
    exact h
  obtain ⟨y2, hy2⟩ : ∃ y2, ys[2]? = some y2 := ⟨_, List.getElem?_eq_getElem (by omega)⟩
  obtain ⟨x2, hx2, _, _⟩ := DataW.trod_int Try.underlying3 (g2.trans hy2)
  have g3 : DataW.trod enc Try.prog w base spare held n' 4 ((cs'.drop 3).take 1) = ys[3]? := by
    have h := hf 3 _ rfl
    change DataW.trod enc Try.prog w base spare held n' 4 ((cs'.drop 3).take (Try.prog.cellsOf 4)) = ys[3]? at h
    rw [cells_bool] at h
    exact h
  obtain ⟨y3, hy3⟩ : ∃ y3, ys[3]? = some y3 := ⟨_, List.getElem?_eq_getElem (by omega)⟩
  obtain ⟨x3, hx3, _⟩ := DataW.trod_bool Try.underlying4 (g3.trans hy3)
  have g4 : DataW.trod enc Try.prog w base spare held n' 3 ((cs'.drop 4).take 1) = ys[4]? := by
    have h := hf 4 _ rfl
    change DataW.trod enc Try.prog w base spare held n' 3 ((cs'.drop 4).take (Try.prog.cellsOf 3)) = ys[4]? at h
    rw [cells_int] at h
    exact h
  obtain ⟨y4, hy4⟩ : ∃ y4, ys[4]? = some y4 := ⟨_, List.getElem?_eq_getElem (by omega)⟩
  obtain ⟨x4, hx4, _, _⟩ := DataW.trod_int Try.underlying3 (g4.trans hy4)
  have g5 : DataW.trod enc Try.prog w base spare held n' 3 ((cs'.drop 5).take 1) = ys[5]? := by
    have h := hf 5 _ rfl
    change DataW.trod enc Try.prog w base spare held n' 3 ((cs'.drop 5).take (Try.prog.cellsOf 3)) = ys[5]? at h
    rw [cells_int] at h
    exact h
  obtain ⟨y5, hy5⟩ : ∃ y5, ys[5]? = some y5 := ⟨_, List.getElem?_eq_getElem (by omega)⟩
  obtain ⟨x5, hx5, _, _⟩ := DataW.trod_int Try.underlying3 (g5.trans hy5)
  have g6 : DataW.trod enc Try.prog w base spare held n' 4 ((cs'.drop 6).take 1) = ys[6]? := by
    have h := hf 6 _ rfl
    change DataW.trod enc Try.prog w base spare held n' 4 ((cs'.drop 6).take (Try.prog.cellsOf 4)) = ys[6]? at h
    rw [cells_bool] at h
    exact h
  obtain ⟨y6, hy6⟩ : ∃ y6, ys[6]? = some y6 := ⟨_, List.getElem?_eq_getElem (by omega)⟩
  obtain ⟨x6, hx6, _⟩ := DataW.trod_bool Try.underlying4 (g6.trans hy6)
  match cs', hcl with
  | [a, b, c, d, e, f, g], _ =>
    simp at hx0 hx1 hx2 hx3 hx4 hx5 hx6
    exact ⟨x0, x1, x2, x3, x4, x5, x6, by rw [hx0, hx1, hx2, hx3, hx4, hx5, hx6]; rfl⟩
/-- What the walk is told of a slice of entries that came in. -/
def IsEntry (w : World) (a : Option Addr) (len cap : Nat) : Prop := ∃ l, EnAt w a len l ∧ len ≤ cap
theorem isEntry_of {H : Type} {enc : TypeId × Value → H} {w : World} {base : Nat} {spare : Nat → Bool} {held : Bool} {fuel : Nat} {cs : List Value} {x : DataW H × List MemPlace} {a : Option Addr} {len cap : Nat}
    (h : DataW.trod enc Try.prog w base spare held fuel 22 cs = some x) (hcs : cs = [.slice a len cap]) : IsEntry w a len cap := by
  obtain ⟨l, h1, _, h2⟩ := Rw.is_of (Q := fun _ => True) enS cells_entry (fun n cs' y hcl ht => by
    obtain ⟨x0, x1, x2, x3, x4, x5, x6, e⟩ := entry_cells hcl ht
    exact ⟨⟨x0, x1, x2, x3, x4, x5, x6⟩, e, trivial⟩) h hcs
  exact ⟨l, h1, h2⟩
theorem openEntry {H : Type} {enc : TypeId × Value → H} {w : World} {r : Reach} {b0 base : Nat} {spare : Nat → Bool} {held : Bool} {v : Value} {d : DataW H} {p : List MemPlace}
    (hv : Value.okWide Try.prog w r b0 25 v) (h : DataW.Trod enc Try.prog w base spare held 25 v d p) :
    ∃ (x0 x1 x2 : Int) (x3 : Bool) (x4 x5 : Int) (x6 : Bool), v = .agg #[.int .i64 x0, .int .i64 x1, .int .i64 x2, .bool x3, .int .i64 x4, .int .i64 x5, .bool x6] := by
  obtain ⟨cs, rfl, hsz⟩ := Go.WideShapes.okWide_struct Try.underlying25 hv
  rw [cells_entry] at hsz
  obtain ⟨fuel, ht⟩ := h
  change DataW.trod enc Try.prog w base spare held fuel 25 cs.toList = some (d, p) at ht
  obtain ⟨x0, x1, x2, x3, x4, x5, x6, e⟩ := entry_cells (by rw [Array.length_toList]; exact hsz) ht
  exact ⟨x0, x1, x2, x3, x4, x5, x6, by rw [← Array.toArray_toList (xs := cs), e]; rfl⟩
end Go.Proofs.Ytbgdbcofdkjocaa
