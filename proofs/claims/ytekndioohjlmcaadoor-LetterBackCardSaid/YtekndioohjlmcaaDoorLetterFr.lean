/-
  What a law of letter is told of what came in: slices of letters, a letter by value, the table of the powers of ten.
-/
import Derived.Test.YtekndioohjlmcaaDoorLetterB
import Derived.Test.YtekndioohjlmcaaDoorNumH
import Derived.Test.YtekndioohjlmcaaDoorRows
import Derived.OpenShut
import Derived.Deep.Slices
import Derived.WideShapes
import Derived.LaidHandle
import Derived.LaidSub
import Derived.Lib.LaidTab
set_option linter.unusedVariables false
set_option maxRecDepth 4000
namespace Go.Proofs.YtekndioohjlmcaaDoor
open Go.RowKit LeP
open Go.Proofs.YtekndioohjlmcaaDoor.Letter (LtAt ltS)

theorem cells_letter : Tryd.prog.cellsOf 24 = 5 := by kernel_rfl
theorem cells_int : Tryd.prog.cellsOf 3 = 1 := by kernel_rfl
theorem cells_bool : Tryd.prog.cellsOf 4 = 1 := by kernel_rfl
/-- A letter that came in is told of its five cells. -/
theorem letter_cells {H : Type} {enc : TypeId × Value → H} {w : World} {base : Nat} {spare : Nat → Bool} {held : Bool} {n : Nat} {cs' : List Value} {y : DataW H × List MemPlace} (hcl : cs'.length = 5)
    (ht : DataW.trod enc Tryd.prog w base spare held n 24 cs' = some y) : ∃ x0 x1 x2 x3 x4, cs' = Letter.lcell ⟨x0, x1, x2, x3, x4⟩ := by
  obtain ⟨ys, n', _, _, _, hyl, hf⟩ := DataW.trod_struct Tryd.underlying24 ht
  have hys : ys.length = 5 := hyl
  have g0 : DataW.trod enc Tryd.prog w base spare held n' 3 ((cs'.drop 0).take 1) = ys[0]? := by
    have h := hf 0 _ rfl
    change DataW.trod enc Tryd.prog w base spare held n' 3 ((cs'.drop 0).take (Tryd.prog.cellsOf 3)) = ys[0]? at h
    rw [cells_int] at h
    exact h
  obtain ⟨y0, hy0⟩ : ∃ y0, ys[0]? = some y0 := ⟨_, List.getElem?_eq_getElem (by omega)⟩
  obtain ⟨x0, hx0, _, _⟩ := DataW.trod_int Tryd.underlying3 (g0.trans hy0)
  have g1 : DataW.trod enc Tryd.prog w base spare held n' 3 ((cs'.drop 1).take 1) = ys[1]? := by
    have h := hf 1 _ rfl
    change DataW.trod enc Tryd.prog w base spare held n' 3 ((cs'.drop 1).take (Tryd.prog.cellsOf 3)) = ys[1]? at h
    rw [cells_int] at h
    exact h
  obtain ⟨y1, hy1⟩ : ∃ y1, ys[1]? = some y1 := ⟨_, List.getElem?_eq_getElem (by omega)⟩
  obtain ⟨x1, hx1, _, _⟩ := DataW.trod_int Tryd.underlying3 (g1.trans hy1)
  have g2 : DataW.trod enc Tryd.prog w base spare held n' 4 ((cs'.drop 2).take 1) = ys[2]? := by
    have h := hf 2 _ rfl
    change DataW.trod enc Tryd.prog w base spare held n' 4 ((cs'.drop 2).take (Tryd.prog.cellsOf 4)) = ys[2]? at h
    rw [cells_bool] at h
    exact h
  obtain ⟨y2, hy2⟩ : ∃ y2, ys[2]? = some y2 := ⟨_, List.getElem?_eq_getElem (by omega)⟩
  obtain ⟨x2, hx2, _⟩ := DataW.trod_bool Tryd.underlying4 (g2.trans hy2)
  have g3 : DataW.trod enc Tryd.prog w base spare held n' 3 ((cs'.drop 3).take 1) = ys[3]? := by
    have h := hf 3 _ rfl
    change DataW.trod enc Tryd.prog w base spare held n' 3 ((cs'.drop 3).take (Tryd.prog.cellsOf 3)) = ys[3]? at h
    rw [cells_int] at h
    exact h
  obtain ⟨y3, hy3⟩ : ∃ y3, ys[3]? = some y3 := ⟨_, List.getElem?_eq_getElem (by omega)⟩
  obtain ⟨x3, hx3, _, _⟩ := DataW.trod_int Tryd.underlying3 (g3.trans hy3)
  have g4 : DataW.trod enc Tryd.prog w base spare held n' 3 ((cs'.drop 4).take 1) = ys[4]? := by
    have h := hf 4 _ rfl
    change DataW.trod enc Tryd.prog w base spare held n' 3 ((cs'.drop 4).take (Tryd.prog.cellsOf 3)) = ys[4]? at h
    rw [cells_int] at h
    exact h
  obtain ⟨y4, hy4⟩ : ∃ y4, ys[4]? = some y4 := ⟨_, List.getElem?_eq_getElem (by omega)⟩
  obtain ⟨x4, hx4, _, _⟩ := DataW.trod_int Tryd.underlying3 (g4.trans hy4)
  match cs', hcl with
  | [a, b, c, d, e], _ =>
    simp at hx0 hx1 hx2 hx3 hx4
    exact ⟨x0, x1, x2, x3, x4, by rw [hx0, hx1, hx2, hx3, hx4]; rfl⟩
/-- What the walk is told of a slice of letters that came in. -/
def IsLetter (w : World) (a : Option Addr) (len cap : Nat) : Prop := ∃ l, LtAt w a len l ∧ len ≤ cap
theorem isLetter_of {H : Type} {enc : TypeId × Value → H} {w : World} {base : Nat} {spare : Nat → Bool} {held : Bool} {fuel : Nat} {cs : List Value} {x : DataW H × List MemPlace} {a : Option Addr} {len cap : Nat}
    (h : DataW.trod enc Tryd.prog w base spare held fuel 22 cs = some x) (hcs : cs = [.slice a len cap]) : IsLetter w a len cap := by
  obtain ⟨l, h1, _, h2⟩ := Rw.is_of (Q := fun _ => True) ltS cells_letter (fun n cs' y hcl ht => by
    obtain ⟨x0, x1, x2, x3, x4, e⟩ := letter_cells hcl ht
    exact ⟨⟨x0, x1, x2, x3, x4⟩, e, trivial⟩) h hcs
  exact ⟨l, h1, h2⟩
theorem openLetter {H : Type} {enc : TypeId × Value → H} {w : World} {r : Reach} {b0 base : Nat} {spare : Nat → Bool} {held : Bool} {v : Value} {d : DataW H} {p : List MemPlace}
    (hv : Value.okWide Tryd.prog w r b0 24 v) (h : DataW.Trod enc Tryd.prog w base spare held 24 v d p) :
    ∃ (x0 x1 : Int) (x2 : Bool) (x3 x4 : Int), v = .agg #[.int .i64 x0, .int .i64 x1, .bool x2, .int .i64 x3, .int .i64 x4] := by
  obtain ⟨cs, rfl, hsz⟩ := Go.WideShapes.okWide_struct Tryd.underlying24 hv
  rw [cells_letter] at hsz
  obtain ⟨fuel, ht⟩ := h
  change DataW.trod enc Tryd.prog w base spare held fuel 24 cs.toList = some (d, p) at ht
  obtain ⟨x0, x1, x2, x3, x4, e⟩ := letter_cells (by rw [Array.length_toList]; exact hsz) ht
  exact ⟨x0, x1, x2, x3, x4, by rw [← Array.toArray_toList (xs := cs), e]; rfl⟩
/-- What stands in the library's own variables. -/
def Laid (w : World) : Prop := Num.Tab w
theorem gPowType : (Tryd.prog.globals[1]?).map (·.type) = some 78 := by kernel_rfl
theorem cellsPow : Tryd.prog.cellsOf 78 = 20 := by kernel_rfl
theorem cellsU64 : Tryd.prog.cellsOf 71 = 1 := by kernel_rfl
theorem laid_list {l : List (String × DataW Unit)} (hl : (l.filter fun x => x.1 == "internal/strconv.uint64pow10") = [("internal/strconv.uint64pow10", Lib.tabData .u64 Lib.pow10Tab)]) {W : World} (h : laidMetH Tryd.prog l W) : Laid W := by
  have h1 := h.filter fun x => x.1 == "internal/strconv.uint64pow10"
  rw [hl] at h1
  rw [MakeChecks.laidMetH_plain _ _ _ (by kernel_rfl)] at h1
  exact Lib.tabIs_of_head Num.gPow gPowType Tryd.underlying78 Tryd.underlying71 cellsU64 cellsPow h1
end Go.Proofs.YtekndioohjlmcaaDoor
