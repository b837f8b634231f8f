/-
  What a law of key is told of what came in: the document's keys, an entry, a reply by value, the library's variables.
-/
import Derived.Test.YtcdinaoenhonbaaDoorKeyE
import Derived.Test.YtcdinaoenhonbaaDoorRows
import Derived.OpenShut
import Derived.Deep.Slices
import Derived.WideShapes
import Derived.LaidHandle
import Derived.LaidSub
import Derived.Lib.LaidTab
set_option linter.unusedVariables false
set_option maxRecDepth 4000
namespace Go.Proofs.YtcdinaoenhonbaaDoor
open Go.RowKit KeyP

theorem cells_int : Tryd.prog.cellsOf 3 = 1 := by kernel_rfl
theorem cells_bool : Tryd.prog.cellsOf 4 = 1 := by kernel_rfl
theorem cells_key : Tryd.prog.cellsOf 23 = 3 := by kernel_rfl
theorem key_cells {H : Type} {enc : TypeId × Value → H} {w : World} {base : Nat} {spare : Nat → Bool} {held : Bool} {n : Nat} {cs' : List Value} {y : DataW H × List MemPlace} (hcl : cs'.length = 3)
    (ht : DataW.trod enc Tryd.prog w base spare held n 23 cs' = some y) : ∃ (x0 : Int) (x1 : Int) (x2 : Bool), cs' = [.int .i64 x0, .int .i64 x1, .bool x2] := by
  obtain ⟨ys, n', _, _, _, hyl, hf⟩ := DataW.trod_struct Tryd.underlying23 ht
  have hys : ys.length = 3 := hyl
  have g0 : DataW.trod enc Tryd.prog w base spare held n' 3 ((cs'.drop 0).take 1) = ys[0]? := by
    have h := hf 0 _ rfl
    change DataW.trod enc Tryd.prog w base spare held n' 3 ((cs'.drop 0).take (Tryd.prog.cellsOf 3)) = ys[0]? at h
    rw [cells_int] at h
    exact h
  obtain ⟨y0, hy0⟩ : ∃ y0, ys[0]? = some y0 := ⟨_, List.getElem?_eq_getElem (by omega)⟩
  obtain ⟨x0, hx0, _, _⟩ := DataW.trod_int Tryd.underlying3 (g0.trans hy0)
  have g1 : DataW.trod enc Tryd.prog w base spare held n' 3 ((cs'.drop 1).take 1) = ys[1]? := by
    have h := hf 1 _ rfl
    change DataW.trod enc Tryd.prog w base spare held n' 3 ((cs'.drop 1).take (Tryd.prog.cellsOf 3)) = ys[1]? at h
    rw [cells_int] at h
    exact h
  obtain ⟨y1, hy1⟩ : ∃ y1, ys[1]? = some y1 := ⟨_, List.getElem?_eq_getElem (by omega)⟩
  obtain ⟨x1, hx1, _, _⟩ := DataW.trod_int Tryd.underlying3 (g1.trans hy1)
  have g2 : DataW.trod enc Tryd.prog w base spare held n' 4 ((cs'.drop 2).take 1) = ys[2]? := by
    have h := hf 2 _ rfl
    change DataW.trod enc Tryd.prog w base spare held n' 4 ((cs'.drop 2).take (Tryd.prog.cellsOf 4)) = ys[2]? at h
    rw [cells_bool] at h
    exact h
  obtain ⟨y2, hy2⟩ : ∃ y2, ys[2]? = some y2 := ⟨_, List.getElem?_eq_getElem (by omega)⟩
  obtain ⟨x2, hx2, _⟩ := DataW.trod_bool Tryd.underlying4 (g2.trans hy2)
  match cs', hcl with
  | [a, b, c], _ =>
    simp at hx0 hx1 hx2
    exact ⟨x0, x1, x2, by rw [hx0, hx1, hx2]⟩
theorem openKey {H : Type} {enc : TypeId × Value → H} {w : World} {r : Reach} {b0 base : Nat} {spare : Nat → Bool} {held : Bool} {v : Value} {d : DataW H} {p : List MemPlace}
    (hv : Value.okWide Tryd.prog w r b0 23 v) (h : DataW.Trod enc Tryd.prog w base spare held 23 v d p) :
    ∃ (x0 : Int) (x1 : Int) (x2 : Bool), v = .agg #[.int .i64 x0, .int .i64 x1, .bool x2] := by
  obtain ⟨cs, rfl, hsz⟩ := Go.WideShapes.okWide_struct Tryd.underlying23 hv
  rw [cells_key] at hsz
  obtain ⟨fuel, ht⟩ := h
  change DataW.trod enc Tryd.prog w base spare held fuel 23 cs.toList = some (d, p) at ht
  obtain ⟨x0, x1, x2, e⟩ := key_cells (by rw [Array.length_toList]; exact hsz) ht
  exact ⟨x0, x1, x2, by rw [← Array.toArray_toList (xs := cs), e]⟩
theorem cells_entry : Tryd.prog.cellsOf 40 = 7 := by kernel_rfl
theorem entry_cells {H : Type} {enc : TypeId × Value → H} {w : World} {base : Nat} {spare : Nat → Bool} {held : Bool} {n : Nat} {cs' : List Value} {y : DataW H × List MemPlace} (hcl : cs'.length = 7)
    (ht : DataW.trod enc Tryd.prog w base spare held n 40 cs' = some y) : ∃ (x0 : Int) (x1 : Int) (x2 : Int) (x3 : Bool) (x4 : Int) (x5 : Int) (x6 : Bool), cs' = [.int .i64 x0, .int .i64 x1, .int .i64 x2, .bool x3, .int .i64 x4, .int .i64 x5, .bool x6] := by
  obtain ⟨ys, n', _, _, _, hyl, hf⟩ := DataW.trod_struct Tryd.underlying40 ht
  have hys : ys.length = 7 := hyl
  have g0 : DataW.trod enc Tryd.prog w base spare held n' 3 ((cs'.drop 0).take 1) = ys[0]? := by
    have h := hf 0 _ rfl
    change DataW.trod enc Tryd.prog w base spare held n' 3 ((cs'.drop 0).take (Tryd.prog.cellsOf 3)) = ys[0]? at h
    rw [cells_int] at h
    exact h
  obtain ⟨y0, hy0⟩ : ∃ y0, ys[0]? = some y0 := ⟨_, List.getElem?_eq_getElem (by omega)⟩
  obtain ⟨x0, hx0, _, _⟩ := DataW.trod_int Tryd.underlying3 (g0.trans hy0)
  have g1 : DataW.trod enc Tryd.prog w base spare held n' 3 ((cs'.drop 1).take 1) = ys[1]? := by
    have h := hf 1 _ rfl
    change DataW.trod enc Tryd.prog w base spare held n' 3 ((cs'.drop 1).take (Tryd.prog.cellsOf 3)) = ys[1]? at h
    rw [cells_int] at h
    exact h
  obtain ⟨y1, hy1⟩ : ∃ y1, ys[1]? = some y1 := ⟨_, List.getElem?_eq_getElem (by omega)⟩
  obtain ⟨x1, hx1, _, _⟩ := DataW.trod_int Tryd.underlying3 (g1.trans hy1)
  have g2 : DataW.trod enc Tryd.prog w base spare held n' 3 ((cs'.drop 2).take 1) = ys[2]? := by
    have h := hf 2 _ rfl
    change DataW.trod enc Tryd.prog w base spare held n' 3 ((cs'.drop 2).take (Tryd.prog.cellsOf 3)) = ys[2]? at h
    rw [cells_int] at h
    exact h
  obtain ⟨y2, hy2⟩ : ∃ y2, ys[2]? = some y2 := ⟨_, List.getElem?_eq_getElem (by omega)⟩
  obtain ⟨x2, hx2, _, _⟩ := DataW.trod_int Tryd.underlying3 (g2.trans hy2)
  have g3 : DataW.trod enc Tryd.prog w base spare held n' 4 ((cs'.drop 3).take 1) = ys[3]? := by
    have h := hf 3 _ rfl
    change DataW.trod enc Tryd.prog w base spare held n' 4 ((cs'.drop 3).take (Tryd.prog.cellsOf 4)) = ys[3]? at h
    rw [cells_bool] at h
    exact h
  obtain ⟨y3, hy3⟩ : ∃ y3, ys[3]? = some y3 := ⟨_, List.getElem?_eq_getElem (by omega)⟩
  obtain ⟨x3, hx3, _⟩ := DataW.trod_bool Tryd.underlying4 (g3.trans hy3)
  have g4 : DataW.trod enc Tryd.prog w base spare held n' 3 ((cs'.drop 4).take 1) = ys[4]? := by
    have h := hf 4 _ rfl
    change DataW.trod enc Tryd.prog w base spare held n' 3 ((cs'.drop 4).take (Tryd.prog.cellsOf 3)) = ys[4]? at h
    rw [cells_int] at h
    exact h
  obtain ⟨y4, hy4⟩ : ∃ y4, ys[4]? = some y4 := ⟨_, List.getElem?_eq_getElem (by omega)⟩
  obtain ⟨x4, hx4, _, _⟩ := DataW.trod_int Tryd.underlying3 (g4.trans hy4)
  have g5 : DataW.trod enc Tryd.prog w base spare held n' 3 ((cs'.drop 5).take 1) = ys[5]? := by
    have h := hf 5 _ rfl
    change DataW.trod enc Tryd.prog w base spare held n' 3 ((cs'.drop 5).take (Tryd.prog.cellsOf 3)) = ys[5]? at h
    rw [cells_int] at h
    exact h
  obtain ⟨y5, hy5⟩ : ∃ y5, ys[5]? = some y5 := ⟨_, List.getElem?_eq_getElem (by omega)⟩
  obtain ⟨x5, hx5, _, _⟩ := DataW.trod_int Tryd.underlying3 (g5.trans hy5)
  have g6 : DataW.trod enc Tryd.prog w base spare held n' 4 ((cs'.drop 6).take 1) = ys[6]? := by
    have h := hf 6 _ rfl
    change DataW.trod enc Tryd.prog w base spare held n' 4 ((cs'.drop 6).take (Tryd.prog.cellsOf 4)) = ys[6]? at h
    rw [cells_bool] at h
    exact h
  obtain ⟨y6, hy6⟩ : ∃ y6, ys[6]? = some y6 := ⟨_, List.getElem?_eq_getElem (by omega)⟩
  obtain ⟨x6, hx6, _⟩ := DataW.trod_bool Tryd.underlying4 (g6.trans hy6)
  match cs', hcl with
  | [a, b, c, d, e, f, g], _ =>
    simp at hx0 hx1 hx2 hx3 hx4 hx5 hx6
    exact ⟨x0, x1, x2, x3, x4, x5, x6, by rw [hx0, hx1, hx2, hx3, hx4, hx5, hx6]⟩
theorem openEntry {H : Type} {enc : TypeId × Value → H} {w : World} {r : Reach} {b0 base : Nat} {spare : Nat → Bool} {held : Bool} {v : Value} {d : DataW H} {p : List MemPlace}
    (hv : Value.okWide Tryd.prog w r b0 40 v) (h : DataW.Trod enc Tryd.prog w base spare held 40 v d p) :
    ∃ (x0 : Int) (x1 : Int) (x2 : Int) (x3 : Bool) (x4 : Int) (x5 : Int) (x6 : Bool), v = .agg #[.int .i64 x0, .int .i64 x1, .int .i64 x2, .bool x3, .int .i64 x4, .int .i64 x5, .bool x6] := by
  obtain ⟨cs, rfl, hsz⟩ := Go.WideShapes.okWide_struct Tryd.underlying40 hv
  rw [cells_entry] at hsz
  obtain ⟨fuel, ht⟩ := h
  change DataW.trod enc Tryd.prog w base spare held fuel 40 cs.toList = some (d, p) at ht
  obtain ⟨x0, x1, x2, x3, x4, x5, x6, e⟩ := entry_cells (by rw [Array.length_toList]; exact hsz) ht
  exact ⟨x0, x1, x2, x3, x4, x5, x6, by rw [← Array.toArray_toList (xs := cs), e]⟩
theorem cells_reply : Tryd.prog.cellsOf 42 = 7 := by kernel_rfl
theorem reply_cells {H : Type} {enc : TypeId × Value → H} {w : World} {base : Nat} {spare : Nat → Bool} {held : Bool} {n : Nat} {cs' : List Value} {y : DataW H × List MemPlace} (hcl : cs'.length = 7)
    (ht : DataW.trod enc Tryd.prog w base spare held n 42 cs' = some y) : ∃ (x0 : Int) (x1 : Int) (x2 : Int) (x3 : Int) (x4 : Bool) (x5 : Int) (x6 : Int), cs' = [.int .i64 x0, .int .i64 x1, .int .i64 x2, .int .i64 x3, .bool x4, .int .i64 x5, .int .i64 x6] := by
  obtain ⟨ys, n', _, _, _, hyl, hf⟩ := DataW.trod_struct Tryd.underlying42 ht
  have hys : ys.length = 7 := hyl
  have g0 : DataW.trod enc Tryd.prog w base spare held n' 3 ((cs'.drop 0).take 1) = ys[0]? := by
    have h := hf 0 _ rfl
    change DataW.trod enc Tryd.prog w base spare held n' 3 ((cs'.drop 0).take (Tryd.prog.cellsOf 3)) = ys[0]? at h
    rw [cells_int] at h
    exact h
  obtain ⟨y0, hy0⟩ : ∃ y0, ys[0]? = some y0 := ⟨_, List.getElem?_eq_getElem (by omega)⟩
  obtain ⟨x0, hx0, _, _⟩ := DataW.trod_int Tryd.underlying3 (g0.trans hy0)
  have g1 : DataW.trod enc Tryd.prog w base spare held n' 3 ((cs'.drop 1).take 1) = ys[1]? := by
    have h := hf 1 _ rfl
    change DataW.trod enc Tryd.prog w base spare held n' 3 ((cs'.drop 1).take (Tryd.prog.cellsOf 3)) = ys[1]? at h
    rw [cells_int] at h
    exact h
  obtain ⟨y1, hy1⟩ : ∃ y1, ys[1]? = some y1 := ⟨_, List.getElem?_eq_getElem (by omega)⟩
  obtain ⟨x1, hx1, _, _⟩ := DataW.trod_int Tryd.underlying3 (g1.trans hy1)
  have g2 : DataW.trod enc Tryd.prog w base spare held n' 3 ((cs'.drop 2).take 1) = ys[2]? := by
    have h := hf 2 _ rfl
    change DataW.trod enc Tryd.prog w base spare held n' 3 ((cs'.drop 2).take (Tryd.prog.cellsOf 3)) = ys[2]? at h
    rw [cells_int] at h
    exact h
  obtain ⟨y2, hy2⟩ : ∃ y2, ys[2]? = some y2 := ⟨_, List.getElem?_eq_getElem (by omega)⟩
  obtain ⟨x2, hx2, _, _⟩ := DataW.trod_int Tryd.underlying3 (g2.trans hy2)
  have g3 : DataW.trod enc Tryd.prog w base spare held n' 3 ((cs'.drop 3).take 1) = ys[3]? := by
    have h := hf 3 _ rfl
    change DataW.trod enc Tryd.prog w base spare held n' 3 ((cs'.drop 3).take (Tryd.prog.cellsOf 3)) = ys[3]? at h
    rw [cells_int] at h
    exact h
  obtain ⟨y3, hy3⟩ : ∃ y3, ys[3]? = some y3 := ⟨_, List.getElem?_eq_getElem (by omega)⟩
  obtain ⟨x3, hx3, _, _⟩ := DataW.trod_int Tryd.underlying3 (g3.trans hy3)
  have g4 : DataW.trod enc Tryd.prog w base spare held n' 4 ((cs'.drop 4).take 1) = ys[4]? := by
    have h := hf 4 _ rfl
    change DataW.trod enc Tryd.prog w base spare held n' 4 ((cs'.drop 4).take (Tryd.prog.cellsOf 4)) = ys[4]? at h
    rw [cells_bool] at h
    exact h
  obtain ⟨y4, hy4⟩ : ∃ y4, ys[4]? = some y4 := ⟨_, List.getElem?_eq_getElem (by omega)⟩
  obtain ⟨x4, hx4, _⟩ := DataW.trod_bool Tryd.underlying4 (g4.trans hy4)
  have g5 : DataW.trod enc Tryd.prog w base spare held n' 3 ((cs'.drop 5).take 1) = ys[5]? := by
    have h := hf 5 _ rfl
    change DataW.trod enc Tryd.prog w base spare held n' 3 ((cs'.drop 5).take (Tryd.prog.cellsOf 3)) = ys[5]? at h
    rw [cells_int] at h
    exact h
  obtain ⟨y5, hy5⟩ : ∃ y5, ys[5]? = some y5 := ⟨_, List.getElem?_eq_getElem (by omega)⟩
  obtain ⟨x5, hx5, _, _⟩ := DataW.trod_int Tryd.underlying3 (g5.trans hy5)
  have g6 : DataW.trod enc Tryd.prog w base spare held n' 3 ((cs'.drop 6).take 1) = ys[6]? := by
    have h := hf 6 _ rfl
    change DataW.trod enc Tryd.prog w base spare held n' 3 ((cs'.drop 6).take (Tryd.prog.cellsOf 3)) = ys[6]? at h
    rw [cells_int] at h
    exact h
  obtain ⟨y6, hy6⟩ : ∃ y6, ys[6]? = some y6 := ⟨_, List.getElem?_eq_getElem (by omega)⟩
  obtain ⟨x6, hx6, _, _⟩ := DataW.trod_int Tryd.underlying3 (g6.trans hy6)
  match cs', hcl with
  | [a, b, c, d, e, f, g], _ =>
    simp at hx0 hx1 hx2 hx3 hx4 hx5 hx6
    exact ⟨x0, x1, x2, x3, x4, x5, x6, by rw [hx0, hx1, hx2, hx3, hx4, hx5, hx6]⟩
theorem openReply {H : Type} {enc : TypeId × Value → H} {w : World} {r : Reach} {b0 base : Nat} {spare : Nat → Bool} {held : Bool} {v : Value} {d : DataW H} {p : List MemPlace}
    (hv : Value.okWide Tryd.prog w r b0 42 v) (h : DataW.Trod enc Tryd.prog w base spare held 42 v d p) :
    ∃ (x0 : Int) (x1 : Int) (x2 : Int) (x3 : Int) (x4 : Bool) (x5 : Int) (x6 : Int), v = .agg #[.int .i64 x0, .int .i64 x1, .int .i64 x2, .int .i64 x3, .bool x4, .int .i64 x5, .int .i64 x6] := by
  obtain ⟨cs, rfl, hsz⟩ := Go.WideShapes.okWide_struct Tryd.underlying42 hv
  rw [cells_reply] at hsz
  obtain ⟨fuel, ht⟩ := h
  change DataW.trod enc Tryd.prog w base spare held fuel 42 cs.toList = some (d, p) at ht
  obtain ⟨x0, x1, x2, x3, x4, x5, x6, e⟩ := reply_cells (by rw [Array.length_toList]; exact hsz) ht
  exact ⟨x0, x1, x2, x3, x4, x5, x6, by rw [← Array.toArray_toList (xs := cs), e]⟩
/-- What stands in the library's own variables. -/
def Laid (w : World) : Prop := Num.Tab w ∧ Go.Proofs.YtcdinaoenhonbaaDoor.Key.Vars w
theorem Laid.keep {w w' : World} (h : Laid w) (hb : Below w.heap.size w w') : Laid w' := ⟨h.1.keep hb, h.2.keep hb⟩
theorem gPowType : (Tryd.prog.globals[1]?).map (·.type) = some 83 := by kernel_rfl
theorem cellsPow : Tryd.prog.cellsOf 83 = 20 := by kernel_rfl
theorem cellsU64 : Tryd.prog.cellsOf 77 = 1 := by kernel_rfl
theorem maxLen_of {W : World} (h : W.ShapedOpen Tryd.prog) : ∃ m, W.cell? ⟨0, 0, none⟩ = some (.int .i64 m) :=
  cell_of_shapedOpen_int (zero := #[.int .i64 0]) (t := 3) h (of_decide_eq_true (by kernel_rfl)) (by kernel_rfl) rfl (by kernel_rfl) (by kernel_rfl) Tryd.underlying3
theorem laid_list {l : List (String × DataW Unit)} (hl : (l.filter fun x => x.1 == "internal/strconv.uint64pow10") = [("internal/strconv.uint64pow10", Lib.tabData .u64 Lib.pow10Tab)]) {W : World} (h : laidMetH Tryd.prog l W) (hs : W.ShapedOpen Tryd.prog) : Laid W := by
  have h1 := h.filter fun x => x.1 == "internal/strconv.uint64pow10"
  rw [hl] at h1
  rw [MakeChecks.laidMetH_plain _ _ _ (by kernel_rfl)] at h1
  exact ⟨Lib.tabIs_of_head Num.gPow gPowType Tryd.underlying83 Tryd.underlying77 cellsU64 cellsPow h1, maxLen_of hs⟩
theorem laid_of {W : World} (h : laidMetH Tryd.prog Rows.keyTellsRow.laid W) (hs : W.ShapedOpen Tryd.prog) : Laid W := laid_list (by kernel_rfl) h hs
end Go.Proofs.YtcdinaoenhonbaaDoor
