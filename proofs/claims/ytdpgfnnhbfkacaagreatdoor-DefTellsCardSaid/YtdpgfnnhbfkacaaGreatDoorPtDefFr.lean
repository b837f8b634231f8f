/-
  What a law of def is told of what came in: a definition by value, the library's variables; the document's Few.
-/
import Derived.Test.YtdpgfnnhbfkacaaGreatDoorPtDefG
import Derived.Test.YtdpgfnnhbfkacaaGreatDoorRows
import Derived.OpenShut
import Derived.Deep.Slices
import Derived.WideShapes
import Derived.LaidHandle
import Derived.LaidSub
import Derived.Lib.LaidTab
set_option linter.unusedVariables false
set_option maxRecDepth 4000
namespace Go.Proofs.YtdpgfnnhbfkacaaGreatDoor
open Go.RowKit DefP
open Def (StAt stS scell dv)

theorem cells_step : Tryz.prog.cellsOf 49 = 6 := by kernel_rfl
theorem cells_int : Tryz.prog.cellsOf 3 = 1 := by kernel_rfl
theorem cells_string : Tryz.prog.cellsOf 9 = 1 := by kernel_rfl
theorem cells_def : Tryz.prog.cellsOf 24 = 2 := by kernel_rfl
theorem cells_steps : Tryz.prog.cellsOf 22 = 1 := by kernel_rfl
theorem step_cells {H : Type} {enc : TypeId × Value → H} {w : World} {base : Nat} {spare : Nat → Bool} {held : Bool} {n : Nat} {cs' : List Value} {y : DataW H × List MemPlace} (hcl : cs'.length = 6)
    (ht : DataW.trod enc Tryz.prog w base spare held n 49 cs' = some y) : ∃ t : Step, cs' = scell t ∧ S64 t := by
  obtain ⟨ys, n', _, _, _, hyl, hf⟩ := DataW.trod_struct Tryz.underlying49 ht
  have hys : ys.length = 6 := hyl
  have g0 : DataW.trod enc Tryz.prog w base spare held n' 3 ((cs'.drop 0).take 1) = ys[0]? := by
    have h := hf 0 _ rfl
    change DataW.trod enc Tryz.prog w base spare held n' 3 ((cs'.drop 0).take (Tryz.prog.cellsOf 3)) = ys[0]? at h
    rw [cells_int] at h
    exact h
  obtain ⟨y0, hy0⟩ : ∃ y0, ys[0]? = some y0 := ⟨_, List.getElem?_eq_getElem (by omega)⟩
  obtain ⟨x0, hx0, _, w0⟩ := DataW.trod_int Tryz.underlying3 (g0.trans hy0)
  have g1 : DataW.trod enc Tryz.prog w base spare held n' 3 ((cs'.drop 1).take 1) = ys[1]? := by
    have h := hf 1 _ rfl
    change DataW.trod enc Tryz.prog w base spare held n' 3 ((cs'.drop 1).take (Tryz.prog.cellsOf 3)) = ys[1]? at h
    rw [cells_int] at h
    exact h
  obtain ⟨y1, hy1⟩ : ∃ y1, ys[1]? = some y1 := ⟨_, List.getElem?_eq_getElem (by omega)⟩
  obtain ⟨x1, hx1, _, w1⟩ := DataW.trod_int Tryz.underlying3 (g1.trans hy1)
  have g2 : DataW.trod enc Tryz.prog w base spare held n' 3 ((cs'.drop 2).take 1) = ys[2]? := by
    have h := hf 2 _ rfl
    change DataW.trod enc Tryz.prog w base spare held n' 3 ((cs'.drop 2).take (Tryz.prog.cellsOf 3)) = ys[2]? at h
    rw [cells_int] at h
    exact h
  obtain ⟨y2, hy2⟩ : ∃ y2, ys[2]? = some y2 := ⟨_, List.getElem?_eq_getElem (by omega)⟩
  obtain ⟨x2, hx2, _, w2⟩ := DataW.trod_int Tryz.underlying3 (g2.trans hy2)
  have g3 : DataW.trod enc Tryz.prog w base spare held n' 3 ((cs'.drop 3).take 1) = ys[3]? := by
    have h := hf 3 _ rfl
    change DataW.trod enc Tryz.prog w base spare held n' 3 ((cs'.drop 3).take (Tryz.prog.cellsOf 3)) = ys[3]? at h
    rw [cells_int] at h
    exact h
  obtain ⟨y3, hy3⟩ : ∃ y3, ys[3]? = some y3 := ⟨_, List.getElem?_eq_getElem (by omega)⟩
  obtain ⟨x3, hx3, _, w3⟩ := DataW.trod_int Tryz.underlying3 (g3.trans hy3)
  have g4 : DataW.trod enc Tryz.prog w base spare held n' 3 ((cs'.drop 4).take 1) = ys[4]? := by
    have h := hf 4 _ rfl
    change DataW.trod enc Tryz.prog w base spare held n' 3 ((cs'.drop 4).take (Tryz.prog.cellsOf 3)) = ys[4]? at h
    rw [cells_int] at h
    exact h
  obtain ⟨y4, hy4⟩ : ∃ y4, ys[4]? = some y4 := ⟨_, List.getElem?_eq_getElem (by omega)⟩
  obtain ⟨x4, hx4, _, w4⟩ := DataW.trod_int Tryz.underlying3 (g4.trans hy4)
  have g5 : DataW.trod enc Tryz.prog w base spare held n' 3 ((cs'.drop 5).take 1) = ys[5]? := by
    have h := hf 5 _ rfl
    change DataW.trod enc Tryz.prog w base spare held n' 3 ((cs'.drop 5).take (Tryz.prog.cellsOf 3)) = ys[5]? at h
    rw [cells_int] at h
    exact h
  obtain ⟨y5, hy5⟩ : ∃ y5, ys[5]? = some y5 := ⟨_, List.getElem?_eq_getElem (by omega)⟩
  obtain ⟨x5, hx5, _, w5⟩ := DataW.trod_int Tryz.underlying3 (g5.trans hy5)
  match cs', hcl with
  | [a, b, c, d, e, f], _ =>
    simp at hx0 hx1 hx2 hx3 hx4 hx5
    exact ⟨⟨x0, x1, x2, x3, x4, x5⟩, by rw [hx0, hx1, hx2, hx3, hx4, hx5]; rfl, ⟨bounds_i64 w0, bounds_i64 w1, bounds_i64 w2, bounds_i64 w3, bounds_i64 w4, bounds_i64 w5⟩⟩
theorem steps_of {H : Type} {enc : TypeId × Value → H} {w : World} {base : Nat} {spare : Nat → Bool} {held : Bool} {fuel : Nat} {cs : List Value} {x : DataW H × List MemPlace}
    (h : DataW.trod enc Tryz.prog w base spare held fuel 22 cs = some x) : ∃ a n c l, cs = [.slice a n c] ∧ StAt w a n l ∧ (∀ t ∈ l, S64 t) ∧ n ≤ c := by
  have key : ∀ a n c, cs = [.slice a n c] → ∃ l, StAt w a n l ∧ (∀ t ∈ l, S64 t) ∧ n ≤ c := fun a n c e =>
    Rw.is_of stS cells_step (fun n cs' y hl ht => step_cells hl ht) h e
  rcases Go.Deep.open_slice Tryz.underlying22 h with ⟨h0, _⟩ | ⟨a1, len1, cap1, m, n, D, Pl, h1, _, _⟩
  · obtain ⟨l, k1, k2, k3⟩ := key _ _ _ h0
    exact ⟨none, 0, 0, l, h0, k1, k2, k3⟩
  · obtain ⟨l, k1, k2, k3⟩ := key _ _ _ h1
    exact ⟨some a1, len1, cap1, l, h1, k1, k2, k3⟩
def DefIn (w : World) (s : ByteArray) (a : Option Addr) (n c : Nat) : Prop := ∃ l, StAt w a n l ∧ (∀ t ∈ l, S64 t) ∧ n ≤ c
theorem openDef {H : Type} {enc : TypeId × Value → H} {w : World} {r : Reach} {b0 base : Nat} {spare : Nat → Bool} {held : Bool} {v : Value} {d : DataW H} {p : List MemPlace}
    (hv : Value.okWide Tryz.prog w r b0 24 v) (h : DataW.Trod enc Tryz.prog w base spare held 24 v d p) :
    ∃ (s : ByteArray) (a : Option Addr) (n c : Nat), DefIn w s a n c ∧ v = dv s a n c := by
  obtain ⟨cs, rfl, hsz⟩ := Go.WideShapes.okWide_struct Tryz.underlying24 hv
  rw [cells_def] at hsz
  obtain ⟨fuel, ht⟩ := h
  obtain ⟨cs', hcs⟩ : ∃ l, cs.toList = l := ⟨_, rfl⟩
  have hcl : cs'.length = 2 := by rw [← hcs, Array.length_toList]; exact hsz
  change DataW.trod enc Tryz.prog w base spare held fuel 24 cs.toList = some (d, p) at ht
  rw [hcs] at ht
  obtain ⟨ys, n', _, _, _, hyl, hf⟩ := DataW.trod_struct Tryz.underlying24 ht
  have hys : ys.length = 2 := hyl
  have g0 : DataW.trod enc Tryz.prog w base spare held n' 9 ((cs'.drop 0).take 1) = ys[0]? := by
    have h := hf 0 _ rfl
    change DataW.trod enc Tryz.prog w base spare held n' 9 ((cs'.drop 0).take (Tryz.prog.cellsOf 9)) = ys[0]? at h
    rw [cells_string] at h; exact h
  have g1 : DataW.trod enc Tryz.prog w base spare held n' 22 ((cs'.drop 1).take 1) = ys[1]? := by
    have h := hf 1 _ rfl
    change DataW.trod enc Tryz.prog w base spare held n' 22 ((cs'.drop 1).take (Tryz.prog.cellsOf 22)) = ys[1]? at h
    rw [cells_steps] at h; exact h
  obtain ⟨y0, hy0⟩ : ∃ y, ys[0]? = some y := ⟨_, List.getElem?_eq_getElem (by omega)⟩
  obtain ⟨y1, hy1⟩ : ∃ y, ys[1]? = some y := ⟨_, List.getElem?_eq_getElem (by omega)⟩
  obtain ⟨s, hs, _, _⟩ := DataW.trod_string Tryz.underlying9 (g0.trans hy0)
  obtain ⟨a, n, c, l, hsl, k1, k2, k3⟩ := steps_of (g1.trans hy1)
  refine ⟨s, a, n, c, ⟨l, k1, k2, k3⟩, ?_⟩
  match cs', hcl, hs, hsl with
  | [v0, v1], _, e0, e1 =>
    simp at e0 e1
    unfold dv
    rw [← Array.toArray_toList (xs := cs), hcs, e0, e1]
theorem gPowType : (Tryz.prog.globals[3]?).map (·.type) = some 148 := by kernel_rfl
theorem cellsPow : Tryz.prog.cellsOf 148 = 20 := by kernel_rfl
theorem cellsU64 : Tryz.prog.cellsOf 105 = 1 := by kernel_rfl
theorem maxLen_of {W : World} (h : W.ShapedOpen Tryz.prog) : ∃ m, W.cell? ⟨0, 0, none⟩ = some (.int .i64 m) :=
  cell_of_shapedOpen_int (zero := #[.int .i64 0]) (t := 3) h (of_decide_eq_true (by kernel_rfl)) (by kernel_rfl) rfl (by kernel_rfl) (by kernel_rfl) Tryz.underlying3
theorem tab_of {l : List (String × DataW Unit)} (hl : (l.filter fun x => x.1 == "internal/strconv.uint64pow10") = [("internal/strconv.uint64pow10", Lib.tabData .u64 Lib.pow10Tab)]) {W : World} (h : laidMetH Tryz.prog l W) : Num.Tab W := by
  have h1 := h.filter fun x => x.1 == "internal/strconv.uint64pow10"
  rw [hl] at h1
  rw [MakeChecks.laidMetH_plain _ _ _ (by kernel_rfl)] at h1
  exact Lib.tabIs_of_head Num.gPow gPowType Tryz.underlying148 Tryz.underlying105 cellsU64 cellsPow h1
namespace Def
open Kt
theorem few_is (s : ByteArray) (a : Option Addr) (n c : Nat) (v : Bool) (hv : (decide ((s.size : Int) ≤ 60) && decide ((n : Int) ≤ 10)) = v) (w : World) : Calls Tryz.prog 6 #[.agg #[.string s, .slice a n c]] w fun e w' => e = .returned (.bool v) ∧ Below w.heap.size w w' := by
  have HB := Lib.hid (Kt.bx2_new 24 w (.string s) (.slice a n c))
  obtain ⟨q0, q1⟩ := cells2 HB.out.box
  by_cases h1 : (s.size : Int) ≤ 60
  · have HR : Hid (v = decide ((n : Int) ≤ 10)) := by show _ = _; rw [← hv, decide_eq_true h1, Bool.true_and]
    clear hv
    go_enter Tryz.func6, Tryz.ntmps6
    go_wp2_with fail
    go_ret
    exact ⟨ret_bool HR.out, HB.out.bel⟩
  · have HR : Hid (v = false) := by show _ = _; rw [← hv, decide_eq_false h1, Bool.false_and]
    clear hv
    go_enter Tryz.func6, Tryz.ntmps6
    go_wp2_with fail
    go_ret
    exact ⟨ret_bool HR.out, HB.out.bel⟩
end Def
end Go.Proofs.YtdpgfnnhbfkacaaGreatDoor
