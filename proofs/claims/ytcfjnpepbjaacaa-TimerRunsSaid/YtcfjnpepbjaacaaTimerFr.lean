/-
  What a law of timer is told of what came in: slices of timers, a timer by value.
-/
import Derived.Test.YtcfjnpepbjaacaaTimerC
import Derived.Test.YtcfjnpepbjaacaaRows
import Derived.OpenShut
import Derived.Deep.Slices
import Derived.WideShapes
set_option linter.unusedVariables false
set_option maxRecDepth 4000
namespace Go.Proofs.Ytcfjnpepbjaacaa
open Go.RowKit TimerP
open Go.Proofs.Ytcfjnpepbjaacaa.Timer (TmAt tmS)

theorem cells_timer : Try.prog.cellsOf 25 = 3 := by kernel_rfl
theorem cells_int : Try.prog.cellsOf 3 = 1 := by kernel_rfl
/-- A timer that came in is told of its three cells. -/
theorem timer_cells {H : Type} {enc : TypeId × Value → H} {w : World} {base : Nat} {spare : Nat → Bool} {held : Bool} {n : Nat} {cs' : List Value} {y : DataW H × List MemPlace} (hcl : cs'.length = 3)
    (ht : DataW.trod enc Try.prog w base spare held n 25 cs' = some y) : ∃ x0 x1 x2 : Int, cs' = [.int .i64 x0, .int .i64 x1, .int .i64 x2] := by
  obtain ⟨ys, n', _, _, _, hyl, hf⟩ := DataW.trod_struct Try.underlying25 ht
  have hys : ys.length = 3 := hyl
  have g0 : DataW.trod enc Try.prog w base spare held n' 3 ((cs'.drop 0).take 1) = ys[0]? := by
    have h := hf 0 _ rfl
    change DataW.trod enc Try.prog w base spare held n' 3 ((cs'.drop 0).take (Try.prog.cellsOf 3)) = ys[0]? at h
    rw [cells_int] at h
    exact h
  obtain ⟨y0, hy0⟩ : ∃ y0, ys[0]? = some y0 := ⟨_, List.getElem?_eq_getElem (by omega)⟩
  obtain ⟨x0, hx0, _, _⟩ := DataW.trod_int Try.underlying3 (g0.trans hy0)
  have g1 : DataW.trod enc Try.prog w base spare held n' 3 ((cs'.drop 1).take 1) = ys[1]? := by
    have h := hf 1 _ rfl
    change DataW.trod enc Try.prog w base spare held n' 3 ((cs'.drop 1).take (Try.prog.cellsOf 3)) = ys[1]? at h
    rw [cells_int] at h
    exact h
  obtain ⟨y1, hy1⟩ : ∃ y1, ys[1]? = some y1 := ⟨_, List.getElem?_eq_getElem (by omega)⟩
  obtain ⟨x1, hx1, _, _⟩ := DataW.trod_int Try.underlying3 (g1.trans hy1)
  have g2 : DataW.trod enc Try.prog w base spare held n' 3 ((cs'.drop 2).take 1) = ys[2]? := by
    have h := hf 2 _ rfl
    change DataW.trod enc Try.prog w base spare held n' 3 ((cs'.drop 2).take (Try.prog.cellsOf 3)) = ys[2]? at h
    rw [cells_int] at h
    exact h
  obtain ⟨y2, hy2⟩ : ∃ y2, ys[2]? = some y2 := ⟨_, List.getElem?_eq_getElem (by omega)⟩
  obtain ⟨x2, hx2, _, _⟩ := DataW.trod_int Try.underlying3 (g2.trans hy2)
  match cs', hcl with
  | [a, b, c], _ =>
    simp at hx0 hx1 hx2
    exact ⟨x0, x1, x2, by rw [hx0, hx1, hx2]⟩
/-- What the walk is told of a slice of timers that came in. -/
def IsTimer (w : World) (a : Option Addr) (len cap : Nat) : Prop := ∃ l, TmAt w a len l ∧ len ≤ cap
theorem isTimer_of {H : Type} {enc : TypeId × Value → H} {w : World} {base : Nat} {spare : Nat → Bool} {held : Bool} {fuel : Nat} {cs : List Value} {x : DataW H × List MemPlace} {a : Option Addr} {len cap : Nat}
    (h : DataW.trod enc Try.prog w base spare held fuel 22 cs = some x) (hcs : cs = [.slice a len cap]) : IsTimer w a len cap := by
  obtain ⟨l, h1, _, h2⟩ := Rw.is_of (Q := fun _ => True) tmS cells_timer (fun n cs' y hcl ht => by
    obtain ⟨x0, x1, x2, e⟩ := timer_cells hcl ht
    exact ⟨⟨x0, x1, x2⟩, e, trivial⟩) h hcs
  exact ⟨l, h1, h2⟩
theorem openTimer {H : Type} {enc : TypeId × Value → H} {w : World} {r : Reach} {b0 base : Nat} {spare : Nat → Bool} {held : Bool} {v : Value} {d : DataW H} {p : List MemPlace}
    (hv : Value.okWide Try.prog w r b0 25 v) (h : DataW.Trod enc Try.prog w base spare held 25 v d p) :
    ∃ x0 x1 x2 : Int, v = .agg #[.int .i64 x0, .int .i64 x1, .int .i64 x2] := by
  obtain ⟨cs, rfl, hsz⟩ := Go.WideShapes.okWide_struct Try.underlying25 hv
  rw [cells_timer] at hsz
  obtain ⟨fuel, ht⟩ := h
  change DataW.trod enc Try.prog w base spare held fuel 25 cs.toList = some (d, p) at ht
  obtain ⟨x0, x1, x2, e⟩ := timer_cells (by rw [Array.length_toList]; exact hsz) ht
  exact ⟨x0, x1, x2, by rw [← Array.toArray_toList (xs := cs), e]⟩
end Go.Proofs.Ytcfjnpepbjaacaa
