/-
  The contracts of StockMoves, StockPuts and StockBack in the frame's form: each returns true; what was there stays as it was; nothing is asked.
-/
import Derived.Test.YtjhfhklgmbghnaaStockK
import Derived.OpenShut
import Derived.Deep.Slices
import Derived.WideShapes
set_option linter.unusedVariables false
set_option maxRecDepth 4000
namespace Go.Proofs.Ytjhfhklgmbghnaa
open Go.RowKit StockP

theorem cells_sku : Try.prog.cellsOf 23 = 6 := by kernel_rfl
theorem cells_string : Try.prog.cellsOf 9 = 1 := by kernel_rfl
theorem cells_int : Try.prog.cellsOf 3 = 1 := by kernel_rfl
theorem openSku {H : Type} {enc : TypeId × Value → H} {w : World} {r : Reach} {b0 base : Nat} {spare : Nat → Bool} {held : Bool} {v : Value} {d : DataW H} {p : List MemPlace}
    (hv : Value.okWide Try.prog w r b0 23 v) (h : DataW.Trod enc Try.prog w base spare held 23 v d p) :
    ∃ (s : ByteArray) (a b c d e : Int), s.size ≤ maxLen ∧ v = .agg #[.string s, .int .i64 a, .int .i64 b, .int .i64 c, .int .i64 d, .int .i64 e] := by
  obtain ⟨cs, rfl, hsz⟩ := Go.WideShapes.okWide_struct Try.underlying23 hv
  rw [cells_sku] at hsz
  obtain ⟨fuel, ht⟩ := h
  obtain ⟨cs', hcs⟩ : ∃ l, cs.toList = l := ⟨_, rfl⟩
  have hcl : cs'.length = 6 := by rw [← hcs, Array.length_toList]; exact hsz
  change DataW.trod enc Try.prog w base spare held fuel 23 cs.toList = some (d, p) at ht
  rw [hcs] at ht
  obtain ⟨ys, n', _, _, _, hyl, hf⟩ := DataW.trod_struct Try.underlying23 ht
  have hys : ys.length = 6 := hyl
  have g0 : DataW.trod enc Try.prog w base spare held n' 9 ((cs'.drop 0).take 1) = ys[0]? := by
    have h := hf 0 _ rfl
    change DataW.trod enc Try.prog w base spare held n' 9 ((cs'.drop 0).take (Try.prog.cellsOf 9)) = ys[0]? at h
    rw [cells_string] at h
    exact h
  have gi : ∀ j, 1 ≤ j → j < 6 → DataW.trod enc Try.prog w base spare held n' 3 ((cs'.drop j).take 1) = ys[j]? := by
    intro j hj1 hj
    rcases (by omega : j = 1 ∨ j = 2 ∨ j = 3 ∨ j = 4 ∨ j = 5) with rfl | rfl | rfl | rfl | rfl
    · have h := hf 1 _ rfl
      change DataW.trod enc Try.prog w base spare held n' 3 ((cs'.drop 1).take (Try.prog.cellsOf 3)) = ys[1]? at h
      rw [cells_int] at h; exact h
    · have h := hf 2 _ rfl
      change DataW.trod enc Try.prog w base spare held n' 3 ((cs'.drop 2).take (Try.prog.cellsOf 3)) = ys[2]? at h
      rw [cells_int] at h; exact h
    · have h := hf 3 _ rfl
      change DataW.trod enc Try.prog w base spare held n' 3 ((cs'.drop 3).take (Try.prog.cellsOf 3)) = ys[3]? at h
      rw [cells_int] at h; exact h
    · have h := hf 4 _ rfl
      change DataW.trod enc Try.prog w base spare held n' 3 ((cs'.drop 4).take (Try.prog.cellsOf 3)) = ys[4]? at h
      rw [cells_int] at h; exact h
    · have h := hf 5 _ rfl
      change DataW.trod enc Try.prog w base spare held n' 3 ((cs'.drop 5).take (Try.prog.cellsOf 3)) = ys[5]? at h
      rw [cells_int] at h; exact h
  obtain ⟨y0, hy0⟩ : ∃ y0, ys[0]? = some y0 := ⟨_, List.getElem?_eq_getElem (by omega)⟩
  obtain ⟨s, hs, _, hsl⟩ := DataW.trod_string Try.underlying9 (g0.trans hy0)
  have l0 : 0 < cs'.length := by omega
  have e0 : cs'[0]? = some (.string s) := by
    rw [List.drop_eq_getElem_cons l0, List.take_succ_cons, List.take_zero] at hs
    rw [List.getElem?_eq_getElem l0, (List.cons.inj hs).1]
  have ei : ∀ j, 1 ≤ j → j < 6 → ∃ n : Int, cs'[j]? = some (.int .i64 n) := by
    intro j hj1 hj
    obtain ⟨y1, hy1⟩ : ∃ y1, ys[j]? = some y1 := ⟨_, List.getElem?_eq_getElem (by omega)⟩
    obtain ⟨q, hq, _, hwf⟩ := DataW.trod_int Try.underlying3 ((gi j hj1 hj).trans hy1)
    have lj : j < cs'.length := by omega
    rw [List.drop_eq_getElem_cons lj, List.take_succ_cons, List.take_zero] at hq
    exact ⟨q, by rw [List.getElem?_eq_getElem lj, (List.cons.inj hq).1]⟩
  obtain ⟨a, e1⟩ := ei 1 (by omega) (by omega)
  obtain ⟨b, e2⟩ := ei 2 (by omega) (by omega)
  obtain ⟨c, e3⟩ := ei 3 (by omega) (by omega)
  obtain ⟨d', e4⟩ := ei 4 (by omega) (by omega)
  obtain ⟨e, e5⟩ := ei 5 (by omega) (by omega)
  refine ⟨s, a, b, c, d', e, hsl, ?_⟩
  have : cs = #[.string s, .int .i64 a, .int .i64 b, .int .i64 c, .int .i64 d', .int .i64 e] := by
    apply Array.ext'
    rw [hcs]
    match cs', hcl, e0, e1, e2, e3, e4, e5 with
    | [v0, v1, v2, v3, v4, v5], _, h0, h1, h2, h3, h4, h5 =>
      simp at h0 h1 h2 h3 h4 h5
      subst h0 h1 h2 h3 h4 h5
      rfl
  rw [this]
namespace Contract
theorem stockMoves (s : ByteArray) (a b c d e : Int) (wh n : Int) (W : World) (w0 : s.size ≤ maxLen) (w1 : (Lit.int .i64 wh).wf = true) (w2 : (Lit.int .i64 n).wf = true) :
    Calls Try.prog 3 #[.agg #[.string s, .int .i64 a, .int .i64 b, .int .i64 c, .int .i64 d, .int .i64 e], .int .i64 wh, .int .i64 n] W fun z w' => z = .returned (.bool true) ∧ Below W.heap.size W w' := by
  unfold maxLen at w0
  by_cases h : s.size ≤ 60
  · exact stockMoves_walk s a b c d e wh n W h
  · exact stockMoves_long s a b c d e wh n W (by omega) (by omega)
theorem stockPuts (s : ByteArray) (a b c d e : Int) (n : Int) (t : ByteArray) (W : World) (w0 : s.size ≤ maxLen) (w1 : (Lit.int .i64 n).wf = true) (w2 : t.size ≤ maxLen) :
    Calls Try.prog 4 #[.agg #[.string s, .int .i64 a, .int .i64 b, .int .i64 c, .int .i64 d, .int .i64 e], .int .i64 n, .string t] W fun z w' => z = .returned (.bool true) ∧ Below W.heap.size W w' := by
  unfold maxLen at w0 w2
  by_cases h : s.size ≤ 60
  · by_cases k : t.size ≤ 60
    · exact stockPuts_walk s a b c d e n t W h k
    · exact stockPuts_long2 s a b c d e n t W h (by omega) (by omega)
  · exact stockPuts_long1 s a b c d e n t W (by omega) (by omega) (by omega)
theorem stockBack (s : ByteArray) (a b c d e : Int) (n : Int) (W : World) (w0 : s.size ≤ maxLen) (w1 : (Lit.int .i64 n).wf = true) :
    Calls Try.prog 6 #[.agg #[.string s, .int .i64 a, .int .i64 b, .int .i64 c, .int .i64 d, .int .i64 e], .int .i64 n] W fun z w' => z = .returned (.bool true) ∧ Below W.heap.size W w' := by
  unfold maxLen at w0
  by_cases h : s.size ≤ 60
  · exact stockBack_walk s a b c d e n W h
  · exact stockBack_long s a b c d e n W (by omega) (by omega)
end Contract
end Go.Proofs.Ytjhfhklgmbghnaa
