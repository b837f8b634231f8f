/-
  What a law of lines is told of what came in: slices of lines; the tables and the number that the library's texts lean on.
-/
import Derived.Test.YtpaemofjeadhcaaGreatDoorLinesM
import Derived.Test.YtpaemofjeadhcaaGreatDoorRows
import Derived.OpenShut
import Derived.Deep.Slices
import Derived.LaidHandle
import Derived.LaidSub
import Derived.Lib.LaidTab
import Derived.Shelf.Vars
set_option linter.unusedVariables false
set_option maxRecDepth 4000
namespace Go.Proofs.YtpaemofjeadhcaaGreatDoor
open Go.RowKit LinesP Lines

theorem cells_line : Tryz.prog.cellsOf 44 = 2 := by kernel_rfl
theorem cells_string : Tryz.prog.cellsOf 9 = 1 := by kernel_rfl
theorem cells_int : Tryz.prog.cellsOf 3 = 1 := by kernel_rfl
/-- What the walk is told of a slice of lines that came in. -/
def IsLine (w : World) (a : Option Addr) (len cap : Nat) : Prop := ∃ l, LsAt w a len l ∧ SzM l
theorem line_add (b off i j : Nat) : ((⟨b, off, none⟩ : Addr).add i).add j = ⟨b, off + i + j, none⟩ := by rw [Addr.add_lit, Addr.add_lit]
theorem isLine_of {H : Type} {enc : TypeId × Value → H} {w : World} {base : Nat} {spare : Nat → Bool} {held : Bool} {fuel : Nat} {cs : List Value} {x : DataW H × List MemPlace} {a : Option Addr} {len cap : Nat}
    (h : DataW.trod enc Tryz.prog w base spare held fuel 22 cs = some x) (hcs : cs = [.slice a len cap]) : IsLine w a len cap := by
  rcases Go.Deep.open_slice Tryz.underlying22 h with ⟨h0, _⟩ | ⟨a1, len1, cap1, m, n, D, Pl, h1, _, hl, hm, hmm, _, hi⟩
  · rw [hcs] at h0
    simp only [List.cons.injEq, Value.slice.injEq, and_true] at h0
    obtain ⟨rfl, rfl, rfl⟩ := h0
    exact ⟨[], ⟨rfl, by omega, .inl rfl⟩, fun x hx => by cases hx⟩
  · rw [hcs] at h1
    simp only [List.cons.injEq, Value.slice.injEq, and_true] at h1
    obtain ⟨rfl, rfl, rfl⟩ := h1
    unfold maxLen at hm
    by_cases h0 : len = 0
    · subst h0
      exact ⟨[], ⟨rfl, by omega, .inl rfl⟩, fun x hx => by cases hx⟩
    have hlm : len ≤ m := by rw [hmm]; split <;> omega
    have each : ∀ i, i < len → ∃ y : Ln, w.cell? ((a1.add (i * 2)).add 0) = some (.string y.1) ∧ w.cell? ((a1.add (i * 2)).add 1) = some (.int .i64 y.2) ∧ y.1.size ≤ 9223372036854775807 ∧ -9223372036854775808 ≤ y.2 ∧ y.2 ≤ 9223372036854775807 := by
      intro i hlt
      obtain ⟨cs', hc, ht⟩ := hi i (by omega)
      rw [cells_line] at hc
      obtain ⟨_, hcl, hat⟩ := World.cells?_some hc
      obtain ⟨ys, n', _, _, _, hyl, hf⟩ := DataW.trod_struct Tryz.underlying44 ht
      have hys : ys.length = 2 := hyl
      have g0 : DataW.trod enc Tryz.prog w base spare held n' 9 ((cs'.drop 0).take 1) = ys[0]? := by
        have h := hf 0 _ rfl
        change DataW.trod enc Tryz.prog w base spare held n' 9 ((cs'.drop 0).take (Tryz.prog.cellsOf 9)) = ys[0]? at h
        rw [cells_string] at h
        exact h
      obtain ⟨y0, hy0⟩ : ∃ y0, ys[0]? = some y0 := ⟨_, List.getElem?_eq_getElem (by omega)⟩
      obtain ⟨s, hs, _, hsl⟩ := DataW.trod_string Tryz.underlying9 (g0.trans hy0)
      have g1 : DataW.trod enc Tryz.prog w base spare held n' 3 ((cs'.drop 1).take 1) = ys[1]? := by
        have h := hf 1 _ rfl
        change DataW.trod enc Tryz.prog w base spare held n' 3 ((cs'.drop 1).take (Tryz.prog.cellsOf 3)) = ys[1]? at h
        rw [cells_int] at h
        exact h
      obtain ⟨y1, hy1⟩ : ∃ y1, ys[1]? = some y1 := ⟨_, List.getElem?_eq_getElem (by omega)⟩
      obtain ⟨q, hq, _, hwf⟩ := DataW.trod_int Tryz.underlying3 (g1.trans hy1)
      have l0 : 0 < cs'.length := by omega
      have l1 : 1 < cs'.length := by omega
      have e0 : cs'[0]? = some (.string s) := by
        rw [List.drop_eq_getElem_cons l0, List.take_succ_cons, List.take_zero] at hs
        rw [List.getElem?_eq_getElem l0, (List.cons.inj hs).1]
      have e1 : cs'[1]? = some (.int .i64 q) := by
        rw [List.drop_eq_getElem_cons l1, List.take_succ_cons, List.take_zero] at hq
        rw [List.getElem?_eq_getElem l1, (List.cons.inj hq).1]
      have hb := bounds_i64 hwf
      unfold maxLen at hsl
      exact ⟨(s, q), (hat 0 (by omega)).trans e0, (hat 1 (by omega)).trans e1, by show s.size ≤ _; omega, hb.1, hb.2⟩
    obtain ⟨b, off, spot⟩ := a1
    obtain ⟨y0, h00, _⟩ := each 0 (by omega)
    have hspot : spot = none := by simpa [Addr.add] using World.cell?_spot h00
    subst hspot
    have hlt := World.block_lt_of_cell? w _ h00
    rw [line_add] at hlt
    -- the lines one by one
    have build : ∀ k, k ≤ len → ∃ l : List Ln, l.length = k ∧ ∀ i, i < k → w.cell? ⟨b, off + i * 2, none⟩ = some (.string (l.getD i ln0).1) ∧ w.cell? ⟨b, off + i * 2 + 1, none⟩ = some (.int .i64 (l.getD i ln0).2) ∧ (l.getD i ln0).1.size ≤ 9223372036854775807 ∧ -9223372036854775808 ≤ (l.getD i ln0).2 ∧ (l.getD i ln0).2 ≤ 9223372036854775807 := by
      intro k
      induction k with
      | zero => exact fun _ => ⟨[], rfl, fun i hi => by omega⟩
      | succ k ih =>
        intro hk
        obtain ⟨l, hl', hall⟩ := ih (by omega)
        obtain ⟨y, c0, c1, hy⟩ := each k (by omega)
        rw [line_add] at c0 c1
        refine ⟨l ++ [y], by simp [hl'], fun i hi' => ?_⟩
        by_cases hik : i < k
        · have : (l ++ [y]).getD i ln0 = l.getD i ln0 := by simp [List.getD, List.getElem?_append_left (show i < l.length by omega)]
          rw [this]; exact hall i hik
        · obtain rfl : i = k := by omega
          have : (l ++ [y]).getD i ln0 = y := by subst hl'; simp [List.getD]
          rw [this]
          exact ⟨c0, c1, hy⟩
    obtain ⟨l, hll, hall⟩ := build len (Nat.le_refl _)
    refine ⟨l, ⟨hll, by omega, .inr ⟨b, off, rfl, hlt, fun i hi' => ⟨(hall i hi').1, (hall i hi').2.1⟩⟩⟩, fun y hy => ?_⟩
    obtain ⟨i, hi', rfl⟩ := List.getElem_of_mem hy
    have h := (hall i (by omega)).2.2
    rw [show l.getD i ln0 = l[i] by simp [List.getD, hi']] at h
    exact h
/-- What stands in the library's own variables. -/
def Laid (w : World) : Prop := Vars w
theorem gPowType : (Tryz.prog.globals[1]?).map (·.type) = some 143 := by kernel_rfl
theorem cellsPow : Tryz.prog.cellsOf 143 = 20 := by kernel_rfl
theorem cellsU64 : Tryz.prog.cellsOf 85 = 1 := by kernel_rfl
theorem maxLen_of {W : World} (h : W.ShapedOpen Tryz.prog) : ∃ m, W.cell? ⟨0, 0, none⟩ = some (.int .i64 m) :=
  cell_of_shapedOpen_int (zero := #[.int .i64 0]) (t := 3) h (of_decide_eq_true (by kernel_rfl)) (by kernel_rfl) rfl (by kernel_rfl) (by kernel_rfl) Tryz.underlying3
theorem laid_list {l : List (String × DataW Unit)} (hl : (l.filter fun x => x.1 == "internal/strconv.uint64pow10") = [("internal/strconv.uint64pow10", Lib.tabData .u64 Lib.pow10Tab)]) {W : World} (h : laidMetH Tryz.prog l W) (hs : W.ShapedOpen Tryz.prog) : Laid W := by
  have h1 := h.filter fun x => x.1 == "internal/strconv.uint64pow10"
  rw [hl] at h1
  rw [MakeChecks.laidMetH_plain _ _ _ (by kernel_rfl)] at h1
  exact ⟨Lib.tabIs_of_head Num.gPow gPowType Tryz.underlying143 Tryz.underlying85 cellsU64 cellsPow h1, maxLen_of hs⟩
end Go.Proofs.YtpaemofjeadhcaaGreatDoor
