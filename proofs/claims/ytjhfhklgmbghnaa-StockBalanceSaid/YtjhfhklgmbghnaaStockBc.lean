/-
  The contract of StockBalance in the frame's form: it returns true; what was there stays as it was; nothing is asked.
-/
import Derived.Test.YtjhfhklgmbghnaaStockL
import Derived.OpenShut
import Derived.Deep.Slices
set_option linter.unusedVariables false
set_option maxRecDepth 4000
namespace Go.Proofs.Ytjhfhklgmbghnaa
open Go.RowKit StockP

theorem cells_act : Try.prog.cellsOf 35 = 2 := by kernel_rfl
theorem cells_int : Try.prog.cellsOf 3 = 1 := by kernel_rfl
/-- What the walk is told of a slice of acts that came in. -/
def IsAct (w : World) (a : Option Addr) (len cap : Nat) : Prop := ∃ l, ActsAt w a len l
theorem act_add (b off i j : Nat) : ((⟨b, off, none⟩ : Addr).add i).add j = ⟨b, off + i + j, none⟩ := by rw [Addr.add_lit, Addr.add_lit]
theorem isAct_of {H : Type} {enc : TypeId × Value → H} {w : World} {base : Nat} {spare : Nat → Bool} {held : Bool} {fuel : Nat} {cs : List Value} {x : DataW H × List MemPlace} {a : Option Addr} {len cap : Nat}
    (h : DataW.trod enc Try.prog w base spare held fuel 33 cs = some x) (hcs : cs = [.slice a len cap]) : IsAct w a len cap := by
  rcases Go.Deep.open_slice Try.underlying33 h with ⟨h0, _⟩ | ⟨a1, len1, cap1, m, n, D, Pl, h1, _, hl, hm, hmm, _, hi⟩
  · rw [hcs] at h0
    simp only [List.cons.injEq, Value.slice.injEq, and_true] at h0
    obtain ⟨rfl, rfl, rfl⟩ := h0
    exact ⟨[], ⟨rfl, by omega, .inl rfl⟩⟩
  · rw [hcs] at h1
    simp only [List.cons.injEq, Value.slice.injEq, and_true] at h1
    obtain ⟨rfl, rfl, rfl⟩ := h1
    unfold maxLen at hm
    by_cases h0 : len = 0
    · subst h0
      exact ⟨[], ⟨rfl, by omega, .inl rfl⟩⟩
    have hlm : len ≤ m := by rw [hmm]; split <;> omega
    have each : ∀ i, i < len → ∃ y : Int × Int, w.cell? ((a1.add (i * 2)).add 0) = some (.int .i64 y.1) ∧ w.cell? ((a1.add (i * 2)).add 1) = some (.int .i64 y.2) := by
      intro i hlt
      obtain ⟨cs', hc, ht⟩ := hi i (by omega)
      rw [cells_act] at hc
      obtain ⟨_, hcl, hat⟩ := World.cells?_some hc
      obtain ⟨ys, n', _, _, _, hyl, hf⟩ := DataW.trod_struct Try.underlying35 ht
      have hys : ys.length = 2 := hyl
      have g0 : DataW.trod enc Try.prog w base spare held n' 3 ((cs'.drop 0).take 1) = ys[0]? := by
        have h := hf 0 _ rfl
        change DataW.trod enc Try.prog w base spare held n' 3 ((cs'.drop 0).take (Try.prog.cellsOf 3)) = ys[0]? at h
        rw [cells_int] at h
        exact h
      obtain ⟨y0, hy0⟩ : ∃ y0, ys[0]? = some y0 := ⟨_, List.getElem?_eq_getElem (by omega)⟩
      obtain ⟨s, hs, _, hsl⟩ := DataW.trod_int Try.underlying3 (g0.trans hy0)
      have g1 : DataW.trod enc Try.prog w base spare held n' 3 ((cs'.drop 1).take 1) = ys[1]? := by
        have h := hf 1 _ rfl
        change DataW.trod enc Try.prog w base spare held n' 3 ((cs'.drop 1).take (Try.prog.cellsOf 3)) = ys[1]? at h
        rw [cells_int] at h
        exact h
      obtain ⟨y1, hy1⟩ : ∃ y1, ys[1]? = some y1 := ⟨_, List.getElem?_eq_getElem (by omega)⟩
      obtain ⟨q, hq, _, hwf⟩ := DataW.trod_int Try.underlying3 (g1.trans hy1)
      have l0 : 0 < cs'.length := by omega
      have l1 : 1 < cs'.length := by omega
      have e0 : cs'[0]? = some (.int .i64 s) := by
        rw [List.drop_eq_getElem_cons l0, List.take_succ_cons, List.take_zero] at hs
        rw [List.getElem?_eq_getElem l0, (List.cons.inj hs).1]
      have e1 : cs'[1]? = some (.int .i64 q) := by
        rw [List.drop_eq_getElem_cons l1, List.take_succ_cons, List.take_zero] at hq
        rw [List.getElem?_eq_getElem l1, (List.cons.inj hq).1]
      exact ⟨(s, q), (hat 0 (by omega)).trans e0, (hat 1 (by omega)).trans e1⟩
    obtain ⟨b, off, spot⟩ := a1
    obtain ⟨y0, h00, _⟩ := each 0 (by omega)
    have hspot : spot = none := by simpa [Addr.add] using World.cell?_spot h00
    subst hspot
    have hlt := World.block_lt_of_cell? w _ h00
    rw [act_add] at hlt
    -- the acts one by one
    have build : ∀ k, k ≤ len → ∃ l : List (Int × Int), l.length = k ∧ ∀ i, i < k → w.cell? ⟨b, off + i * 2, none⟩ = some (.int .i64 (l.getD i (0, 0)).1) ∧ w.cell? ⟨b, off + i * 2 + 1, none⟩ = some (.int .i64 (l.getD i (0, 0)).2) := by
      intro k
      induction k with
      | zero => exact fun _ => ⟨[], rfl, fun i hi => by omega⟩
      | succ k ih =>
        intro hk
        obtain ⟨l, hl', hall⟩ := ih (by omega)
        obtain ⟨y, c0, c1⟩ := each k (by omega)
        rw [act_add] at c0 c1
        refine ⟨l ++ [y], by simp [hl'], fun i hi' => ?_⟩
        by_cases hik : i < k
        · have : (l ++ [y]).getD i (0, 0) = l.getD i (0, 0) := by simp [List.getD, List.getElem?_append_left (show i < l.length by omega)]
          rw [this]; exact hall i hik
        · obtain rfl : i = k := by omega
          have : (l ++ [y]).getD i (0, 0) = y := by subst hl'; simp [List.getD]
          rw [this]
          exact ⟨c0, c1⟩
    obtain ⟨l, hll, hall⟩ := build len (Nat.le_refl _)
    exact ⟨l, ⟨hll, by omega, .inr ⟨b, off, rfl, hlt, fun i hi' => ⟨(hall i hi').1, (hall i hi').2⟩⟩⟩⟩
theorem stockBalance_long (a : Option Addr) (len cap : Nat) (w : World) (hl : 40 < len) (hb : len ≤ 9223372036854775807) :
    Calls Try.prog 5 #[.slice a len cap] w fun z w' => z = .returned (.bool true) ∧ Below w.heap.size w w' := by
  have H1 := Lib.hid (fun w => snew_is _ _ _ w (by decide) ex_new)
  go_enter Try.func5, Try.ntmps5
  go_wp2_with fail
  refine (H1.out _).mono ?_
  rintro z w1 ⟨rfl, hb1⟩
  have HB := Lib.hid (hb1.alloc hb1.size (.cells #[.string ⟨#[116, 101, 97]⟩, .int .i64 0, .int .i64 0, .int .i64 0, .int .i64 0, .int .i64 0] 23))
  clear hb1
  go_wp2_with fail
  refine (awake_any _).mono ?_
  rintro z w2 ⟨rfl, hb2⟩
  have HZ := Lib.hid (below_on HB.out HB.out.size hb2)
  clear hb2
  go_wp2_with fail
  go_ret
  exact ⟨rfl, HZ.out⟩
namespace Contract
theorem stockBalance (a0 : Option Addr) (len0 cap0 : Nat) (W : World) (w0 : IsAct W a0 len0 cap0) :
    Calls Try.prog 5 #[.slice a0 len0 cap0] W fun z w' => z = .returned (.bool true) ∧ Below W.heap.size W w' := by
  obtain ⟨l, h⟩ := w0
  by_cases hl : len0 ≤ 40
  · exact stockBalance_walk a0 len0 cap0 l W hl (Lib.hid h)
  · exact stockBalance_long a0 len0 cap0 W (by omega) h.2.1
end Contract
end Go.Proofs.Ytjhfhklgmbghnaa
