/-
  What LedgerPlays is told of the acts that came in; its contract in the frame's form.
-/
import Derived.Test.YtjclkiabgemfpaaGreatPdLedgerY
import Derived.Test.YtjclkiabgemfpaaGreatPdLedgerZe
import Derived.Test.YtjclkiabgemfpaaGreatRows
import Derived.OpenShut
import Derived.Deep.Slices
import Derived.WideShapes
set_option linter.unusedVariables false
set_option maxRecDepth 4000
namespace Go.Proofs.YtjclkiabgemfpaaGreat
open Go.RowKit LinesP Lines HoldsP Holds
open Ledger (AsAt AzAt Az az0 ac0 acts SzMA)

theorem cells_line : Tryz.prog.cellsOf 54 = 2 := by kernel_rfl
theorem cells_string : Tryz.prog.cellsOf 9 = 1 := by kernel_rfl
theorem cells_int : Tryz.prog.cellsOf 3 = 1 := by kernel_rfl
def IsLine (w : World) (a : Option Addr) (len cap : Nat) : Prop := ∃ l, LsAt w a len l ∧ SzM l
theorem line_add (b off i j : Nat) : ((⟨b, off, none⟩ : Addr).add i).add j = ⟨b, off + i + j, none⟩ := by rw [Addr.add_lit, Addr.add_lit]
theorem isLine_of {H : Type} {enc : TypeId × Value → H} {w : World} {base : Nat} {spare : Nat → Bool} {held : Bool} {fuel : Nat} {cs : List Value} {x : DataW H × List MemPlace} {a : Option Addr} {len cap : Nat}
    (h : DataW.trod enc Tryz.prog w base spare held fuel 26 cs = some x) (hcs : cs = [.slice a len cap]) : IsLine w a len cap := by
  rcases Go.Deep.open_slice Tryz.underlying26 h with ⟨h0, _⟩ | ⟨a1, len1, cap1, m, n, D, Pl, h1, _, hl, hm, hmm, _, hi⟩
  · rw [hcs] at h0
    simp only [List.cons.injEq, Value.slice.injEq, and_true] at h0
    obtain ⟨rfl, rfl, rfl⟩ := h0
    exact ⟨[], ⟨rfl, by omega, .inl rfl⟩, fun x hx => by cases hx⟩
  · rw [hcs] at h1
    simp only [List.cons.injEq, Value.slice.injEq, and_true] at h1
    obtain ⟨rfl, rfl, rfl⟩ := h1
    unfold maxLen at hm
    by_cases h0 : len = 0
    · subst h0
      exact ⟨[], ⟨rfl, by omega, .inl rfl⟩, fun x hx => by cases hx⟩
    have hlm : len ≤ m := by rw [hmm]; split <;> omega
    have each : ∀ i, i < len → ∃ y : Ln, w.cell? ((a1.add (i * 2)).add 0) = some (.string y.1) ∧ w.cell? ((a1.add (i * 2)).add 1) = some (.int .i64 y.2) ∧ y.1.size ≤ 9223372036854775807 ∧ -9223372036854775808 ≤ y.2 ∧ y.2 ≤ 9223372036854775807 := by
      intro i hlt
      obtain ⟨cs', hc, ht⟩ := hi i (by omega)
      rw [cells_line] at hc
      obtain ⟨_, hcl, hat⟩ := World.cells?_some hc
      obtain ⟨ys, n', _, _, _, hyl, hf⟩ := DataW.trod_struct Tryz.underlying54 ht
      have hys : ys.length = 2 := hyl
      have g0 : DataW.trod enc Tryz.prog w base spare held n' 9 ((cs'.drop 0).take 1) = ys[0]? := by
        have h := hf 0 _ rfl
        change DataW.trod enc Tryz.prog w base spare held n' 9 ((cs'.drop 0).take (Tryz.prog.cellsOf 9)) = ys[0]? at h
        rw [cells_string] at h
        exact h
      obtain ⟨y0, hy0⟩ : ∃ y0, ys[0]? = some y0 := ⟨_, List.getElem?_eq_getElem (by omega)⟩
      obtain ⟨s, hs, _, hsl⟩ := DataW.trod_string Tryz.underlying9 (g0.trans hy0)
      have g1 : DataW.trod enc Tryz.prog w base spare held n' 3 ((cs'.drop 1).take 1) = ys[1]? := by
        have h := hf 1 _ rfl
        change DataW.trod enc Tryz.prog w base spare held n' 3 ((cs'.drop 1).take (Tryz.prog.cellsOf 3)) = ys[1]? at h
        rw [cells_int] at h
        exact h
      obtain ⟨y1, hy1⟩ : ∃ y1, ys[1]? = some y1 := ⟨_, List.getElem?_eq_getElem (by omega)⟩
      obtain ⟨q, hq, _, hwf⟩ := DataW.trod_int Tryz.underlying3 (g1.trans hy1)
      have l0 : 0 < cs'.length := by omega
      have l1 : 1 < cs'.length := by omega
      have e0 : cs'[0]? = some (.string s) := by
        rw [List.drop_eq_getElem_cons l0, List.take_succ_cons, List.take_zero] at hs
        rw [List.getElem?_eq_getElem l0, (List.cons.inj hs).1]
      have e1 : cs'[1]? = some (.int .i64 q) := by
        rw [List.drop_eq_getElem_cons l1, List.take_succ_cons, List.take_zero] at hq
        rw [List.getElem?_eq_getElem l1, (List.cons.inj hq).1]
      have hb := bounds_i64 hwf
      unfold maxLen at hsl
      exact ⟨(s, q), (hat 0 (by omega)).trans e0, (hat 1 (by omega)).trans e1, by show s.size ≤ _; omega, hb.1, hb.2⟩
    obtain ⟨b, off, spot⟩ := a1
    obtain ⟨y0, h00, _⟩ := each 0 (by omega)
    have hspot : spot = none := by simpa [Addr.add] using World.cell?_spot h00
    subst hspot
    have hlt := World.block_lt_of_cell? w _ h00
    rw [line_add] at hlt
    -- the lines one by one
    have build : ∀ k, k ≤ len → ∃ l : List Ln, l.length = k ∧ ∀ i, i < k → w.cell? ⟨b, off + i * 2, none⟩ = some (.string (l.getD i ln0).1) ∧ w.cell? ⟨b, off + i * 2 + 1, none⟩ = some (.int .i64 (l.getD i ln0).2) ∧ (l.getD i ln0).1.size ≤ 9223372036854775807 ∧ -9223372036854775808 ≤ (l.getD i ln0).2 ∧ (l.getD i ln0).2 ≤ 9223372036854775807 := by
      intro k
      induction k with
      | zero => exact fun _ => ⟨[], rfl, fun i hi => by omega⟩
      | succ k ih =>
        intro hk
        obtain ⟨l, hl', hall⟩ := ih (by omega)
        obtain ⟨y, c0, c1, hy⟩ := each k (by omega)
        rw [line_add] at c0 c1
        refine ⟨l ++ [y], by simp [hl'], fun i hi' => ?_⟩
        by_cases hik : i < k
        · have : (l ++ [y]).getD i ln0 = l.getD i ln0 := by simp [List.getD, List.getElem?_append_left (show i < l.length by omega)]
          rw [this]; exact hall i hik
        · obtain rfl : i = k := by omega
          have : (l ++ [y]).getD i ln0 = y := by subst hl'; simp [List.getD]
          rw [this]
          exact ⟨c0, c1, hy⟩
    obtain ⟨l, hll, hall⟩ := build len (Nat.le_refl _)
    refine ⟨l, ⟨hll, by omega, .inr ⟨b, off, rfl, hlt, fun i hi' => ⟨(hall i hi').1, (hall i hi').2.1⟩⟩⟩, fun y hy => ?_⟩
    obtain ⟨i, hi', rfl⟩ := List.getElem_of_mem hy
    have h := (hall i (by omega)).2.2
    rw [show l.getD i ln0 = l[i] by simp [List.getD, hi']] at h
    exact h
theorem cells_hold : Tryz.prog.cellsOf 69 = 3 := by kernel_rfl
theorem cells_lines : Tryz.prog.cellsOf 26 = 1 := by kernel_rfl
theorem lines_of {H : Type} {enc : TypeId × Value → H} {w : World} {base : Nat} {spare : Nat → Bool} {held : Bool} {fuel : Nat} {cs : List Value} {x : DataW H × List MemPlace}
    (h : DataW.trod enc Tryz.prog w base spare held fuel 26 cs = some x) : ∃ la n lc ls, cs = [.slice la n lc] ∧ LsAt w la n ls ∧ SzM ls := by
  rcases Go.Deep.open_slice Tryz.underlying26 h with ⟨h0, _⟩ | ⟨a1, len1, cap1, m, n, D, Pl, h1, _, _⟩
  · obtain ⟨ls, k1, k2⟩ := isLine_of h h0
    exact ⟨none, 0, 0, ls, h0, k1, k2⟩
  · obtain ⟨ls, k1, k2⟩ := isLine_of h h1
    exact ⟨some a1, len1, cap1, ls, h1, k1, k2⟩
theorem cells_act : Tryz.prog.cellsOf 28 = 5 := by kernel_rfl
theorem act_of {H : Type} {enc : TypeId × Value → H} {w : World} {base : Nat} {spare : Nat → Bool} {held : Bool} {fuel : Nat} {cs' : List Value} {x : DataW H × List MemPlace} (hcl : cs'.length = 5)
    (ht : DataW.trod enc Tryz.prog w base spare held fuel 28 cs' = some x) :
    ∃ (kd sg m : Int) (s : ByteArray) (la : Option Addr) (n lc : Nat) (ls : List Ln), cs' = [.int .i64 kd, .int .i64 sg, .int .i64 m, .string s, .slice la n lc] ∧ LsAt w la n ls ∧ SzM ls ∧ s.size ≤ 9223372036854775807 := by
  obtain ⟨ys, n', _, _, _, hyl, hf⟩ := DataW.trod_struct Tryz.underlying28 ht
  have hys : ys.length = 5 := hyl
  have g0 : DataW.trod enc Tryz.prog w base spare held n' 3 ((cs'.drop 0).take 1) = ys[0]? := by
    have h := hf 0 _ rfl
    change DataW.trod enc Tryz.prog w base spare held n' 3 ((cs'.drop 0).take (Tryz.prog.cellsOf 3)) = ys[0]? at h
    rw [cells_int] at h
    exact h
  have g1 : DataW.trod enc Tryz.prog w base spare held n' 3 ((cs'.drop 1).take 1) = ys[1]? := by
    have h := hf 1 _ rfl
    change DataW.trod enc Tryz.prog w base spare held n' 3 ((cs'.drop 1).take (Tryz.prog.cellsOf 3)) = ys[1]? at h
    rw [cells_int] at h
    exact h
  have g2 : DataW.trod enc Tryz.prog w base spare held n' 3 ((cs'.drop 2).take 1) = ys[2]? := by
    have h := hf 2 _ rfl
    change DataW.trod enc Tryz.prog w base spare held n' 3 ((cs'.drop 2).take (Tryz.prog.cellsOf 3)) = ys[2]? at h
    rw [cells_int] at h
    exact h
  have g3 : DataW.trod enc Tryz.prog w base spare held n' 9 ((cs'.drop 3).take 1) = ys[3]? := by
    have h := hf 3 _ rfl
    change DataW.trod enc Tryz.prog w base spare held n' 9 ((cs'.drop 3).take (Tryz.prog.cellsOf 9)) = ys[3]? at h
    rw [cells_string] at h
    exact h
  have g4 : DataW.trod enc Tryz.prog w base spare held n' 26 ((cs'.drop 4).take 1) = ys[4]? := by
    have h := hf 4 _ rfl
    change DataW.trod enc Tryz.prog w base spare held n' 26 ((cs'.drop 4).take (Tryz.prog.cellsOf 26)) = ys[4]? at h
    rw [cells_lines] at h
    exact h
  obtain ⟨y0, hy0⟩ : ∃ y, ys[0]? = some y := ⟨_, List.getElem?_eq_getElem (by omega)⟩
  obtain ⟨y1, hy1⟩ : ∃ y, ys[1]? = some y := ⟨_, List.getElem?_eq_getElem (by omega)⟩
  obtain ⟨y2, hy2⟩ : ∃ y, ys[2]? = some y := ⟨_, List.getElem?_eq_getElem (by omega)⟩
  obtain ⟨y3, hy3⟩ : ∃ y, ys[3]? = some y := ⟨_, List.getElem?_eq_getElem (by omega)⟩
  obtain ⟨y4, hy4⟩ : ∃ y, ys[4]? = some y := ⟨_, List.getElem?_eq_getElem (by omega)⟩
  obtain ⟨kd, e0, _, _⟩ := DataW.trod_int Tryz.underlying3 (g0.trans hy0)
  obtain ⟨sg, e1, _, _⟩ := DataW.trod_int Tryz.underlying3 (g1.trans hy1)
  obtain ⟨m, e2, _, _⟩ := DataW.trod_int Tryz.underlying3 (g2.trans hy2)
  obtain ⟨s, e3, _, hsl⟩ := DataW.trod_string Tryz.underlying9 (g3.trans hy3)
  obtain ⟨la, n, lc, ls, e4, k1, k2⟩ := lines_of (g4.trans hy4)
  unfold maxLen at hsl
  refine ⟨kd, sg, m, s, la, n, lc, ls, ?_, k1, k2, by omega⟩
  match cs', hcl, e0, e1, e2, e3, e4 with
  | [v0, v1, v2, v3, v4], _, e0, e1, e2, e3, e4 =>
    simp at e0 e1 e2 e3 e4
    subst e0 e1 e2 e3 e4
    rfl
namespace Contract
end Contract
end Go.Proofs.YtjclkiabgemfpaaGreat

/-
  What LedgerDoes is told of the books and the act that came in; its contract in the frame's form.
-/
set_option linter.unusedVariables false
set_option maxRecDepth 4000
namespace Go.Proofs.YtjclkiabgemfpaaGreat
open Go.RowKit LinesP Lines HoldsP Holds
open StockP (Sk sk0)
open Ledger (SkAt Row6 BkAt SzMB)

theorem hold_of {H : Type} {enc : TypeId × Value → H} {w : World} {base : Nat} {spare : Nat → Bool} {held : Bool} {fuel : Nat} {cs' : List Value} {x : DataW H × List MemPlace} (hcl : cs'.length = 3)
    (ht : DataW.trod enc Tryz.prog w base spare held fuel 69 cs' = some x) :
    ∃ (g t : Int) (la : Option Addr) (n lc : Nat) (ls : List Ln), cs' = [.int .i64 g, .slice la n lc, .int .i64 t] ∧ LsAt w la n ls ∧ SzM ls ∧ -9223372036854775808 ≤ g ∧ g ≤ 9223372036854775807 := by
  obtain ⟨ys, n', _, _, _, hyl, hf⟩ := DataW.trod_struct Tryz.underlying69 ht
  have hys : ys.length = 3 := hyl
  have g0 : DataW.trod enc Tryz.prog w base spare held n' 3 ((cs'.drop 0).take 1) = ys[0]? := by
    have h := hf 0 _ rfl
    change DataW.trod enc Tryz.prog w base spare held n' 3 ((cs'.drop 0).take (Tryz.prog.cellsOf 3)) = ys[0]? at h
    rw [cells_int] at h
    exact h
  have g1 : DataW.trod enc Tryz.prog w base spare held n' 26 ((cs'.drop 1).take 1) = ys[1]? := by
    have h := hf 1 _ rfl
    change DataW.trod enc Tryz.prog w base spare held n' 26 ((cs'.drop 1).take (Tryz.prog.cellsOf 26)) = ys[1]? at h
    rw [cells_lines] at h
    exact h
  have g2 : DataW.trod enc Tryz.prog w base spare held n' 3 ((cs'.drop 2).take 1) = ys[2]? := by
    have h := hf 2 _ rfl
    change DataW.trod enc Tryz.prog w base spare held n' 3 ((cs'.drop 2).take (Tryz.prog.cellsOf 3)) = ys[2]? at h
    rw [cells_int] at h
    exact h
  obtain ⟨y0, hy0⟩ : ∃ y, ys[0]? = some y := ⟨_, List.getElem?_eq_getElem (by omega)⟩
  obtain ⟨y1, hy1⟩ : ∃ y, ys[1]? = some y := ⟨_, List.getElem?_eq_getElem (by omega)⟩
  obtain ⟨y2, hy2⟩ : ∃ y, ys[2]? = some y := ⟨_, List.getElem?_eq_getElem (by omega)⟩
  obtain ⟨g, hg, _, hwf⟩ := DataW.trod_int Tryz.underlying3 (g0.trans hy0)
  obtain ⟨la, n, lc, ls, hl, k1, k2⟩ := lines_of (g1.trans hy1)
  obtain ⟨t, htt, _, _⟩ := DataW.trod_int Tryz.underlying3 (g2.trans hy2)
  have hb := bounds_i64 hwf
  refine ⟨g, t, la, n, lc, ls, ?_, k1, k2, hb.1, hb.2⟩
  match cs', hcl, hg, hl, htt with
  | [v0, v1, v2], _, e0, e1, e2 =>
    simp at e0 e1 e2
    subst e0 e1 e2
    rfl
def IsHold (w : World) (a : Option Addr) (len cap : Nat) : Prop := ∃ l, HsAt w a len l ∧ SzMH l ∧ len ≤ cap
theorem isHold_of {H : Type} {enc : TypeId × Value → H} {w : World} {base : Nat} {spare : Nat → Bool} {held : Bool} {fuel : Nat} {cs : List Value} {x : DataW H × List MemPlace} {a : Option Addr} {len cap : Nat}
    (h : DataW.trod enc Tryz.prog w base spare held fuel 23 cs = some x) (hcs : cs = [.slice a len cap]) : IsHold w a len cap := by
  rcases Go.Deep.open_slice Tryz.underlying23 h with ⟨h0, _⟩ | ⟨a1, len1, cap1, m, n, D, Pl, h1, _, hl, hm, hmm, _, hi⟩
  · rw [hcs] at h0
    simp only [List.cons.injEq, Value.slice.injEq, and_true] at h0
    obtain ⟨rfl, rfl, rfl⟩ := h0
    exact ⟨[], HsAt.nil _ _, (fun x hx => by cases hx), Nat.le_refl _⟩
  · rw [hcs] at h1
    simp only [List.cons.injEq, Value.slice.injEq, and_true] at h1
    obtain ⟨rfl, rfl, rfl⟩ := h1
    unfold maxLen at hm
    by_cases h0 : len = 0
    · subst h0
      exact ⟨[], HsAt.nil _ _, (fun x hx => by cases hx), Nat.zero_le _⟩
    have hlm : len ≤ m := by rw [hmm]; split <;> omega
    have each : ∀ i, i < len → ∃ z : Hz, w.cell? ((a1.add (i * 3)).add 0) = some (.int .i64 z.1.saga) ∧ w.cell? ((a1.add (i * 3)).add 1) = some (.slice z.2.1 z.1.ls.length z.2.2) ∧ w.cell? ((a1.add (i * 3)).add 2) = some (.int .i64 z.1.til) ∧
        LsAt w z.2.1 z.1.ls.length z.1.ls ∧ SzM z.1.ls ∧ -9223372036854775808 ≤ z.1.saga ∧ z.1.saga ≤ 9223372036854775807 := by
      intro i hlt
      obtain ⟨cs', hc, ht⟩ := hi i (by omega)
      rw [cells_hold] at hc
      obtain ⟨_, hcl, hat⟩ := World.cells?_some hc
      obtain ⟨g, t, la, nn, lc, ls, rfl, k1, k2, k3, k4⟩ := hold_of hcl ht
      have hln := k1.1
      subst hln
      exact ⟨(⟨g, ls, t⟩, la, lc), (hat 0 (by omega)).trans rfl, (hat 1 (by omega)).trans rfl, (hat 2 (by omega)).trans rfl, k1, k2, k3, k4⟩
    obtain ⟨b, off, spot⟩ := a1
    obtain ⟨y0, h00, _⟩ := each 0 (by omega)
    have hspot : spot = none := by simpa [Addr.add] using World.cell?_spot h00
    subst hspot
    have hlt := World.block_lt_of_cell? w _ h00
    rw [line_add] at hlt
    have build : ∀ k, k ≤ len → ∃ zs : List Hz, zs.length = k ∧ (∀ z ∈ zs, LsAt w z.2.1 z.1.ls.length z.1.ls ∧ SzM z.1.ls ∧ -9223372036854775808 ≤ z.1.saga ∧ z.1.saga ≤ 9223372036854775807) ∧
        ∀ i, i < k → w.cell? ⟨b, off + i * 3, none⟩ = some (.int .i64 (zs.getD i hz0).1.saga) ∧ w.cell? ⟨b, off + i * 3 + 1, none⟩ = some (.slice (zs.getD i hz0).2.1 (zs.getD i hz0).1.ls.length (zs.getD i hz0).2.2) ∧ w.cell? ⟨b, off + i * 3 + 2, none⟩ = some (.int .i64 (zs.getD i hz0).1.til) := by
      intro k
      induction k with
      | zero => exact fun _ => ⟨[], rfl, (fun z hz => by cases hz), fun i hi => by omega⟩
      | succ k ih =>
        intro hk
        obtain ⟨zs, hl', hall, hcell⟩ := ih (by omega)
        obtain ⟨y, c0, c1, c2, hy⟩ := each k (by omega)
        rw [line_add] at c0 c1 c2
        refine ⟨zs ++ [y], by simp [hl'], fun z hz => ?_, fun i hi' => ?_⟩
        · rcases List.mem_append.1 hz with hz | hz
          · exact hall z hz
          · rw [List.mem_singleton.1 hz]; exact hy
        · by_cases hik : i < k
          · have : (zs ++ [y]).getD i hz0 = zs.getD i hz0 := by simp [List.getD, List.getElem?_append_left (show i < zs.length by omega)]
            rw [this]; exact hcell i hik
          · obtain rfl : i = k := by omega
            have : (zs ++ [y]).getD i hz0 = y := by subst hl'; simp [List.getD]
            rw [this]
            exact ⟨c0, c1, c2⟩
    obtain ⟨zs, hll, hall, hcell⟩ := build len (Nat.le_refl _)
    refine ⟨hs zs, ⟨zs, rfl, hll, by omega, fun z hz => (hall z hz).1, .inr ⟨b, off, rfl, hlt, hcell⟩⟩, fun x hx => ?_, hl⟩
    obtain ⟨z, hz, rfl⟩ := List.mem_map.1 hx
    exact (hall z hz).2.1
theorem holds_of {H : Type} {enc : TypeId × Value → H} {w : World} {base : Nat} {spare : Nat → Bool} {held : Bool} {fuel : Nat} {cs : List Value} {x : DataW H × List MemPlace}
    (h : DataW.trod enc Tryz.prog w base spare held fuel 23 cs = some x) : ∃ a n c, cs = [.slice a n c] ∧ IsHold w a n c := by
  rcases Go.Deep.open_slice Tryz.underlying23 h with ⟨h0, _⟩ | ⟨a1, len1, cap1, m, n, D, Pl, h1, _, _⟩
  · exact ⟨none, 0, 0, h0, isHold_of h h0⟩
  · exact ⟨some a1, len1, cap1, h1, isHold_of h h1⟩
theorem cells_sku : Tryz.prog.cellsOf 41 = 6 := by kernel_rfl
theorem sku_of {H : Type} {enc : TypeId × Value → H} {w : World} {base : Nat} {spare : Nat → Bool} {held : Bool} {fuel : Nat} {cs' : List Value} {x : DataW H × List MemPlace} (hcl : cs'.length = 6)
    (ht : DataW.trod enc Tryz.prog w base spare held fuel 41 cs' = some x) :
    ∃ (s : ByteArray) (a b c d e : Int), s.size ≤ maxLen ∧ cs' = [.string s, .int .i64 a, .int .i64 b, .int .i64 c, .int .i64 d, .int .i64 e] := by
  obtain ⟨ys, n', _, _, _, hyl, hf⟩ := DataW.trod_struct Tryz.underlying41 ht
  have hys : ys.length = 6 := hyl
  have g0 : DataW.trod enc Tryz.prog w base spare held n' 9 ((cs'.drop 0).take 1) = ys[0]? := by
    have h := hf 0 _ rfl
    change DataW.trod enc Tryz.prog w base spare held n' 9 ((cs'.drop 0).take (Tryz.prog.cellsOf 9)) = ys[0]? at h
    rw [cells_string] at h
    exact h
  have gi : ∀ j, 1 ≤ j → j < 6 → DataW.trod enc Tryz.prog w base spare held n' 3 ((cs'.drop j).take 1) = ys[j]? := by
    intro j hj1 hj
    rcases (by omega : j = 1 ∨ j = 2 ∨ j = 3 ∨ j = 4 ∨ j = 5) with rfl | rfl | rfl | rfl | rfl
    · have h := hf 1 _ rfl
      change DataW.trod enc Tryz.prog w base spare held n' 3 ((cs'.drop 1).take (Tryz.prog.cellsOf 3)) = ys[1]? at h
      rw [cells_int] at h; exact h
    · have h := hf 2 _ rfl
      change DataW.trod enc Tryz.prog w base spare held n' 3 ((cs'.drop 2).take (Tryz.prog.cellsOf 3)) = ys[2]? at h
      rw [cells_int] at h; exact h
    · have h := hf 3 _ rfl
      change DataW.trod enc Tryz.prog w base spare held n' 3 ((cs'.drop 3).take (Tryz.prog.cellsOf 3)) = ys[3]? at h
      rw [cells_int] at h; exact h
    · have h := hf 4 _ rfl
      change DataW.trod enc Tryz.prog w base spare held n' 3 ((cs'.drop 4).take (Tryz.prog.cellsOf 3)) = ys[4]? at h
      rw [cells_int] at h; exact h
    · have h := hf 5 _ rfl
      change DataW.trod enc Tryz.prog w base spare held n' 3 ((cs'.drop 5).take (Tryz.prog.cellsOf 3)) = ys[5]? at h
      rw [cells_int] at h; exact h
  obtain ⟨y0, hy0⟩ : ∃ y0, ys[0]? = some y0 := ⟨_, List.getElem?_eq_getElem (by omega)⟩
  obtain ⟨s, hs, _, hsl⟩ := DataW.trod_string Tryz.underlying9 (g0.trans hy0)
  have l0 : 0 < cs'.length := by omega
  have e0 : cs'[0]? = some (.string s) := by
    rw [List.drop_eq_getElem_cons l0, List.take_succ_cons, List.take_zero] at hs
    rw [List.getElem?_eq_getElem l0, (List.cons.inj hs).1]
  have ei : ∀ j, 1 ≤ j → j < 6 → ∃ n : Int, cs'[j]? = some (.int .i64 n) := by
    intro j hj1 hj
    obtain ⟨y1, hy1⟩ : ∃ y1, ys[j]? = some y1 := ⟨_, List.getElem?_eq_getElem (by omega)⟩
    obtain ⟨q, hq, _, hwf⟩ := DataW.trod_int Tryz.underlying3 ((gi j hj1 hj).trans hy1)
    have lj : j < cs'.length := by omega
    rw [List.drop_eq_getElem_cons lj, List.take_succ_cons, List.take_zero] at hq
    exact ⟨q, by rw [List.getElem?_eq_getElem lj, (List.cons.inj hq).1]⟩
  obtain ⟨a, e1⟩ := ei 1 (by omega) (by omega)
  obtain ⟨b, e2⟩ := ei 2 (by omega) (by omega)
  obtain ⟨c, e3⟩ := ei 3 (by omega) (by omega)
  obtain ⟨d', e4⟩ := ei 4 (by omega) (by omega)
  obtain ⟨e, e5⟩ := ei 5 (by omega) (by omega)
  refine ⟨s, a, b, c, d', e, hsl, ?_⟩
  match cs', hcl, e0, e1, e2, e3, e4, e5 with
  | [v0, v1, v2, v3, v4, v5], _, h0, h1, h2, h3, h4, h5 =>
    simp at h0 h1 h2 h3 h4 h5
    subst h0 h1 h2 h3 h4 h5
    rfl
def IsSku (w : World) (a : Option Addr) (len : Nat) : Prop :=
  (∃ l, SkAt w a len l ∧ ∀ x ∈ l, x.nm.size ≤ 9223372036854775807) ∨ (17 ≤ len ∧ len ≤ 9223372036854775807 ∧ ∃ l, SkAt w a 17 l ∧ ∀ x ∈ l, x.nm.size ≤ 9223372036854775807)
theorem skus_of {H : Type} {enc : TypeId × Value → H} {w : World} {base : Nat} {spare : Nat → Bool} {held : Bool} {fuel : Nat} {cs : List Value} {x : DataW H × List MemPlace}
    (h : DataW.trod enc Tryz.prog w base spare held fuel 22 cs = some x) : ∃ a n c, cs = [.slice a n c] ∧ IsSku w a n := by
  rcases Go.Deep.open_slice Tryz.underlying22 h with ⟨h0, _⟩ | ⟨a1, len, cap, m, n, D, Pl, h1, _, hl, hm, hmm, _, hi⟩
  · exact ⟨none, 0, 0, h0, .inl ⟨[], SkAt.nil _ _, fun x hx => by cases hx⟩⟩
  · refine ⟨some a1, len, cap, h1, ?_⟩
    unfold maxLen at hm
    by_cases h0 : len = 0
    · subst h0
      exact .inl ⟨[], SkAt.nil _ _, fun x hx => by cases hx⟩
    have hlm : len ≤ m := by rw [hmm]; split <;> omega
    have each : ∀ i, i < len → ∃ y : Sk, (w.cell? ((a1.add (i * 6)).add 0) = some (.string y.nm) ∧ w.cell? ((a1.add (i * 6)).add 1) = some (.int .i64 y.hand) ∧ w.cell? ((a1.add (i * 6)).add 2) = some (.int .i64 y.held) ∧
        w.cell? ((a1.add (i * 6)).add 3) = some (.int .i64 y.kept) ∧ w.cell? ((a1.add (i * 6)).add 4) = some (.int .i64 y.sent) ∧ w.cell? ((a1.add (i * 6)).add 5) = some (.int .i64 y.inn)) ∧ y.nm.size ≤ 9223372036854775807 := by
      intro i hlt
      obtain ⟨cs', hc, ht⟩ := hi i (by omega)
      rw [cells_sku] at hc
      obtain ⟨_, hcl, hat⟩ := World.cells?_some hc
      obtain ⟨s, y1, y2, y3, y4, y5, hsl, rfl⟩ := sku_of hcl ht
      unfold maxLen at hsl
      exact ⟨⟨s, y1, y2, y3, y4, y5⟩, ⟨(hat 0 (by omega)).trans rfl, (hat 1 (by omega)).trans rfl, (hat 2 (by omega)).trans rfl, (hat 3 (by omega)).trans rfl, (hat 4 (by omega)).trans rfl, (hat 5 (by omega)).trans rfl⟩, by show s.size ≤ _; omega⟩
    obtain ⟨b, off, spot⟩ := a1
    obtain ⟨y0, h00, _⟩ := each 0 (by omega)
    have hspot : spot = none := by simpa [Addr.add] using World.cell?_spot h00.1
    subst hspot
    have hlt := World.block_lt_of_cell? w _ h00.1
    have build : ∀ k, k ≤ len → ∃ l : List Sk, l.length = k ∧ (∀ x ∈ l, x.nm.size ≤ 9223372036854775807) ∧ ∀ i, i < k → Row6 w b (off + i * 6) (l.getD i sk0) := by
      intro k
      induction k with
      | zero => exact fun _ => ⟨[], rfl, (fun z hz => by cases hz), fun i hi => by omega⟩
      | succ k ih =>
        intro hk
        obtain ⟨l, hl', hall, hcell⟩ := ih (by omega)
        obtain ⟨y, hc, hy⟩ := each k (by omega)
        rw [line_add, line_add, line_add, line_add, line_add, line_add] at hc
        refine ⟨l ++ [y], by simp [hl'], fun z hz => ?_, fun i hi' => ?_⟩
        · rcases List.mem_append.1 hz with hz | hz
          · exact hall z hz
          · rw [List.mem_singleton.1 hz]; exact hy
        · by_cases hik : i < k
          · have : (l ++ [y]).getD i sk0 = l.getD i sk0 := by simp [List.getD, List.getElem?_append_left (show i < l.length by omega)]
            rw [this]; exact hcell i hik
          · obtain rfl : i = k := by omega
            have : (l ++ [y]).getD i sk0 = y := by subst hl'; simp [List.getD]
            rw [this]
            exact hc
    by_cases hbig : len ≤ 1000000000
    · obtain ⟨l, hll, hall, hcell⟩ := build len (Nat.le_refl _)
      exact .inl ⟨l, ⟨hll, hbig, .inr ⟨b, off, rfl, hlt, hcell⟩⟩, hall⟩
    · obtain ⟨l, hll, hall, hcell⟩ := build 17 (by omega)
      exact .inr ⟨by omega, by omega, l, ⟨hll, by omega, .inr ⟨b, off, rfl, hlt, hcell⟩⟩, hall⟩
theorem cells_skus : Tryz.prog.cellsOf 22 = 1 := by kernel_rfl
theorem cells_hlds : Tryz.prog.cellsOf 23 = 1 := by kernel_rfl
theorem cells_book : Tryz.prog.cellsOf 25 = 2 := by kernel_rfl
def IsBook (w : World) (a : Option Addr) (len : Nat) (a2 : Option Addr) (len2 cap2 : Nat) : Prop :=
  (∃ b, BkAt w a len a2 len2 cap2 b ∧ SzMB b) ∨ (17 ≤ len ∧ len ≤ 9223372036854775807 ∧ ∃ l, SkAt w a 17 l ∧ ∀ x ∈ l, x.nm.size ≤ 9223372036854775807)
theorem openBook {H : Type} {enc : TypeId × Value → H} {w : World} {r : Reach} {b0 base : Nat} {spare : Nat → Bool} {held : Bool} {v : Value} {d : DataW H} {p : List MemPlace}
    (hv : Value.okWide Tryz.prog w r b0 25 v) (h : DataW.Trod enc Tryz.prog w base spare held 25 v d p) :
    ∃ (a : Option Addr) (len cap : Nat) (a2 : Option Addr) (len2 cap2 : Nat), IsBook w a len a2 len2 cap2 ∧ v = .agg #[.slice a len cap, .slice a2 len2 cap2] := by
  obtain ⟨cs, rfl, hsz⟩ := Go.WideShapes.okWide_struct Tryz.underlying25 hv
  rw [cells_book] at hsz
  obtain ⟨fuel, ht⟩ := h
  obtain ⟨cs', hcs⟩ : ∃ l, cs.toList = l := ⟨_, rfl⟩
  have hcl : cs'.length = 2 := by rw [← hcs, Array.length_toList]; exact hsz
  change DataW.trod enc Tryz.prog w base spare held fuel 25 cs.toList = some (d, p) at ht
  rw [hcs] at ht
  obtain ⟨ys, n', _, _, _, hyl, hf⟩ := DataW.trod_struct Tryz.underlying25 ht
  have hys : ys.length = 2 := hyl
  have g0 : DataW.trod enc Tryz.prog w base spare held n' 22 ((cs'.drop 0).take 1) = ys[0]? := by
    have h := hf 0 _ rfl
    change DataW.trod enc Tryz.prog w base spare held n' 22 ((cs'.drop 0).take (Tryz.prog.cellsOf 22)) = ys[0]? at h
    rw [cells_skus] at h
    exact h
  have g1 : DataW.trod enc Tryz.prog w base spare held n' 23 ((cs'.drop 1).take 1) = ys[1]? := by
    have h := hf 1 _ rfl
    change DataW.trod enc Tryz.prog w base spare held n' 23 ((cs'.drop 1).take (Tryz.prog.cellsOf 23)) = ys[1]? at h
    rw [cells_hlds] at h
    exact h
  obtain ⟨y0, hy0⟩ : ∃ y, ys[0]? = some y := ⟨_, List.getElem?_eq_getElem (by omega)⟩
  obtain ⟨y1, hy1⟩ : ∃ y, ys[1]? = some y := ⟨_, List.getElem?_eq_getElem (by omega)⟩
  obtain ⟨a, n, c, e0, k0⟩ := skus_of (g0.trans hy0)
  obtain ⟨a2, n2, c2, e1, hk, l1, l2, l3⟩ := holds_of (g1.trans hy1)
  refine ⟨a, n, c, a2, n2, c2, ?_, ?_⟩
  · rcases k0 with ⟨l, q1, q2⟩ | q
    · exact .inl ⟨⟨l, hk⟩, ⟨q1, l1, l3⟩, ⟨q2, l2⟩⟩
    · exact .inr q
  · have : cs = #[.slice a n c, .slice a2 n2 c2] := by
      apply Array.ext'
      rw [hcs]
      match cs', hcl, e0, e1 with
      | [v0, v1], _, h0, h1 =>
        simp at h0 h1
        subst h0 h1
        rfl
    rw [this]
def IsActV (w : World) (s : ByteArray) (la : Option Addr) (n : Nat) : Prop := ∃ ls, LsAt w la n ls ∧ SzM ls ∧ s.size ≤ 9223372036854775807
theorem openAct {H : Type} {enc : TypeId × Value → H} {w : World} {r : Reach} {b0 base : Nat} {spare : Nat → Bool} {held : Bool} {v : Value} {d : DataW H} {p : List MemPlace}
    (hv : Value.okWide Tryz.prog w r b0 28 v) (h : DataW.Trod enc Tryz.prog w base spare held 28 v d p) :
    ∃ (kd sg q : Int) (s : ByteArray) (la : Option Addr) (n lc : Nat), IsActV w s la n ∧ v = .agg #[.int .i64 kd, .int .i64 sg, .int .i64 q, .string s, .slice la n lc] := by
  obtain ⟨cs, rfl, hsz⟩ := Go.WideShapes.okWide_struct Tryz.underlying28 hv
  rw [cells_act] at hsz
  obtain ⟨fuel, ht⟩ := h
  change DataW.trod enc Tryz.prog w base spare held fuel 28 cs.toList = some (d, p) at ht
  obtain ⟨kd, sg, q, s, la, n, lc, ls, e, k1, k2, k3⟩ := act_of (by rw [Array.length_toList]; exact hsz) ht
  refine ⟨kd, sg, q, s, la, n, lc, ⟨ls, k1, k2, k3⟩, ?_⟩
  have : cs = #[.int .i64 kd, .int .i64 sg, .int .i64 q, .string s, .slice la n lc] := by
    apply Array.ext'
    rw [e]
  rw [this]
namespace Ledger
open LedgerP
set_option maxHeartbeats 2000000 in
theorem few_long (a : Option Addr) (len cap : Nat) (a2 : Option Addr) (len2 cap2 : Nat) (l : List Sk) (w : World) (h : SkAt w a 17 l) (hs : ∀ x ∈ l, x.nm.size ≤ 9223372036854775807) (hlo : 17 ≤ len) (hhi : len ≤ 9223372036854775807) :
    Calls Tryz.prog 5 #[.agg #[.slice a len cap, .slice a2 len2 cap2]] w fun e w' => e = .returned (.bool false) ∧ Below w.heap.size w w' := by
  have HX := Lib.hid h
  have HS := Lib.hid hs
  have hbel : Below w.heap.size w (w.alloc (.cells #[.slice a len cap, .slice a2 len2 cap2] 25)) := (Below.refl _ w).alloc (Nat.le_refl _) _
  have k0 : (w.alloc (.cells #[.slice a len cap, .slice a2 len2 cap2] 25)).cell? ⟨w.heap.size, 0, none⟩ = some (.slice a len cap) := by rw [World.cell?_alloc_new]; rfl
  have k1 : (w.alloc (.cells #[.slice a len cap, .slice a2 len2 cap2] 25)).cell? ⟨w.heap.size, 1, none⟩ = some (.slice a2 len2 cap2) := by rw [World.cell?_alloc_new]; rfl
  obtain ⟨w0, hw0⟩ : ∃ w0, w.alloc (.cells #[.slice a len cap, .slice a2 len2 cap2] 25) = w0 := ⟨_, rfl⟩
  rw [hw0] at hbel k0 k1
  have HW := Lib.hid hw0; have HBEL := Lib.hid hbel
  clear h hs hw0
  go_enter Tryz.func5, Tryz.ntmps5
  go_wp2_with fail
  rw [show w.alloc (.cells #[.slice a len cap, .slice a2 len2 cap2] 25) = w0 from HW.out]
  go_wp2_with fail
  go_loopw [3] (fun i wr => ∃ k : Nat, k ≤ 16 ∧ i = .int .i64 (k : Int) ∧ wr = w0) (fun i _ => 16 - (intOf i).toNat)
  case atStart => exact ⟨0, Nat.zero_le _, rfl, rfl⟩
  case round =>
    obtain ⟨k, hk16, rfl, rfl⟩ := hrel
    have hlk : k < len := by omega
    by_cases h16 : k < 16
    · have hk17 : k < 17 := by omega
      have hkx : k < l.length := by rw [HX.out.1]; exact hk17
      obtain ⟨b1, o1, s, x0, x1, x2, x3, x4, rfl, g1, hp, hc1⟩ := HX.out.at hk17
      have hsz := HS.out _ (smem_getD hkx)
      rw [hp] at hsz
      simp only at hsz
      obtain ⟨d0, _, _, _, _, _⟩ := hc1 wr HBEL.out
      clear hc1
      by_cases h60 : s.size ≤ 60
      · have h60'' : ¬ ((60 : Int) < (s.size : Int)) := by omega
        clear hkx hp hk17
        go_wp2_with fail
        go_roundw
        case rel => exact ⟨k + 1, by omega, by go_num, by trivial⟩
        case measure => simp [intOf]; omega
      · have h60' : ((60 : Int) < (s.size : Int)) := by omega
        clear hkx hp hk17
        go_wp2_with fail
        go_ret
        exact ⟨rfl, HBEL.out⟩
    · obtain rfl : k = 16 := by omega
      have hle : ¬ ((len : Int) ≤ 16) := by omega
      go_wp2_with fail
      go_ret
      exact ⟨rfl, HBEL.out⟩
theorem fewC_is {w : World} {a : Option Addr} {len cap : Nat} {a2 : Option Addr} {len2 cap2 : Nat} (h : IsBook w a len a2 len2 cap2) : ∃ v, FewC w a len cap a2 len2 cap2 v := by
  rcases h with ⟨b, h, hs⟩ | ⟨h1, h2, l, h3, h4⟩
  · exact ⟨_, fewC_book h hs⟩
  · exact ⟨false, fun w' hb => few_long a len cap a2 len2 cap2 l w' (h3.keep hb) h4 h1 h2, fun hv => by cases hv⟩
end Ledger
namespace Contract
theorem ledgerDoes (a : Option Addr) (len cap : Nat) (a2 : Option Addr) (len2 cap2 : Nat) (kd sg q : Int) (s : ByteArray) (la : Option Addr) (n lc : Nat) (d : Option Addr) (m e : Nat) (d2 : Option Addr) (m2 e2 : Nat) (W : World)
    (w0 : IsBook W a len a2 len2 cap2) (w1 : IsActV W s la n) (w2 : IsBook W d m d2 m2 e2) :
    Calls Tryz.prog 3 #[.agg #[.slice a len cap, .slice a2 len2 cap2], .agg #[.int .i64 kd, .int .i64 sg, .int .i64 q, .string s, .slice la n lc], .agg #[.slice d m e, .slice d2 m2 e2]] W fun e w' => e = .returned (.bool true) ∧ Below W.heap.size W w' := by
  obtain ⟨v1, h1⟩ := Ledger.fewC_is (cap := cap) w0
  obtain ⟨v2, h2⟩ := Ledger.fewC_is (cap := e) w2
  obtain ⟨ls, k1, k2, k3⟩ := w1
  exact Ledger.does_any a len cap a2 len2 cap2 v1 kd sg q s la n lc ls d m e d2 m2 e2 v2 W h1 h2 k1 k2 k3
end Contract
end Go.Proofs.YtjclkiabgemfpaaGreat
