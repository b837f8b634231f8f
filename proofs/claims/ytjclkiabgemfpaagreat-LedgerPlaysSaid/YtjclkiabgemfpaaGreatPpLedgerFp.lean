/-
  What LedgerPlays is told of the acts that came in; its contract in the frame's form.
-/
import Derived.Test.YtjclkiabgemfpaaGreatPpLedgerZd
import Derived.Test.YtjclkiabgemfpaaGreatRows
import Derived.OpenShut
import Derived.Deep.Slices
import Derived.WideShapes
set_option linter.unusedVariables false
set_option maxRecDepth 4000
namespace Go.Proofs.YtjclkiabgemfpaaGreat
open Go.RowKit LinesP Lines HoldsP Holds
open Ledger (AsAt AzAt Az az0 ac0 acts SzMA)

theorem cells_line : Tryz.prog.cellsOf 54 = 2 := by kernel_rfl
theorem cells_string : Tryz.prog.cellsOf 9 = 1 := by kernel_rfl
theorem cells_int : Tryz.prog.cellsOf 3 = 1 := by kernel_rfl
def IsLine (w : World) (a : Option Addr) (len cap : Nat) : Prop := ∃ l, LsAt w a len l ∧ SzM l
theorem line_add (b off i j : Nat) : ((⟨b, off, none⟩ : Addr).add i).add j = ⟨b, off + i + j, none⟩ := by rw [Addr.add_lit, Addr.add_lit]
theorem isLine_of {H : Type} {enc : TypeId × Value → H} {w : World} {base : Nat} {spare : Nat → Bool} {held : Bool} {fuel : Nat} {cs : List Value} {x : DataW H × List MemPlace} {a : Option Addr} {len cap : Nat}
    (h : DataW.trod enc Tryz.prog w base spare held fuel 26 cs = some x) (hcs : cs = [.slice a len cap]) : IsLine w a len cap := by
  rcases Go.Deep.open_slice Tryz.underlying26 h with ⟨h0, _⟩ | ⟨a1, len1, cap1, m, n, D, Pl, h1, _, hl, hm, hmm, _, hi⟩
  · rw [hcs] at h0
    simp only [List.cons.injEq, Value.slice.injEq, and_true] at h0
    obtain ⟨rfl, rfl, rfl⟩ := h0
    exact ⟨[], ⟨rfl, by omega, .inl rfl⟩, fun x hx => by cases hx⟩
  · rw [hcs] at h1
    simp only [List.cons.injEq, Value.slice.injEq, and_true] at h1
    obtain ⟨rfl, rfl, rfl⟩ := h1
    unfold maxLen at hm
    by_cases h0 : len = 0
    · subst h0
      exact ⟨[], ⟨rfl, by omega, .inl rfl⟩, fun x hx => by cases hx⟩
    have hlm : len ≤ m := by rw [hmm]; split <;> omega
    have each : ∀ i, i < len → ∃ y : Ln, w.cell? ((a1.add (i * 2)).add 0) = some (.string y.1) ∧ w.cell? ((a1.add (i * 2)).add 1) = some (.int .i64 y.2) ∧ y.1.size ≤ 9223372036854775807 ∧ -9223372036854775808 ≤ y.2 ∧ y.2 ≤ 9223372036854775807 := by
      intro i hlt
      obtain ⟨cs', hc, ht⟩ := hi i (by omega)
      rw [cells_line] at hc
      obtain ⟨_, hcl, hat⟩ := World.cells?_some hc
      obtain ⟨ys, n', _, _, _, hyl, hf⟩ := DataW.trod_struct Tryz.underlying54 ht
      have hys : ys.length = 2 := hyl
      have g0 : DataW.trod enc Tryz.prog w base spare held n' 9 ((cs'.drop 0).take 1) = ys[0]? := by
        have h := hf 0 _ rfl
        change DataW.trod enc Tryz.prog w base spare held n' 9 ((cs'.drop 0).take (Tryz.prog.cellsOf 9)) = ys[0]? at h
        rw [cells_string] at h
        exact h
      obtain ⟨y0, hy0⟩ : ∃ y0, ys[0]? = some y0 := ⟨_, List.getElem?_eq_getElem (by omega)⟩
      obtain ⟨s, hs, _, hsl⟩ := DataW.trod_string Tryz.underlying9 (g0.trans hy0)
      have g1 : DataW.trod enc Tryz.prog w base spare held n' 3 ((cs'.drop 1).take 1) = ys[1]? := by
        have h := hf 1 _ rfl
        change DataW.trod enc Tryz.prog w base spare held n' 3 ((cs'.drop 1).take (Tryz.prog.cellsOf 3)) = ys[1]? at h
        rw [cells_int] at h
        exact h
      obtain ⟨y1, hy1⟩ : ∃ y1, ys[1]? = some y1 := ⟨_, List.getElem?_eq_getElem (by omega)⟩
      obtain ⟨q, hq, _, hwf⟩ := DataW.trod_int Tryz.underlying3 (g1.trans hy1)
      have l0 : 0 < cs'.length := by omega
      have l1 : 1 < cs'.length := by omega
      have e0 : cs'[0]? = some (.string s) := by
        rw [List.drop_eq_getElem_cons l0, List.take_succ_cons, List.take_zero] at hs
        rw [List.getElem?_eq_getElem l0, (List.cons.inj hs).1]
      have e1 : cs'[1]? = some (.int .i64 q) := by
        rw [List.drop_eq_getElem_cons l1, List.take_succ_cons, List.take_zero] at hq
        rw [List.getElem?_eq_getElem l1, (List.cons.inj hq).1]
      have hb := bounds_i64 hwf
      unfold maxLen at hsl
      exact ⟨(s, q), (hat 0 (by omega)).trans e0, (hat 1 (by omega)).trans e1, by show s.size ≤ _; omega, hb.1, hb.2⟩
    obtain ⟨b, off, spot⟩ := a1
    obtain ⟨y0, h00, _⟩ := each 0 (by omega)
    have hspot : spot = none := by simpa [Addr.add] using World.cell?_spot h00
    subst hspot
    have hlt := World.block_lt_of_cell? w _ h00
    rw [line_add] at hlt
    -- the lines one by one
    have build : ∀ k, k ≤ len → ∃ l : List Ln, l.length = k ∧ ∀ i, i < k → w.cell? ⟨b, off + i * 2, none⟩ = some (.string (l.getD i ln0).1) ∧ w.cell? ⟨b, off + i * 2 + 1, none⟩ = some (.int .i64 (l.getD i ln0).2) ∧ (l.getD i ln0).1.size ≤ 9223372036854775807 ∧ -9223372036854775808 ≤ (l.getD i ln0).2 ∧ (l.getD i ln0).2 ≤ 9223372036854775807 := by
      intro k
      induction k with
      | zero => exact fun _ => ⟨[], rfl, fun i hi => by omega⟩
      | succ k ih =>
        intro hk
        obtain ⟨l, hl', hall⟩ := ih (by omega)
        obtain ⟨y, c0, c1, hy⟩ := each k (by omega)
        rw [line_add] at c0 c1
        refine ⟨l ++ [y], by simp [hl'], fun i hi' => ?_⟩
        by_cases hik : i < k
        · have : (l ++ [y]).getD i ln0 = l.getD i ln0 := by simp [List.getD, List.getElem?_append_left (show i < l.length by omega)]
          rw [this]; exact hall i hik
        · obtain rfl : i = k := by omega
          have : (l ++ [y]).getD i ln0 = y := by subst hl'; simp [List.getD]
          rw [this]
          exact ⟨c0, c1, hy⟩
    obtain ⟨l, hll, hall⟩ := build len (Nat.le_refl _)
    refine ⟨l, ⟨hll, by omega, .inr ⟨b, off, rfl, hlt, fun i hi' => ⟨(hall i hi').1, (hall i hi').2.1⟩⟩⟩, fun y hy => ?_⟩
    obtain ⟨i, hi', rfl⟩ := List.getElem_of_mem hy
    have h := (hall i (by omega)).2.2
    rw [show l.getD i ln0 = l[i] by simp [List.getD, hi']] at h
    exact h
theorem cells_lines : Tryz.prog.cellsOf 26 = 1 := by kernel_rfl
theorem lines_of {H : Type} {enc : TypeId × Value → H} {w : World} {base : Nat} {spare : Nat → Bool} {held : Bool} {fuel : Nat} {cs : List Value} {x : DataW H × List MemPlace}
    (h : DataW.trod enc Tryz.prog w base spare held fuel 26 cs = some x) : ∃ la n lc ls, cs = [.slice la n lc] ∧ LsAt w la n ls ∧ SzM ls := by
  rcases Go.Deep.open_slice Tryz.underlying26 h with ⟨h0, _⟩ | ⟨a1, len1, cap1, m, n, D, Pl, h1, _, _⟩
  · obtain ⟨ls, k1, k2⟩ := isLine_of h h0
    exact ⟨none, 0, 0, ls, h0, k1, k2⟩
  · obtain ⟨ls, k1, k2⟩ := isLine_of h h1
    exact ⟨some a1, len1, cap1, ls, h1, k1, k2⟩
theorem cells_act : Tryz.prog.cellsOf 28 = 5 := by kernel_rfl
theorem act_of {H : Type} {enc : TypeId × Value → H} {w : World} {base : Nat} {spare : Nat → Bool} {held : Bool} {fuel : Nat} {cs' : List Value} {x : DataW H × List MemPlace} (hcl : cs'.length = 5)
    (ht : DataW.trod enc Tryz.prog w base spare held fuel 28 cs' = some x) :
    ∃ (kd sg m : Int) (s : ByteArray) (la : Option Addr) (n lc : Nat) (ls : List Ln), cs' = [.int .i64 kd, .int .i64 sg, .int .i64 m, .string s, .slice la n lc] ∧ LsAt w la n ls ∧ SzM ls ∧ s.size ≤ 9223372036854775807 := by
  obtain ⟨ys, n', _, _, _, hyl, hf⟩ := DataW.trod_struct Tryz.underlying28 ht
  have hys : ys.length = 5 := hyl
  have g0 : DataW.trod enc Tryz.prog w base spare held n' 3 ((cs'.drop 0).take 1) = ys[0]? := by
    have h := hf 0 _ rfl
    change DataW.trod enc Tryz.prog w base spare held n' 3 ((cs'.drop 0).take (Tryz.prog.cellsOf 3)) = ys[0]? at h
    rw [cells_int] at h
    exact h
  have g1 : DataW.trod enc Tryz.prog w base spare held n' 3 ((cs'.drop 1).take 1) = ys[1]? := by
    have h := hf 1 _ rfl
    change DataW.trod enc Tryz.prog w base spare held n' 3 ((cs'.drop 1).take (Tryz.prog.cellsOf 3)) = ys[1]? at h
    rw [cells_int] at h
    exact h
  have g2 : DataW.trod enc Tryz.prog w base spare held n' 3 ((cs'.drop 2).take 1) = ys[2]? := by
    have h := hf 2 _ rfl
    change DataW.trod enc Tryz.prog w base spare held n' 3 ((cs'.drop 2).take (Tryz.prog.cellsOf 3)) = ys[2]? at h
    rw [cells_int] at h
    exact h
  have g3 : DataW.trod enc Tryz.prog w base spare held n' 9 ((cs'.drop 3).take 1) = ys[3]? := by
    have h := hf 3 _ rfl
    change DataW.trod enc Tryz.prog w base spare held n' 9 ((cs'.drop 3).take (Tryz.prog.cellsOf 9)) = ys[3]? at h
    rw [cells_string] at h
    exact h
  have g4 : DataW.trod enc Tryz.prog w base spare held n' 26 ((cs'.drop 4).take 1) = ys[4]? := by
    have h := hf 4 _ rfl
    change DataW.trod enc Tryz.prog w base spare held n' 26 ((cs'.drop 4).take (Tryz.prog.cellsOf 26)) = ys[4]? at h
    rw [cells_lines] at h
    exact h
  obtain ⟨y0, hy0⟩ : ∃ y, ys[0]? = some y := ⟨_, List.getElem?_eq_getElem (by omega)⟩
  obtain ⟨y1, hy1⟩ : ∃ y, ys[1]? = some y := ⟨_, List.getElem?_eq_getElem (by omega)⟩
  obtain ⟨y2, hy2⟩ : ∃ y, ys[2]? = some y := ⟨_, List.getElem?_eq_getElem (by omega)⟩
  obtain ⟨y3, hy3⟩ : ∃ y, ys[3]? = some y := ⟨_, List.getElem?_eq_getElem (by omega)⟩
  obtain ⟨y4, hy4⟩ : ∃ y, ys[4]? = some y := ⟨_, List.getElem?_eq_getElem (by omega)⟩
  obtain ⟨kd, e0, _, _⟩ := DataW.trod_int Tryz.underlying3 (g0.trans hy0)
  obtain ⟨sg, e1, _, _⟩ := DataW.trod_int Tryz.underlying3 (g1.trans hy1)
  obtain ⟨m, e2, _, _⟩ := DataW.trod_int Tryz.underlying3 (g2.trans hy2)
  obtain ⟨s, e3, _, hsl⟩ := DataW.trod_string Tryz.underlying9 (g3.trans hy3)
  obtain ⟨la, n, lc, ls, e4, k1, k2⟩ := lines_of (g4.trans hy4)
  unfold maxLen at hsl
  refine ⟨kd, sg, m, s, la, n, lc, ls, ?_, k1, k2, by omega⟩
  match cs', hcl, e0, e1, e2, e3, e4 with
  | [v0, v1, v2, v3, v4], _, e0, e1, e2, e3, e4 =>
    simp at e0 e1 e2 e3 e4
    subst e0 e1 e2 e3 e4
    rfl
def IsAct (w : World) (a : Option Addr) (len cap : Nat) : Prop := ∃ l, AsAt w a len l ∧ SzMA l
theorem as_nil (w : World) (a : Option Addr) : AsAt w a 0 [] := ⟨[], rfl, rfl, by omega, (fun z hz => by cases hz), .inl rfl⟩
theorem isAct_of {H : Type} {enc : TypeId × Value → H} {w : World} {base : Nat} {spare : Nat → Bool} {held : Bool} {fuel : Nat} {cs : List Value} {x : DataW H × List MemPlace} {a : Option Addr} {len cap : Nat}
    (h : DataW.trod enc Tryz.prog w base spare held fuel 31 cs = some x) (hcs : cs = [.slice a len cap]) : IsAct w a len cap := by
  rcases Go.Deep.open_slice Tryz.underlying31 h with ⟨h0, _⟩ | ⟨a1, len1, cap1, m, n, D, Pl, h1, _, hl, hm, hmm, _, hi⟩
  · rw [hcs] at h0
    simp only [List.cons.injEq, Value.slice.injEq, and_true] at h0
    obtain ⟨rfl, rfl, rfl⟩ := h0
    exact ⟨[], as_nil _ _, fun x hx => by cases hx⟩
  · rw [hcs] at h1
    simp only [List.cons.injEq, Value.slice.injEq, and_true] at h1
    obtain ⟨rfl, rfl, rfl⟩ := h1
    unfold maxLen at hm
    by_cases h0 : len = 0
    · subst h0
      exact ⟨[], as_nil _ _, fun x hx => by cases hx⟩
    have hlm : len ≤ m := by rw [hmm]; split <;> omega
    have each : ∀ i, i < len → ∃ z : Az, (w.cell? ((a1.add (i * 5)).add 0) = some (.int .i64 z.1.kind) ∧ w.cell? ((a1.add (i * 5)).add 1) = some (.int .i64 z.1.saga) ∧ w.cell? ((a1.add (i * 5)).add 2) = some (.int .i64 z.1.n) ∧
        w.cell? ((a1.add (i * 5)).add 3) = some (.string z.1.sku) ∧ w.cell? ((a1.add (i * 5)).add 4) = some (.slice z.2.1 z.1.ls.length z.2.2)) ∧ LsAt w z.2.1 z.1.ls.length z.1.ls ∧ SzM z.1.ls ∧ z.1.sku.size ≤ 9223372036854775807 := by
      intro i hlt
      obtain ⟨cs', hc, ht⟩ := hi i (by omega)
      rw [cells_act] at hc
      obtain ⟨_, hcl, hat⟩ := World.cells?_some hc
      obtain ⟨kd, sg, q, s, la, nn, lc, ls, rfl, k1, k2, k3⟩ := act_of hcl ht
      have hln := k1.1
      subst hln
      exact ⟨(⟨kd, sg, q, s, ls⟩, la, lc), ⟨(hat 0 (by omega)).trans rfl, (hat 1 (by omega)).trans rfl, (hat 2 (by omega)).trans rfl, (hat 3 (by omega)).trans rfl, (hat 4 (by omega)).trans rfl⟩, k1, k2, k3⟩
    obtain ⟨b, off, spot⟩ := a1
    obtain ⟨y0, h00, _⟩ := each 0 (by omega)
    have hspot : spot = none := by simpa [Addr.add] using World.cell?_spot h00.1
    subst hspot
    have hlt := World.block_lt_of_cell? w _ h00.1
    have build : ∀ k, k ≤ len → ∃ zs : List Az, zs.length = k ∧ (∀ z ∈ zs, LsAt w z.2.1 z.1.ls.length z.1.ls ∧ SzM z.1.ls ∧ z.1.sku.size ≤ 9223372036854775807) ∧
        ∀ i, i < k → w.cell? ⟨b, off + i * 5, none⟩ = some (.int .i64 (zs.getD i az0).1.kind) ∧ w.cell? ⟨b, off + i * 5 + 1, none⟩ = some (.int .i64 (zs.getD i az0).1.saga) ∧ w.cell? ⟨b, off + i * 5 + 2, none⟩ = some (.int .i64 (zs.getD i az0).1.n) ∧
          w.cell? ⟨b, off + i * 5 + 3, none⟩ = some (.string (zs.getD i az0).1.sku) ∧ w.cell? ⟨b, off + i * 5 + 4, none⟩ = some (.slice (zs.getD i az0).2.1 (zs.getD i az0).1.ls.length (zs.getD i az0).2.2) := by
      intro k
      induction k with
      | zero => exact fun _ => ⟨[], rfl, (fun z hz => by cases hz), fun i hi => by omega⟩
      | succ k ih =>
        intro hk
        obtain ⟨zs, hl', hall, hcell⟩ := ih (by omega)
        obtain ⟨y, hc, hy⟩ := each k (by omega)
        rw [line_add, line_add, line_add, line_add, line_add] at hc
        refine ⟨zs ++ [y], by simp [hl'], fun z hz => ?_, fun i hi' => ?_⟩
        · rcases List.mem_append.1 hz with hz | hz
          · exact hall z hz
          · rw [List.mem_singleton.1 hz]; exact hy
        · by_cases hik : i < k
          · have : (zs ++ [y]).getD i az0 = zs.getD i az0 := by simp [List.getD, List.getElem?_append_left (show i < zs.length by omega)]
            rw [this]; exact hcell i hik
          · obtain rfl : i = k := by omega
            have : (zs ++ [y]).getD i az0 = y := by subst hl'; simp [List.getD]
            rw [this]
            exact hc
    obtain ⟨zs, hll, hall, hcell⟩ := build len (Nat.le_refl _)
    refine ⟨acts zs, ⟨zs, rfl, hll, by omega, fun z hz => (hall z hz).1, .inr ⟨b, off, rfl, hlt, hcell⟩⟩, fun x hx => ?_⟩
    obtain ⟨z, hz, rfl⟩ := List.mem_map.1 hx
    exact (hall z hz).2
namespace Contract
theorem ledgerPlays (a : Option Addr) (len cap : Nat) (W : World) (w0 : IsAct W a len cap) :
    Calls Tryz.prog 4 #[.slice a len cap] W fun e w' => e = .returned (.bool true) ∧ Below W.heap.size W w' := by
  obtain ⟨l, h, hs⟩ := w0
  exact Ledger.plays_any a len cap l W h hs
end Contract
end Go.Proofs.YtjclkiabgemfpaaGreat
