/-
  What a law of holds is told of what came in: slices of holds, a hold by value.
-/
import Derived.Test.YtleopanfggmenaaHoldsQ
import Derived.Test.YtleopanfggmenaaRows
import Derived.OpenShut
import Derived.Deep.Slices
import Derived.WideShapes
set_option linter.unusedVariables false
set_option maxRecDepth 4000
namespace Go.Proofs.Ytleopanfggmenaa
open Go.RowKit LinesP Lines HoldsP Holds

theorem cells_line : Try.prog.cellsOf 45 = 2 := by kernel_rfl
theorem cells_string : Try.prog.cellsOf 9 = 1 := by kernel_rfl
theorem cells_int : Try.prog.cellsOf 3 = 1 := by kernel_rfl
/-- What the walk is told of a slice of lines that came in. -/
def IsLine (w : World) (a : Option Addr) (len cap : Nat) : Prop := ∃ l, LsAt w a len l ∧ SzM l
theorem line_add (b off i j : Nat) : ((⟨b, off, none⟩ : Addr).add i).add j = ⟨b, off + i + j, none⟩ := by rw [Addr.add_lit, Addr.add_lit]
theorem isLine_of {H : Type} {enc : TypeId × Value → H} {w : World} {base : Nat} {spare : Nat → Bool} {held : Bool} {fuel : Nat} {cs : List Value} {x : DataW H × List MemPlace} {a : Option Addr} {len cap : Nat}
    (h : DataW.trod enc Try.prog w base spare held fuel 25 cs = some x) (hcs : cs = [.slice a len cap]) : IsLine w a len cap := by
  rcases Go.Deep.open_slice Try.underlying25 h with ⟨h0, _⟩ | ⟨a1, len1, cap1, m, n, D, Pl, h1, _, hl, hm, hmm, _, hi⟩
  · rw [hcs] at h0
    simp only [List.cons.injEq, Value.slice.injEq, and_true] at h0
    obtain ⟨rfl, rfl, rfl⟩ := h0
    exact ⟨[], ⟨rfl, by omega, .inl rfl⟩, fun x hx => by cases hx⟩
  · rw [hcs] at h1
    simp only [List.cons.injEq, Value.slice.injEq, and_true] at h1
    obtain ⟨rfl, rfl, rfl⟩ := h1
    unfold maxLen at hm
    by_cases h0 : len = 0
    · subst h0
      exact ⟨[], ⟨rfl, by omega, .inl rfl⟩, fun x hx => by cases hx⟩
    have hlm : len ≤ m := by rw [hmm]; split <;> omega
    have each : ∀ i, i < len → ∃ y : Ln, w.cell? ((a1.add (i * 2)).add 0) = some (.string y.1) ∧ w.cell? ((a1.add (i * 2)).add 1) = some (.int .i64 y.2) ∧ y.1.size ≤ 9223372036854775807 ∧ -9223372036854775808 ≤ y.2 ∧ y.2 ≤ 9223372036854775807 := by
      intro i hlt
      obtain ⟨cs', hc, ht⟩ := hi i (by omega)
      rw [cells_line] at hc
      obtain ⟨_, hcl, hat⟩ := World.cells?_some hc
      obtain ⟨ys, n', _, _, _, hyl, hf⟩ := DataW.trod_struct Try.underlying45 ht
      have hys : ys.length = 2 := hyl
      have g0 : DataW.trod enc Try.prog w base spare held n' 9 ((cs'.drop 0).take 1) = ys[0]? := by
        have h := hf 0 _ rfl
        change DataW.trod enc Try.prog w base spare held n' 9 ((cs'.drop 0).take (Try.prog.cellsOf 9)) = ys[0]? at h
        rw [cells_string] at h
        exact h
      obtain ⟨y0, hy0⟩ : ∃ y0, ys[0]? = some y0 := ⟨_, List.getElem?_eq_getElem (by omega)⟩
      obtain ⟨s, hs, _, hsl⟩ := DataW.trod_string Try.underlying9 (g0.trans hy0)
      have g1 : DataW.trod enc Try.prog w base spare held n' 3 ((cs'.drop 1).take 1) = ys[1]? := by
        have h := hf 1 _ rfl
        change DataW.trod enc Try.prog w base spare held n' 3 ((cs'.drop 1).take (Try.prog.cellsOf 3)) = ys[1]? at h
        rw [cells_int] at h
        exact h
      obtain ⟨y1, hy1⟩ : ∃ y1, ys[1]? = some y1 := ⟨_, List.getElem?_eq_getElem (by omega)⟩
      obtain ⟨q, hq, _, hwf⟩ := DataW.trod_int Try.underlying3 (g1.trans hy1)
      have l0 : 0 < cs'.length := by omega
      have l1 : 1 < cs'.length := by omega
      have e0 : cs'[0]? = some (.string s) := by
        rw [List.drop_eq_getElem_cons l0, List.take_succ_cons, List.take_zero] at hs
        rw [List.getElem?_eq_getElem l0, (List.cons.inj hs).1]
      have e1 : cs'[1]? = some (.int .i64 q) := by
        rw [List.drop_eq_getElem_cons l1, List.take_succ_cons, List.take_zero] at hq
        rw [List.getElem?_eq_getElem l1, (List.cons.inj hq).1]
      have hb := bounds_i64 hwf
      unfold maxLen at hsl
      exact ⟨(s, q), (hat 0 (by omega)).trans e0, (hat 1 (by omega)).trans e1, by show s.size ≤ _; omega, hb.1, hb.2⟩
    obtain ⟨b, off, spot⟩ := a1
    obtain ⟨y0, h00, _⟩ := each 0 (by omega)
    have hspot : spot = none := by simpa [Addr.add] using World.cell?_spot h00
    subst hspot
    have hlt := World.block_lt_of_cell? w _ h00
    rw [line_add] at hlt
    -- the lines one by one
    have build : ∀ k, k ≤ len → ∃ l : List Ln, l.length = k ∧ ∀ i, i < k → w.cell? ⟨b, off + i * 2, none⟩ = some (.string (l.getD i ln0).1) ∧ w.cell? ⟨b, off + i * 2 + 1, none⟩ = some (.int .i64 (l.getD i ln0).2) ∧ (l.getD i ln0).1.size ≤ 9223372036854775807 ∧ -9223372036854775808 ≤ (l.getD i ln0).2 ∧ (l.getD i ln0).2 ≤ 9223372036854775807 := by
      intro k
      induction k with
      | zero => exact fun _ => ⟨[], rfl, fun i hi => by omega⟩
      | succ k ih =>
        intro hk
        obtain ⟨l, hl', hall⟩ := ih (by omega)
        obtain ⟨y, c0, c1, hy⟩ := each k (by omega)
        rw [line_add] at c0 c1
        refine ⟨l ++ [y], by simp [hl'], fun i hi' => ?_⟩
        by_cases hik : i < k
        · have : (l ++ [y]).getD i ln0 = l.getD i ln0 := by simp [List.getD, List.getElem?_append_left (show i < l.length by omega)]
          rw [this]; exact hall i hik
        · obtain rfl : i = k := by omega
          have : (l ++ [y]).getD i ln0 = y := by subst hl'; simp [List.getD]
          rw [this]
          exact ⟨c0, c1, hy⟩
    obtain ⟨l, hll, hall⟩ := build len (Nat.le_refl _)
    refine ⟨l, ⟨hll, by omega, .inr ⟨b, off, rfl, hlt, fun i hi' => ⟨(hall i hi').1, (hall i hi').2.1⟩⟩⟩, fun y hy => ?_⟩
    obtain ⟨i, hi', rfl⟩ := List.getElem_of_mem hy
    have h := (hall i (by omega)).2.2
    rw [show l.getD i ln0 = l[i] by simp [List.getD, hi']] at h
    exact h
theorem cells_hold : Try.prog.cellsOf 27 = 3 := by kernel_rfl
theorem cells_lines : Try.prog.cellsOf 25 = 1 := by kernel_rfl
/-- A slice of lines that came in within something else. -/
theorem lines_of {H : Type} {enc : TypeId × Value → H} {w : World} {base : Nat} {spare : Nat → Bool} {held : Bool} {fuel : Nat} {cs : List Value} {x : DataW H × List MemPlace}
    (h : DataW.trod enc Try.prog w base spare held fuel 25 cs = some x) : ∃ la n lc ls, cs = [.slice la n lc] ∧ LsAt w la n ls ∧ SzM ls := by
  rcases Go.Deep.open_slice Try.underlying25 h with ⟨h0, _⟩ | ⟨a1, len1, cap1, m, n, D, Pl, h1, _, _⟩
  · obtain ⟨ls, k1, k2⟩ := isLine_of h h0
    exact ⟨none, 0, 0, ls, h0, k1, k2⟩
  · obtain ⟨ls, k1, k2⟩ := isLine_of h h1
    exact ⟨some a1, len1, cap1, ls, h1, k1, k2⟩
/-- The three cells of a hold that came in. -/
theorem hold_of {H : Type} {enc : TypeId × Value → H} {w : World} {base : Nat} {spare : Nat → Bool} {held : Bool} {fuel : Nat} {cs' : List Value} {x : DataW H × List MemPlace} (hcl : cs'.length = 3)
    (ht : DataW.trod enc Try.prog w base spare held fuel 27 cs' = some x) :
    ∃ (g t : Int) (la : Option Addr) (n lc : Nat) (ls : List Ln), cs' = [.int .i64 g, .slice la n lc, .int .i64 t] ∧ LsAt w la n ls ∧ SzM ls ∧ -9223372036854775808 ≤ g ∧ g ≤ 9223372036854775807 := by
  obtain ⟨ys, n', _, _, _, hyl, hf⟩ := DataW.trod_struct Try.underlying27 ht
  have hys : ys.length = 3 := hyl
  have g0 : DataW.trod enc Try.prog w base spare held n' 3 ((cs'.drop 0).take 1) = ys[0]? := by
    have h := hf 0 _ rfl
    change DataW.trod enc Try.prog w base spare held n' 3 ((cs'.drop 0).take (Try.prog.cellsOf 3)) = ys[0]? at h
    rw [cells_int] at h
    exact h
  have g1 : DataW.trod enc Try.prog w base spare held n' 25 ((cs'.drop 1).take 1) = ys[1]? := by
    have h := hf 1 _ rfl
    change DataW.trod enc Try.prog w base spare held n' 25 ((cs'.drop 1).take (Try.prog.cellsOf 25)) = ys[1]? at h
    rw [cells_lines] at h
    exact h
  have g2 : DataW.trod enc Try.prog w base spare held n' 3 ((cs'.drop 2).take 1) = ys[2]? := by
    have h := hf 2 _ rfl
    change DataW.trod enc Try.prog w base spare held n' 3 ((cs'.drop 2).take (Try.prog.cellsOf 3)) = ys[2]? at h
    rw [cells_int] at h
    exact h
  obtain ⟨y0, hy0⟩ : ∃ y, ys[0]? = some y := ⟨_, List.getElem?_eq_getElem (by omega)⟩
  obtain ⟨y1, hy1⟩ : ∃ y, ys[1]? = some y := ⟨_, List.getElem?_eq_getElem (by omega)⟩
  obtain ⟨y2, hy2⟩ : ∃ y, ys[2]? = some y := ⟨_, List.getElem?_eq_getElem (by omega)⟩
  obtain ⟨g, hg, _, hwf⟩ := DataW.trod_int Try.underlying3 (g0.trans hy0)
  obtain ⟨la, n, lc, ls, hl, k1, k2⟩ := lines_of (g1.trans hy1)
  obtain ⟨t, htt, _, _⟩ := DataW.trod_int Try.underlying3 (g2.trans hy2)
  have hb := bounds_i64 hwf
  refine ⟨g, t, la, n, lc, ls, ?_, k1, k2, hb.1, hb.2⟩
  match cs', hcl, hg, hl, htt with
  | [v0, v1, v2], _, e0, e1, e2 =>
    simp at e0 e1 e2
    subst e0 e1 e2
    rfl
/-- What the walk is told of a slice of holds that came in. -/
def IsHold (w : World) (a : Option Addr) (len cap : Nat) : Prop := ∃ l, HsAt w a len l ∧ SzMH l ∧ BdH l ∧ len ≤ cap
theorem isHold_of {H : Type} {enc : TypeId × Value → H} {w : World} {base : Nat} {spare : Nat → Bool} {held : Bool} {fuel : Nat} {cs : List Value} {x : DataW H × List MemPlace} {a : Option Addr} {len cap : Nat}
    (h : DataW.trod enc Try.prog w base spare held fuel 22 cs = some x) (hcs : cs = [.slice a len cap]) : IsHold w a len cap := by
  rcases Go.Deep.open_slice Try.underlying22 h with ⟨h0, _⟩ | ⟨a1, len1, cap1, m, n, D, Pl, h1, _, hl, hm, hmm, _, hi⟩
  · rw [hcs] at h0
    simp only [List.cons.injEq, Value.slice.injEq, and_true] at h0
    obtain ⟨rfl, rfl, rfl⟩ := h0
    exact ⟨[], HsAt.nil _ _, (fun x hx => by cases hx), (fun x hx => by cases hx), Nat.le_refl _⟩
  · rw [hcs] at h1
    simp only [List.cons.injEq, Value.slice.injEq, and_true] at h1
    obtain ⟨rfl, rfl, rfl⟩ := h1
    unfold maxLen at hm
    by_cases h0 : len = 0
    · subst h0
      exact ⟨[], HsAt.nil _ _, (fun x hx => by cases hx), (fun x hx => by cases hx), Nat.zero_le _⟩
    have hlm : len ≤ m := by rw [hmm]; split <;> omega
    have each : ∀ i, i < len → ∃ z : Hz, w.cell? ((a1.add (i * 3)).add 0) = some (.int .i64 z.1.saga) ∧ w.cell? ((a1.add (i * 3)).add 1) = some (.slice z.2.1 z.1.ls.length z.2.2) ∧ w.cell? ((a1.add (i * 3)).add 2) = some (.int .i64 z.1.til) ∧
        LsAt w z.2.1 z.1.ls.length z.1.ls ∧ SzM z.1.ls ∧ -9223372036854775808 ≤ z.1.saga ∧ z.1.saga ≤ 9223372036854775807 := by
      intro i hlt
      obtain ⟨cs', hc, ht⟩ := hi i (by omega)
      rw [cells_hold] at hc
      obtain ⟨_, hcl, hat⟩ := World.cells?_some hc
      obtain ⟨g, t, la, nn, lc, ls, rfl, k1, k2, k3, k4⟩ := hold_of hcl ht
      have hln := k1.1
      subst hln
      exact ⟨(⟨g, ls, t⟩, la, lc), (hat 0 (by omega)).trans rfl, (hat 1 (by omega)).trans rfl, (hat 2 (by omega)).trans rfl, k1, k2, k3, k4⟩
    obtain ⟨b, off, spot⟩ := a1
    obtain ⟨y0, h00, _⟩ := each 0 (by omega)
    have hspot : spot = none := by simpa [Addr.add] using World.cell?_spot h00
    subst hspot
    have hlt := World.block_lt_of_cell? w _ h00
    rw [line_add] at hlt
    have build : ∀ k, k ≤ len → ∃ zs : List Hz, zs.length = k ∧ (∀ z ∈ zs, LsAt w z.2.1 z.1.ls.length z.1.ls ∧ SzM z.1.ls ∧ -9223372036854775808 ≤ z.1.saga ∧ z.1.saga ≤ 9223372036854775807) ∧
        ∀ i, i < k → w.cell? ⟨b, off + i * 3, none⟩ = some (.int .i64 (zs.getD i hz0).1.saga) ∧ w.cell? ⟨b, off + i * 3 + 1, none⟩ = some (.slice (zs.getD i hz0).2.1 (zs.getD i hz0).1.ls.length (zs.getD i hz0).2.2) ∧ w.cell? ⟨b, off + i * 3 + 2, none⟩ = some (.int .i64 (zs.getD i hz0).1.til) := by
      intro k
      induction k with
      | zero => exact fun _ => ⟨[], rfl, (fun z hz => by cases hz), fun i hi => by omega⟩
      | succ k ih =>
        intro hk
        obtain ⟨zs, hl', hall, hcell⟩ := ih (by omega)
        obtain ⟨y, c0, c1, c2, hy⟩ := each k (by omega)
        rw [line_add] at c0 c1 c2
        refine ⟨zs ++ [y], by simp [hl'], fun z hz => ?_, fun i hi' => ?_⟩
        · rcases List.mem_append.1 hz with hz | hz
          · exact hall z hz
          · rw [List.mem_singleton.1 hz]; exact hy
        · by_cases hik : i < k
          · have : (zs ++ [y]).getD i hz0 = zs.getD i hz0 := by simp [List.getD, List.getElem?_append_left (show i < zs.length by omega)]
            rw [this]; exact hcell i hik
          · obtain rfl : i = k := by omega
            have : (zs ++ [y]).getD i hz0 = y := by subst hl'; simp [List.getD]
            rw [this]
            exact ⟨c0, c1, c2⟩
    obtain ⟨zs, hll, hall, hcell⟩ := build len (Nat.le_refl _)
    refine ⟨hs zs, ⟨zs, rfl, hll, by omega, fun z hz => (hall z hz).1, .inr ⟨b, off, rfl, hlt, hcell⟩⟩, fun x hx => ?_, fun x hx => ?_, hl⟩
    · obtain ⟨z, hz, rfl⟩ := List.mem_map.1 hx
      exact (hall z hz).2.1
    · obtain ⟨z, hz, rfl⟩ := List.mem_map.1 hx
      exact (hall z hz).2.2
/-- A hold by value that came in. -/
theorem openHold {H : Type} {enc : TypeId × Value → H} {w : World} {r : Reach} {b0 base : Nat} {spare : Nat → Bool} {held : Bool} {v : Value} {d : DataW H} {p : List MemPlace}
    (hv : Value.okWide Try.prog w r b0 27 v) (h : DataW.Trod enc Try.prog w base spare held 27 v d p) :
    ∃ (g t : Int) (la : Option Addr) (n lc : Nat), (∃ ls, LsAt w la n ls ∧ SzM ls) ∧ v = .agg #[.int .i64 g, .slice la n lc, .int .i64 t] := by
  obtain ⟨cs, rfl, hsz⟩ := Go.WideShapes.okWide_struct Try.underlying27 hv
  rw [cells_hold] at hsz
  obtain ⟨fuel, ht⟩ := h
  obtain ⟨g, t, la, n, lc, ls, e, k1, k2, _, _⟩ := hold_of (cs' := cs.toList) (by rw [Array.length_toList]; exact hsz) ht
  refine ⟨g, t, la, n, lc, ⟨ls, k1, k2⟩, ?_⟩
  have : cs = #[.int .i64 g, .slice la n lc, .int .i64 t] := by
    apply Array.ext'
    rw [e]
  rw [this]
namespace Contract
theorem holdsTell (a0 : Option Addr) (len0 cap0 : Nat) (a1 : Option Addr) (len1 cap1 : Nat) (m : Int) (s : ByteArray) (W : World) (w0 : IsHold W a0 len0 cap0) (w1 : IsHold W a1 len1 cap1) (w2 : (Lit.int .i64 m).wf = true) (w3 : s.size ≤ maxLen) :
    Calls Try.prog 3 #[.slice a0 len0 cap0, .slice a1 len1 cap1, .int .i64 m, .string s] W fun e w' => e = .returned (.bool true) ∧ Below W.heap.size W w' := by
  obtain ⟨l0, h0, s0, b0, _⟩ := w0
  obtain ⟨l1, h1, s1, _, _⟩ := w1
  unfold maxLen at w3
  cases f0 : fewH l0 with
  | false => exact tell_few0 a0 len0 cap0 a1 len1 cap1 l0 l1 m s W h0 h1 s0 s1 f0
  | true =>
    cases f1 : fewH l1 with
    | false => exact tell_few1 a0 len0 cap0 a1 len1 cap1 l0 l1 m s W h0 h1 s0 s1 f0 f1
    | true =>
      by_cases h60 : s.size ≤ 60
      · exact tell_walk a0 len0 cap0 a1 len1 cap1 l0 l1 m s W h0 h1 s0 s1 b0 f0 f1 h60
      · exact tell_long a0 len0 cap0 a1 len1 cap1 l0 l1 m s W h0 h1 s0 s1 f0 f1 (by omega) (by omega)
theorem holdsTurn (a0 : Option Addr) (len0 cap0 : Nat) (g t : Int) (la : Option Addr) (n lc : Nat) (m : Int) (W : World) (w0 : IsHold W a0 len0 cap0) (w1 : ∃ ls, LsAt W la n ls ∧ SzM ls) (w2 : (Lit.int .i64 m).wf = true) :
    Calls Try.prog 4 #[.slice a0 len0 cap0, .agg #[.int .i64 g, .slice la n lc, .int .i64 t], .int .i64 m] W fun e w' => e = .returned (.bool true) ∧ Below W.heap.size W w' := by
  obtain ⟨l, h, s0, b0, hc⟩ := w0
  obtain ⟨ls, hL, s1⟩ := w1
  cases f0 : fewH l with
  | false => exact turn_few0 a0 len0 cap0 g t la n lc m l ls W h hL s0 s1 f0
  | true =>
    cases f1 : fewV ls with
    | false => exact turn_few1 a0 len0 cap0 g t la n lc m l ls W h hL s0 s1 f0 f1
    | true => exact turn_walk a0 len0 cap0 g t la n lc m l ls W h hL s0 s1 hc f0 f1
end Contract
end Go.Proofs.Ytleopanfggmenaa
