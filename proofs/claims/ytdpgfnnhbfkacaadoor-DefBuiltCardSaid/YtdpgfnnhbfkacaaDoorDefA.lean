/-
  Steps as elements of a slice; definitions in memory; results in cells; rows of steps compared.
-/
import Derived.Test.YtdpgfnnhbfkacaaDoorDefPlain
import Derived.Test.YtdpgfnnhbfkacaaDoorStepA
import Derived.Test.YtdpgfnnhbfkacaaDoorKt2
import Derived.Test.YtdpgfnnhbfkacaaDoorKt6
import Derived.Test.YtdpgfnnhbfkacaaDoorRw
set_option linter.unusedVariables false
set_option linter.unusedSimpArgs false
set_option maxRecDepth 4000
set_option maxRecDepth 4000
namespace Go.Proofs.YtdpgfnnhbfkacaaDoor.Def
open Go.RowKit DefP
open Go.Proofs.YtdpgfnnhbfkacaaDoor.Kt

def scell (t : Step) : List Value := [.int .i64 t.op, .int .i64 t.cls, .int .i64 t.tries, .int .i64 t.base, .int .i64 t.cap, .int .i64 t.wait]
/-- Steps as elements of a slice. -/
def stS : Rw.Sh Step where
  c := scell
  z := StP.st0
  zv := .agg #[.int .i64 0, .int .i64 0, .int .i64 0, .int .i64 0, .int .i64 0, .int .i64 0]
  ts := 22
  te := 29
  k := 6
  bytes := 48
  pos := by decide
  small := by decide
  len := fun t => rfl
  one := fun t u hu => by
    simp only [scell, List.mem_cons, List.mem_nil_iff, or_false] at hu
    rcases hu with rfl | rfl | rfl | rfl | rfl | rfl <;> rfl
  zcells := rfl
  und := Tryd.underlying22
  info := by kernel_rfl
/-- A slice of steps. -/
abbrev StAt (w : World) (a : Option Addr) (len : Nat) (l : List Step) : Prop := Rw.At stS w a len l
theorem StAt.at {w : World} {a : Option Addr} {len : Nat} {l : List Step} (h : StAt w a len l) {i : Nat} (hi : i < len) :
    ∃ b off x0 x1 x2 x3 x4 x5, a = some ⟨b, off, none⟩ ∧ b < w.heap.size ∧ l[i]? = some ⟨x0, x1, x2, x3, x4, x5⟩ ∧ ∀ w', Below w.heap.size w w' →
      w'.cell? ⟨b, off + i * 6, none⟩ = some (.int .i64 x0) ∧ w'.cell? ⟨b, off + i * 6 + 1, none⟩ = some (.int .i64 x1) ∧ w'.cell? ⟨b, off + i * 6 + 2, none⟩ = some (.int .i64 x2) ∧ w'.cell? ⟨b, off + i * 6 + 3, none⟩ = some (.int .i64 x3) ∧ w'.cell? ⟨b, off + i * 6 + 4, none⟩ = some (.int .i64 x4) ∧ w'.cell? ⟨b, off + i * 6 + 5, none⟩ = some (.int .i64 x5) := by
  obtain ⟨b, off, e, hlt, _, hc⟩ := Rw.At.at h hi rfl
  refine ⟨b, off, (l.getD i StP.st0).op, (l.getD i StP.st0).cls, (l.getD i StP.st0).tries, (l.getD i StP.st0).base, (l.getD i StP.st0).cap, (l.getD i StP.st0).wait, e, hlt, Rw.getD_some (by rw [h.1]; exact hi) rfl, fun w' hb => ⟨?_, ?_, ?_, ?_, ?_, ?_⟩⟩
  · exact hc w' hb 0 _ rfl
  · exact hc w' hb 1 _ rfl
  · exact hc w' hb 2 _ rfl
  · exact hc w' hb 3 _ rfl
  · exact hc w' hb 4 _ rfl
  · exact hc w' hb 5 _ rfl
theorem at_len {w : World} {a : Option Addr} {len : Nat} {l : List Step} (h : StAt w a len l) {i : Nat} (hi : ¬ i < len) : l.length ≤ i := by rw [h.1]; omega
/-- A step's cells in a block of its own. -/
theorem own_cells {W : World} {k : Nat} {x0 x1 x2 x3 x4 x5 : Int} (h : At6 29 W k (.int .i64 x0) (.int .i64 x1) (.int .i64 x2) (.int .i64 x3) (.int .i64 x4) (.int .i64 x5)) : ∀ (j : Nat) (u : Value), (stS.c ⟨x0, x1, x2, x3, x4, x5⟩)[j]? = some u → W.cell? ⟨k, j, none⟩ = some u := by
  intro j u hu
  rw [cell_of_heap h, ← hu]
  simp [stS, scell]
abbrev dv (s : ByteArray) (a : Option Addr) (n c : Nat) : Value := .agg #[.string s, .slice a n c]
theorem def_split (d : Df) : d = ⟨d.name, d.steps⟩ := rfl
/-- The results of a function whose first result is a definition in a cell. -/
theorem results_df {fn : Func} {j k : Nat} (h : fn.results = #[.cell j 24, .tmp k]) (tmps : Array Value) (w : World) (b : Nat) (v0 v1 : Value) (hp : tmps.getD j undef = .pointer (some ⟨b, 0, none⟩))
    (c : At2 24 w b v0 v1) : (results fn tmps).run Tryd.prog w = .ok (.tuple #[.agg #[v0, v1], tmps.getD k undef]) w := by
  have hp' : tmps[j]?.getD undef = .pointer (some ⟨b, 0, none⟩) := by rw [← hp]; simp
  obtain ⟨c0, c1⟩ := cells2 c
  simp only [results, h]
  go_simp
theorem results_df1 {fn : Func} {j : Nat} (h : fn.results = #[.cell j 24]) (tmps : Array Value) (w : World) (b : Nat) (v0 v1 : Value) (hp : tmps.getD j undef = .pointer (some ⟨b, 0, none⟩))
    (c : At2 24 w b v0 v1) : (results fn tmps).run Tryd.prog w = .ok (.agg #[v0, v1]) w := by
  have hp' : tmps[j]?.getD undef = .pointer (some ⟨b, 0, none⟩) := by rw [← hp]; simp
  obtain ⟨c0, c1⟩ := cells2 c
  simp only [results, h]
  go_simp
/-- A definition and a number that come back: the definition's steps lie there, what was there stays. -/
def DfR (w : World) (d : Df) (er : Int) (e : Ending) (w' : World) : Prop :=
  ∃ a c, e = .returned (.tuple #[dv d.name a d.steps.length c, .int .i64 er]) ∧ d.steps.length ≤ c ∧ StAt w' a d.steps.length d.steps ∧ Below w.heap.size w w'
theorem DfR.at {w w' : World} {d : Df} {s : ByteArray} {l : List Step} {n : Nat} {er : Int} {e : Ending} (h : DfR w d er e w') (hd : d = ⟨s, l⟩) (hn : l.length = n) : ∃ a c, e = .returned (.tuple #[dv s a n c, .int .i64 er]) ∧ n ≤ c ∧ StAt w' a n l ∧ Below w.heap.size w w' := by
  subst hd; subst hn; exact h
theorem dfR_of {w w' : World} {d : Df} {s : ByteArray} {l : List Step} {n : Nat} {er : Int} {a : Option Addr} {c : Nat} (hd : d = ⟨s, l⟩) (hn : l.length = n) (hc : n ≤ c) (ha : StAt w' a n l) (hb : Below w.heap.size w w') : DfR w d er (.returned (.tuple #[dv s a n c, .int .i64 er])) w' := by
  subst hd; subst hn; exact ⟨a, c, rfl, hc, ha, hb⟩
theorem dfR_none {w w' : World} {d : Df} {er : Int} (hd : d = df0) (hb : Below w.heap.size w w') : DfR w d er (.returned (.tuple #[dv ⟨#[]⟩ none 0 0, .int .i64 er])) w' := by
  subst hd; exact ⟨none, 0, rfl, Nat.le_refl _, Rw.At.nil _ _ _, hb⟩
/-! ### rows of steps compared -/
def eqSs : List Step → List Step → Bool
  | [], [] => true
  | a :: r, b :: q => StP.eqS a b && eqSs r q
  | _, _ => false
theorem eqS_iff {a b : Step} : StP.eqS a b = true ↔ a = b := by
  obtain ⟨a0, a1, a2, a3, a4, a5⟩ := a
  obtain ⟨b0, b1, b2, b3, b4, b5⟩ := b
  unfold StP.eqS
  simp only [Bool.and_eq_true, beq_iff_eq, StP.St.mk.injEq]
theorem eqSs_iff : ∀ {a b : List Step}, eqSs a b = true ↔ a = b
  | [], [] => by simp [eqSs]
  | [], b :: q => by simp [eqSs]
  | a :: r, [] => by simp [eqSs]
  | a :: r, b :: q => by rw [eqSs, Bool.and_eq_true, eqS_iff, eqSs_iff, List.cons.injEq]
theorem eqSs_len {a b : List Step} (h : a.length ≠ b.length) : eqSs a b = false := by
  cases he : eqSs a b with
  | false => rfl
  | true => exact absurd (congrArg List.length (eqSs_iff.1 he)) h
theorem drop_get {l : List Step} {k : Nat} {x : Step} (h : l[k]? = some x) : l.drop k = x :: l.drop (k + 1) := by
  obtain ⟨hk, e⟩ := List.getElem?_eq_some_iff.1 h
  rw [List.drop_eq_getElem_cons hk, e]
theorem take_get {l : List Step} {k : Nat} {x : Step} (h : l[k]? = some x) : l.take (k + 1) = l.take k ++ [x] := by
  obtain ⟨hk, e⟩ := List.getElem?_eq_some_iff.1 h
  rw [List.take_succ_eq_append_getElem hk, e]
theorem eqSs_end {a b : List Step} {k : Nat} (h1 : a.length ≤ k) (h2 : b.length ≤ k) : eqSs (a.drop k) (b.drop k) = true := by
  rw [List.drop_eq_nil_of_le h1, List.drop_eq_nil_of_le h2]; rfl
theorem eqSs_no {a b : List Step} {k : Nat} {x y : Step} (hx : a[k]? = some x) (hy : b[k]? = some y) (h : StP.eqS x y = false) : eqSs (a.drop k) (b.drop k) = false := by
  rw [drop_get hx, drop_get hy, eqSs, h]; rfl
theorem eqSs_go {a b : List Step} {k : Nat} {x y : Step} (hx : a[k]? = some x) (hy : b[k]? = some y) (h : StP.eqS x y = true) : eqSs (a.drop k) (b.drop k) = eqSs (a.drop (k + 1)) (b.drop (k + 1)) := by
  rw [drop_get hx, drop_get hy, eqSs, h]; rfl
def eqD (a b : Df) : Bool := a.name.data.toList == b.name.data.toList && eqSs a.steps b.steps
theorem eqD_self (a : Df) : eqD a a = true := by unfold eqD; rw [eqSs_iff.2 rfl]; simp

end Go.Proofs.YtdpgfnnhbfkacaaDoor.Def

