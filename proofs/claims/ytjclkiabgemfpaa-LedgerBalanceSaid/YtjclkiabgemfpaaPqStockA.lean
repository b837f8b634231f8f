/-
  An item in memory; the contracts of stock.Fit and of the document's.
-/
import Derived.Test.YtjclkiabgemfpaaPqNamePlain
import Derived.Test.YtjclkiabgemfpaaPqNameC
import Derived.Test.YtjclkiabgemfpaaPqNameG
import Derived.Test.YtjclkiabgemfpaaPqNumB
import Derived.Lib.BufferWrite
import Derived.Deep.QuietTactic
import Derived.BigQuiet
set_option linter.unusedVariables false
set_option maxRecDepth 4000
set_option maxRecDepth 4000
namespace Go.Proofs.Ytjclkiabgemfpaa
open Go.RowKit StockP
open Num (IntsAt)

def skV (x : Sk) : Value := .agg #[.string x.nm, .int .i64 x.hand, .int .i64 x.held, .int .i64 x.kept, .int .i64 x.sent, .int .i64 x.inn]
theorem cell_of_heap {w : World} {b i : Nat} {cs : Array Value} {t : TypeId} {fr : Nat × Nat} (h : w.heap[b]? = some (.cells cs t fr)) : w.cell? ⟨b, i, none⟩ = cs[i]? := by simp [World.cell?, h]
theorem frozen_of_heap {w : World} {b i : Nat} {cs : Array Value} {t : TypeId} (h : w.heap[b]? = some (.cells cs t (0, 0))) : w.frozen? ⟨b, i, none⟩ = false := by simp [World.frozen?, h]
theorem heap_lt {w : World} {b : Nat} {o : Obj} (h : w.heap[b]? = some o) : b < w.heap.size := (Array.getElem?_eq_some_iff.1 h).1
abbrev At6 (w : World) (b : Nat) (v0 v1 v2 v3 v4 v5 : Value) : Prop := w.heap[b]? = some (.cells #[v0, v1, v2, v3, v4, v5] 49 (0, 0))
theorem cells6 {w : World} {v0 v1 v2 v3 v4 v5 : Value} {b : Nat} (h : At6 w b v0 v1 v2 v3 v4 v5) :
    w.cell? ⟨b, 0, none⟩ = some v0 ∧ w.cell? ⟨b, 1, none⟩ = some v1 ∧ w.cell? ⟨b, 2, none⟩ = some v2 ∧ w.cell? ⟨b, 3, none⟩ = some v3 ∧ w.cell? ⟨b, 4, none⟩ = some v4 ∧ w.cell? ⟨b, 5, none⟩ = some v5 := by
  refine ⟨?_, ?_, ?_, ?_, ?_, ?_⟩ <;> (rw [cell_of_heap h]; rfl)
theorem free6 {w : World} {v0 v1 v2 v3 v4 v5 : Value} {b : Nat} (h : At6 w b v0 v1 v2 v3 v4 v5) :
    w.frozen? ⟨b, 0, none⟩ = false ∧ w.frozen? ⟨b, 1, none⟩ = false ∧ w.frozen? ⟨b, 2, none⟩ = false ∧ w.frozen? ⟨b, 3, none⟩ = false ∧ w.frozen? ⟨b, 4, none⟩ = false ∧ w.frozen? ⟨b, 5, none⟩ = false :=
  ⟨frozen_of_heap h, frozen_of_heap h, frozen_of_heap h, frozen_of_heap h, frozen_of_heap h, frozen_of_heap h⟩
theorem At6.keep {w w' : World} {v0 v1 v2 v3 v4 v5 : Value} {b : Nat} (h : At6 w b v0 v1 v2 v3 v4 v5) (hb : Below w.heap.size w w') : At6 w' b v0 v1 v2 v3 v4 v5 := (hb.block b (heap_lt h)).trans h
theorem at6_new (w : World) (v0 v1 v2 v3 v4 v5 : Value) : At6 (w.alloc (.cells #[v0, v1, v2, v3, v4, v5] 49)) w.heap.size v0 v1 v2 v3 v4 v5 := heap_alloc_new w _
theorem At6.alloc {w : World} {v0 v1 v2 v3 v4 v5 : Value} {b : Nat} (h : At6 w b v0 v1 v2 v3 v4 v5) (o : Obj) : At6 (w.alloc o) b v0 v1 v2 v3 v4 v5 := h.keep ((Below.refl _ _).alloc (Nat.le_refl _) o)
abbrev put6 (w : World) (k : Nat) (v0 v1 v2 v3 v4 v5 : Value) : World :=
  (((((w.setCell ⟨k, 0, none⟩ v0).setCell ⟨k, 1, none⟩ v1).setCell ⟨k, 2, none⟩ v2).setCell ⟨k, 3, none⟩ v3).setCell ⟨k, 4, none⟩ v4).setCell ⟨k, 5, none⟩ v5
theorem heap_put6 {w : World} {k : Nat} {x0 x1 x2 x3 x4 x5 : Value} (h : At6 w k x0 x1 x2 x3 x4 x5) (v0 v1 v2 v3 v4 v5 : Value) : At6 (put6 w k v0 v1 v2 v3 v4 v5) k v0 v1 v2 v3 v4 v5 := by
  have h1 := Lib.heap_setCell_same (i := 0) h v0
  have h2 := Lib.heap_setCell_same (i := 1) h1 v1
  have h3 := Lib.heap_setCell_same (i := 2) h2 v2
  have h4 := Lib.heap_setCell_same (i := 3) h3 v3
  have h5 := Lib.heap_setCell_same (i := 4) h4 v4
  exact Lib.heap_setCell_same (i := 5) h5 v5
theorem below_put6 {B : Nat} {w0 w : World} {k : Nat} (h : Below B w0 w) (hk : B ≤ k) (v0 v1 v2 v3 v4 v5 : Value) : Below B w0 (put6 w k v0 v1 v2 v3 v4 v5) :=
  (((((h.setCell (p := ⟨k, 0, none⟩) hk _).setCell (p := ⟨k, 1, none⟩) hk _).setCell (p := ⟨k, 2, none⟩) hk _).setCell (p := ⟨k, 3, none⟩) hk _).setCell (p := ⟨k, 4, none⟩) hk _).setCell (p := ⟨k, 5, none⟩) hk _
theorem results_sku {fn : Func} {j k : Nat} (h : fn.results = #[.cell j 49, .tmp k]) (tmps : Array Value) (w : World) (b : Nat) (x0 x1 x2 x3 x4 x5 : Value) (hp : tmps.getD j undef = .pointer (some ⟨b, 0, none⟩))
    (c : At6 w b x0 x1 x2 x3 x4 x5) : (results fn tmps).run Try.prog w = .ok (.tuple #[.agg #[x0, x1, x2, x3, x4, x5], tmps.getD k undef]) w := by
  have hp' : tmps[j]?.getD undef = .pointer (some ⟨b, 0, none⟩) := by rw [← hp]; simp
  obtain ⟨c0, c1, c2, c3, c4, c5⟩ := cells6 c
  simp only [results, h]
  go_simp
theorem nfit_is (s : ByteArray) (v : Bool) (w : World) (hs : s.size ≤ 4398046511104) (hv : nmS s = v) : Calls Try.prog 41 #[.string s] w fun e w' => e = .returned (.bool v) ∧ Below w.heap.size w w' := by
  have h := Name.fit_any s w hs; unfold nmS at hv; rw [hv] at h; exact h
structure Bx (w w' : World) (v0 v1 v2 v3 v4 v5 : Value) : Prop where
  bel : Below w.heap.size w w'
  box : At6 w' w.heap.size v0 v1 v2 v3 v4 v5
theorem Bx.lt {w w' : World} {v0 v1 v2 v3 v4 v5 : Value} (h : Bx w w' v0 v1 v2 v3 v4 v5) : w.heap.size < w'.heap.size := heap_lt h.box
theorem Bx.keep {w w' w2 : World} {v0 v1 v2 v3 v4 v5 : Value} (h : Bx w w' v0 v1 v2 v3 v4 v5) (hB : Below w'.heap.size w' w2) : Bx w w2 v0 v1 v2 v3 v4 v5 := ⟨h.bel.trans (hB.mono (Nat.le_of_lt h.lt)), h.box.keep hB⟩
theorem Bx.alloc {w w' : World} {v0 v1 v2 v3 v4 v5 : Value} (h : Bx w w' v0 v1 v2 v3 v4 v5) (o : Obj) : Bx w (w'.alloc o) v0 v1 v2 v3 v4 v5 := h.keep ((Below.refl _ _).alloc (Nat.le_refl _) o)
theorem bx_new (w : World) (v0 v1 v2 v3 v4 v5 : Value) : Bx w (w.alloc (.cells #[v0, v1, v2, v3, v4, v5] 49)) v0 v1 v2 v3 v4 v5 := ⟨(Below.refl _ w).alloc (Nat.le_refl _) _, at6_new w _ _ _ _ _ _⟩
theorem four_ints (w : World) (a b c d : Int) : IntsAt (w.alloc (.cells #[.int .i64 a, .int .i64 b, .int .i64 c, .int .i64 d] 3)) (some ⟨w.heap.size, 0, none⟩) 4 [a, b, c, d] := by
  refine ⟨rfl, by omega, .inr ⟨_, _, rfl, fun i hi => ?_⟩⟩
  rw [Nat.zero_add, World.cell?_alloc_new]
  rcases i with _ | _ | _ | _ | i
  · rfl
  · rfl
  · rfl
  · rfl
  · omega
theorem four_behind (w : World) (s : ByteArray) (a b c d e : Int) : IntsAt ((w.alloc (.cells #[.string s, .int .i64 a, .int .i64 b, .int .i64 c, .int .i64 d, .int .i64 e] 49)).alloc (.cells #[.int .i64 a, .int .i64 b, .int .i64 c, .int .i64 d] 3)) (some ⟨w.heap.size + 1, 0, none⟩) 4 [a, b, c, d] := by
  have h := four_ints (w.alloc (.cells #[.string s, .int .i64 a, .int .i64 b, .int .i64 c, .int .i64 d, .int .i64 e] 49)) a b c d
  rw [World.size_alloc] at h
  exact h

theorem sum_four {a b c d : Int} (h : NumP.amt a = true ∧ NumP.amt b = true ∧ NumP.amt c = true ∧ NumP.amt d = true) : NumP.sumP [a, b, c, d] = if 1099511627776 < a + b + c + d then (0, 5) else (a + b + c + d, 0) := by
  obtain ⟨h0, h1, h2, h3⟩ := h
  have k0 := NumP.amt_iff.1 h0; have k1 := NumP.amt_iff.1 h1; have k2 := NumP.amt_iff.1 h2; have k3 := NumP.amt_iff.1 h3
  have hall : NumP.allAmt [a, b, c, d] = true := by simp [NumP.allAmt, h0, h1, h2, h3]
  by_cases h : 1099511627776 < a + b + c + d
  · rw [if_pos h]
    refine NumP.sumP_over hall ?_
    simp only [NumP.addUp]
    repeat' split
    all_goals first | rfl | omega
  · rw [if_neg h]
    refine NumP.sumP_yes hall ?_
    simp only [NumP.addUp]
    repeat' split
    all_goals first | (simp only [Option.some.injEq]; omega) | omega
theorem sum4_not {a b c d : Int} (h : ¬ (NumP.amt a = true ∧ NumP.amt b = true ∧ NumP.amt c = true ∧ NumP.amt d = true)) : NumP.sumP [a, b, c, d] = (0, 11) := by
  apply NumP.sumP_no
  cases hh : NumP.allAmt [a, b, c, d] with
  | false => rfl
  | true =>
    simp only [NumP.allAmt, Bool.and_eq_true, Bool.and_true] at hh
    exact absurd ⟨hh.1, hh.2.1, hh.2.2.1, hh.2.2.2⟩ h
theorem sfit_err (s : ByteArray) (a b c d e : Int) (w : World) (hs : s.size ≤ 4398046511104) (er : Int) (her : NumP.sumP [a, b, c, d] = (0, er)) (h0 : er = 11 ∨ er = 5) :
    Calls Try.prog 48 #[.agg #[.string s, .int .i64 a, .int .i64 b, .int .i64 c, .int .i64 d, .int .i64 e]] w fun z w' => z = .returned (.bool false) ∧ Below w.heap.size w w' := by
  have HSUM := Lib.hid her
  clear her
  have HB0 := Lib.hid (bx_new w (.string s) (.int .i64 a) (.int .i64 b) (.int .i64 c) (.int .i64 d) (.int .i64 e))
  have HS := Lib.hid (four_behind w s a b c d e)
  go_enter Try.func48, Try.ntmps48
  go_wp2_with fail
  refine (Num.sum_any _ _ _ [a, b, c, d] _ HS.out).mono ?_
  rintro z w1 ⟨rfl, rfl⟩
  have HB := Lib.hid (HB0.out.alloc (.cells #[.int .i64 a, .int .i64 b, .int .i64 c, .int .i64 d] 3))
  clear HB0
  obtain ⟨q0, q1, q2, q3, q4, q5⟩ := cells6 HB.out.box
  generalize (w.alloc (.cells #[.string s, .int .i64 a, .int .i64 b, .int .i64 c, .int .i64 d, .int .i64 e] 49)).alloc (.cells #[.int .i64 a, .int .i64 b, .int .i64 c, .int .i64 d] 3) = w1 at *
  rw [HSUM.out]
  rcases h0 with rfl | rfl
  · go_wp2_with fail
    go_ret
    exact ⟨rfl, HB.out.bel⟩
  · go_wp2_with fail
    go_ret
    exact ⟨rfl, HB.out.bel⟩
theorem sfit_sum (s : ByteArray) (a b c d e : Int) (w : World) (hs : s.size ≤ 4398046511104) (her : NumP.sumP [a, b, c, d] = (a + b + c + d, 0)) (hne : e ≠ a + b + c + d) :
    Calls Try.prog 48 #[.agg #[.string s, .int .i64 a, .int .i64 b, .int .i64 c, .int .i64 d, .int .i64 e]] w fun z w' => z = .returned (.bool false) ∧ Below w.heap.size w w' := by
  have HSUM := Lib.hid her
  have hne2 : (e == a + b + c + d) = false := beq_eq_false_iff_ne.2 hne
  clear her hne
  have HB0 := Lib.hid (bx_new w (.string s) (.int .i64 a) (.int .i64 b) (.int .i64 c) (.int .i64 d) (.int .i64 e))
  have HS := Lib.hid (four_behind w s a b c d e)
  go_enter Try.func48, Try.ntmps48
  go_wp2_with fail
  refine (Num.sum_any _ _ _ [a, b, c, d] _ HS.out).mono ?_
  rintro z w1 ⟨rfl, rfl⟩
  have HB := Lib.hid (HB0.out.alloc (.cells #[.int .i64 a, .int .i64 b, .int .i64 c, .int .i64 d] 3))
  clear HB0
  obtain ⟨q0, q1, q2, q3, q4, q5⟩ := cells6 HB.out.box
  generalize (w.alloc (.cells #[.string s, .int .i64 a, .int .i64 b, .int .i64 c, .int .i64 d, .int .i64 e] 49)).alloc (.cells #[.int .i64 a, .int .i64 b, .int .i64 c, .int .i64 d] 3) = w1 at *
  rw [HSUM.out]
  generalize a + b + c + d = t at *
  go_wp2_with fail
  go_ret
  exact ⟨rfl, HB.out.bel⟩
theorem sfit_name (s : ByteArray) (a b c d e : Int) (w : World) (hs : s.size ≤ 4398046511104) (v : Bool) (her : NumP.sumP [a, b, c, d] = (a + b + c + d, 0)) (hne : e = a + b + c + d) (hn : nmS s = v) :
    Calls Try.prog 48 #[.agg #[.string s, .int .i64 a, .int .i64 b, .int .i64 c, .int .i64 d, .int .i64 e]] w fun z w' => z = .returned (.bool v) ∧ Below w.heap.size w w' := by
  have HSUM := Lib.hid her
  have hne2 : (e == a + b + c + d) = true := beq_iff_eq.2 hne
  have HN := Lib.hid (fun w => nfit_is s v w hs hn)
  clear her hne hn
  have HB0 := Lib.hid (bx_new w (.string s) (.int .i64 a) (.int .i64 b) (.int .i64 c) (.int .i64 d) (.int .i64 e))
  have HS := Lib.hid (four_behind w s a b c d e)
  go_enter Try.func48, Try.ntmps48
  go_wp2_with fail
  refine (Num.sum_any _ _ _ [a, b, c, d] _ HS.out).mono ?_
  rintro z w1 ⟨rfl, rfl⟩
  have HB := Lib.hid (HB0.out.alloc (.cells #[.int .i64 a, .int .i64 b, .int .i64 c, .int .i64 d] 3))
  clear HB0
  obtain ⟨q0, q1, q2, q3, q4, q5⟩ := cells6 HB.out.box
  generalize (w.alloc (.cells #[.string s, .int .i64 a, .int .i64 b, .int .i64 c, .int .i64 d, .int .i64 e] 49)).alloc (.cells #[.int .i64 a, .int .i64 b, .int .i64 c, .int .i64 d] 3) = w1 at *
  rw [HSUM.out]
  generalize a + b + c + d = t at *
  go_wp2_with fail
  refine (HN.out _).mono ?_
  rintro z w2 ⟨rfl, hb⟩
  have HB2 := Lib.hid (HB.out.keep hb)
  clear hb HB
  go_wp2_with fail
  go_ret
  exact ⟨rfl, HB2.out.bel⟩
theorem sfit_any (x : Sk) (w : World) (hs : x.nm.size ≤ 4398046511104) :
    Calls Try.prog 48 #[skV x] w fun z w' => z = .returned (.bool (fitS x)) ∧ Below w.heap.size w w' := by
  obtain ⟨s, a, b, c, d, e⟩ := x
  unfold skV
  dsimp only at hs ⊢
  by_cases h : NumP.amt a = true ∧ NumP.amt b = true ∧ NumP.amt c = true ∧ NumP.amt d = true
  · have hsum := sum_four h
    have k0 := NumP.amt_iff.1 h.1; have k1 := NumP.amt_iff.1 h.2.1; have k2 := NumP.amt_iff.1 h.2.2.1; have k3 := NumP.amt_iff.1 h.2.2.2
    by_cases hm : 1099511627776 < a + b + c + d
    · rw [if_pos hm] at hsum
      rw [show fitS ⟨s, a, b, c, d, e⟩ = false from by
        cases hf : fitS ⟨s, a, b, c, d, e⟩ with
        | false => rfl
        | true => have := fitS_iff.1 hf; have h1 := this.most; have h2 := this.sum; dsimp only at h1 h2; omega]
      exact sfit_err s a b c d e w hs 5 hsum (.inr rfl)
    · rw [if_neg hm] at hsum
      by_cases hne : e = a + b + c + d
      · rw [show fitS ⟨s, a, b, c, d, e⟩ = nmS s from by
          cases hn : nmS s with
          | false => simp [fitS, hn]
          | true => exact fitS_iff.2 ⟨hn, k0.1, k1.1, k2.1, k3.1, by dsimp only; omega, by dsimp only; omega⟩]
        exact sfit_name s a b c d e w hs _ hsum hne rfl
      · rw [show fitS ⟨s, a, b, c, d, e⟩ = false from by
          cases hf : fitS ⟨s, a, b, c, d, e⟩ with
          | false => rfl
          | true => have := (fitS_iff.1 hf).sum; dsimp only at this; omega]
        exact sfit_sum s a b c d e w hs hsum hne
  · rw [show fitS ⟨s, a, b, c, d, e⟩ = false from by
      cases hf : fitS ⟨s, a, b, c, d, e⟩ with
      | false => rfl
      | true =>
        have hh := fitS_iff.1 hf
        have u := hh.up
        have v1 := hh.hand; have v2 := hh.held; have v3 := hh.kept; have v4 := hh.sent
        dsimp only at u v1 v2 v3 v4
        exact absurd ⟨NumP.amt_yes v1 u.1, NumP.amt_yes v2 u.2.1, NumP.amt_yes v3 u.2.2.1, NumP.amt_yes v4 u.2.2.2.1⟩ h]
    exact sfit_err s a b c d e w hs 11 (sum4_not h) (.inl rfl)
end Go.Proofs.Ytjclkiabgemfpaa

/-
  The contracts of stock.add, Restock, Adjust, New and of the document's.
-/
set_option linter.unusedVariables false
set_option maxRecDepth 4000
set_option maxRecDepth 4000
namespace Go.Proofs.Ytjclkiabgemfpaa
open Go.RowKit StockP
theorem sfit_is (s : ByteArray) (a b c d e : Int) (v : Bool) (w : World) (hs : s.size ≤ 4398046511104) (hv : fitS ⟨s, a, b, c, d, e⟩ = v) :
    Calls Try.prog 48 #[.agg #[.string s, .int .i64 a, .int .i64 b, .int .i64 c, .int .i64 d, .int .i64 e]] w fun z w' => z = .returned (.bool v) ∧ Below w.heap.size w w' := by
  subst hv; exact sfit_any ⟨s, a, b, c, d, e⟩ w hs
theorem shift_is (a n k er : Int) (w : World) (h : NumP.shiftP a n = (k, er)) : Calls Try.prog 85 #[.int .i64 a, .int .i64 n] w fun z w' => z = .returned (.tuple #[.int .i64 k, .int .i64 er]) ∧ w = w' := by
  have h2 := Num.shift_any a n w; rw [h] at h2; exact h2
structure In2 (w w' : World) (v0 v1 v2 v3 v4 v5 r0 r1 r2 r3 r4 r5 : Value) : Prop where
  bel : Below w.heap.size w w'
  box : At6 w' w.heap.size v0 v1 v2 v3 v4 v5
  res : At6 w' (w.heap.size + 1) r0 r1 r2 r3 r4 r5
theorem In2.keep {w w' w2 : World} {v0 v1 v2 v3 v4 v5 r0 r1 r2 r3 r4 r5 : Value} (h : In2 w w' v0 v1 v2 v3 v4 v5 r0 r1 r2 r3 r4 r5) (hB : Below w'.heap.size w' w2) : In2 w w2 v0 v1 v2 v3 v4 v5 r0 r1 r2 r3 r4 r5 :=
  ⟨h.bel.trans (hB.mono (Nat.le_of_lt (heap_lt h.box))), h.box.keep hB, h.res.keep hB⟩
theorem in2_new (w : World) (v0 v1 v2 v3 v4 v5 r0 r1 r2 r3 r4 r5 : Value) : In2 w ((w.alloc (.cells #[v0, v1, v2, v3, v4, v5] 49)).alloc (.cells #[r0, r1, r2, r3, r4, r5] 49)) v0 v1 v2 v3 v4 v5 r0 r1 r2 r3 r4 r5 := by
  refine ⟨((Below.refl _ w).alloc (Nat.le_refl _) _).alloc (by rw [World.size_alloc]; omega) _, (at6_new w _ _ _ _ _ _).alloc _, ?_⟩
  have h := at6_new (w.alloc (.cells #[v0, v1, v2, v3, v4, v5] 49)) r0 r1 r2 r3 r4 r5
  rw [World.size_alloc] at h
  exact h
theorem In2.set {w w' : World} {v0 v1 v2 v3 v4 v5 r0 r1 r2 r3 r4 r5 : Value} (h : In2 w w' v0 v1 v2 v3 v4 v5 r0 r1 r2 r3 r4 r5) (i j : Nat) (x y : Value) : At6 ((w'.setCell ⟨w.heap.size, i, none⟩ x).setCell ⟨w.heap.size, j, none⟩ y) (w.heap.size + 1) r0 r1 r2 r3 r4 r5 := by
  unfold At6
  rw [heap_setCell_other _ _ _ _ (by simp), heap_setCell_other _ _ _ _ (by simp)]
  exact h.res
theorem In2.setB {w w' : World} {v0 v1 v2 v3 v4 v5 r0 r1 r2 r3 r4 r5 : Value} (h : In2 w w' v0 v1 v2 v3 v4 v5 r0 r1 r2 r3 r4 r5) (i j : Nat) (x y : Value) : Below w.heap.size w ((w'.setCell ⟨w.heap.size, i, none⟩ x).setCell ⟨w.heap.size, j, none⟩ y) :=
  (h.bel.setCell (p := ⟨w.heap.size, i, none⟩) (Nat.le_refl _) _).setCell (p := ⟨w.heap.size, j, none⟩) (Nat.le_refl _) _
theorem add_err1 (s : ByteArray) (a b c d e : Int) (n : Int) (w : World) (k er : Int) (h1 : NumP.shiftP a n = (k, er)) (hne : er ≠ 0) :
    Calls Try.prog 74 #[.agg #[.string s, .int .i64 a, .int .i64 b, .int .i64 c, .int .i64 d, .int .i64 e], .int .i64 n] w fun z w' => z = .returned (.tuple #[.agg #[.string ⟨#[]⟩, .int .i64 0, .int .i64 0, .int .i64 0, .int .i64 0, .int .i64 0], .int .i64 er]) ∧ Below w.heap.size w w' := by
  have H1 := Lib.hid (fun w => shift_is a n k er w h1)
  have hne2 : (er != 0) = true := bne_iff_ne.2 hne
  clear h1 hne
  have HB := Lib.hid (in2_new w (.string s) (.int .i64 a) (.int .i64 b) (.int .i64 c) (.int .i64 d) (.int .i64 e) (.string ⟨#[]⟩) (.int .i64 0) (.int .i64 0) (.int .i64 0) (.int .i64 0) (.int .i64 0))
  go_enter Try.func74, Try.ntmps74
  go_wp2_with fail
  refine (H1.out _).mono ?_
  rintro z w' ⟨rfl, rfl⟩
  generalize (w.alloc (.cells #[.string s, .int .i64 a, .int .i64 b, .int .i64 c, .int .i64 d, .int .i64 e] 49)).alloc (.cells #[.string ⟨#[]⟩, .int .i64 0, .int .i64 0, .int .i64 0, .int .i64 0, .int .i64 0] 49) = w1 at *
  obtain ⟨q0, q1, q2, q3, q4, q5⟩ := cells6 HB.out.box
  obtain ⟨z0, z1, z2, z3, z4, z5⟩ := cells6 HB.out.res
  obtain ⟨f0, f1, f2, f3, f4, f5⟩ := free6 HB.out.res
  obtain ⟨k0, k1, k2, k3, k4, k5⟩ := free6 HB.out.box
  go_wp2_with fail
  have HRS := Lib.hid (heap_put6 HB.out.res (.string ⟨#[]⟩) (.int .i64 0) (.int .i64 0) (.int .i64 0) (.int .i64 0) (.int .i64 0))
  have HW := Lib.hid (below_put6 HB.out.bel (Nat.le_succ _) (.string ⟨#[]⟩) (.int .i64 0) (.int .i64 0) (.int .i64 0) (.int .i64 0) (.int .i64 0))
  exact bodyPost_ret (results_sku rfl _ _ (w.heap.size + 1) _ _ _ _ _ _ rfl HRS.out) rfl ⟨rfl, HW.out⟩
theorem add_err2 (s : ByteArray) (a b c d e : Int) (n : Int) (w : World) (k k2 er : Int) (h1 : NumP.shiftP a n = (k, 0)) (h2 : NumP.shiftP e n = (k2, er)) (hne : er ≠ 0) :
    Calls Try.prog 74 #[.agg #[.string s, .int .i64 a, .int .i64 b, .int .i64 c, .int .i64 d, .int .i64 e], .int .i64 n] w fun z w' => z = .returned (.tuple #[.agg #[.string ⟨#[]⟩, .int .i64 0, .int .i64 0, .int .i64 0, .int .i64 0, .int .i64 0], .int .i64 er]) ∧ Below w.heap.size w w' := by
  have H1 := Lib.hid (fun w => shift_is a n k 0 w h1)
  have H2 := Lib.hid (fun w => shift_is e n k2 er w h2)
  have hne2 : (er != 0) = true := bne_iff_ne.2 hne
  clear h1 h2 hne
  have HB := Lib.hid (in2_new w (.string s) (.int .i64 a) (.int .i64 b) (.int .i64 c) (.int .i64 d) (.int .i64 e) (.string ⟨#[]⟩) (.int .i64 0) (.int .i64 0) (.int .i64 0) (.int .i64 0) (.int .i64 0))
  go_enter Try.func74, Try.ntmps74
  go_wp2_with fail
  refine (H1.out _).mono ?_
  rintro z w' ⟨rfl, rfl⟩
  generalize (w.alloc (.cells #[.string s, .int .i64 a, .int .i64 b, .int .i64 c, .int .i64 d, .int .i64 e] 49)).alloc (.cells #[.string ⟨#[]⟩, .int .i64 0, .int .i64 0, .int .i64 0, .int .i64 0, .int .i64 0] 49) = w1 at *
  obtain ⟨q0, q1, q2, q3, q4, q5⟩ := cells6 HB.out.box
  obtain ⟨z0, z1, z2, z3, z4, z5⟩ := cells6 HB.out.res
  obtain ⟨f0, f1, f2, f3, f4, f5⟩ := free6 HB.out.res
  obtain ⟨k0, k1, k2, k3, k4, k5⟩ := free6 HB.out.box
  go_wp2_with fail
  refine (H2.out _).mono ?_
  rintro z w' ⟨rfl, rfl⟩
  go_wp2_with fail
  have HRS := Lib.hid (heap_put6 HB.out.res (.string ⟨#[]⟩) (.int .i64 0) (.int .i64 0) (.int .i64 0) (.int .i64 0) (.int .i64 0))
  have HW := Lib.hid (below_put6 HB.out.bel (Nat.le_succ _) (.string ⟨#[]⟩) (.int .i64 0) (.int .i64 0) (.int .i64 0) (.int .i64 0) (.int .i64 0))
  exact bodyPost_ret (results_sku rfl _ _ (w.heap.size + 1) _ _ _ _ _ _ rfl HRS.out) rfl ⟨rfl, HW.out⟩
theorem add_yes (s : ByteArray) (a b c d e : Int) (n : Int) (w : World) (h g : Int) (h1 : NumP.shiftP a n = (h, 0)) (h2 : NumP.shiftP e n = (g, 0)) :
    Calls Try.prog 74 #[.agg #[.string s, .int .i64 a, .int .i64 b, .int .i64 c, .int .i64 d, .int .i64 e], .int .i64 n] w fun z w' => z = .returned (.tuple #[.agg #[.string s, .int .i64 (h), .int .i64 (b), .int .i64 (c), .int .i64 (d), .int .i64 (g)], .int .i64 0]) ∧ Below w.heap.size w w' := by
  have H1 := Lib.hid (fun w => shift_is a n h 0 w h1)
  have H2 := Lib.hid (fun w => shift_is e n g 0 w h2)
  clear h1 h2
  have HB := Lib.hid (in2_new w (.string s) (.int .i64 a) (.int .i64 b) (.int .i64 c) (.int .i64 d) (.int .i64 e) (.string ⟨#[]⟩) (.int .i64 0) (.int .i64 0) (.int .i64 0) (.int .i64 0) (.int .i64 0))
  go_enter Try.func74, Try.ntmps74
  go_wp2_with fail
  refine (H1.out _).mono ?_
  rintro z w' ⟨rfl, rfl⟩
  generalize (w.alloc (.cells #[.string s, .int .i64 a, .int .i64 b, .int .i64 c, .int .i64 d, .int .i64 e] 49)).alloc (.cells #[.string ⟨#[]⟩, .int .i64 0, .int .i64 0, .int .i64 0, .int .i64 0, .int .i64 0] 49) = w1 at *
  obtain ⟨q0, q1, q2, q3, q4, q5⟩ := cells6 HB.out.box
  obtain ⟨z0, z1, z2, z3, z4, z5⟩ := cells6 HB.out.res
  obtain ⟨f0, f1, f2, f3, f4, f5⟩ := free6 HB.out.res
  obtain ⟨k0, k1, k2, k3, k4, k5⟩ := free6 HB.out.box
  go_wp2_with fail
  refine (H2.out _).mono ?_
  rintro z w' ⟨rfl, rfl⟩
  go_wp2_with fail
  have HRS := Lib.hid (heap_put6 (HB.out.set 1 5 (.int .i64 h) (.int .i64 g)) (.string s) (.int .i64 (h)) (.int .i64 (b)) (.int .i64 (c)) (.int .i64 (d)) (.int .i64 (g)))
  have HW := Lib.hid (below_put6 (HB.out.setB 1 5 (.int .i64 h) (.int .i64 g)) (Nat.le_succ _) (.string s) (.int .i64 (h)) (.int .i64 (b)) (.int .i64 (c)) (.int .i64 (d)) (.int .i64 (g)))
  exact bodyPost_ret (results_sku rfl _ _ (w.heap.size + 1) _ _ _ _ _ _ rfl HRS.out) rfl ⟨rfl, HW.out⟩
def addV (x : Sk) (n : Int) : Sk × Int :=
  if -1099511627776 ≤ n ∧ n ≤ 1099511627776 then if x.hand + n < 0 then (sk0, 6) else if 1099511627776 < x.inn + n then (sk0, 5) else ({ x with hand := x.hand + n, inn := x.inn + n }, 0) else (sk0, 11)
theorem shift_out {a n : Int} (h : ¬ (-1099511627776 ≤ n ∧ n ≤ 1099511627776)) : NumP.shiftP a n = (0, 11) := NumP.shiftP_no (.inr (by omega))
theorem shift_to {a n : Int} (h0 : 0 ≤ a) (h1 : a ≤ 1099511627776) (h : -1099511627776 ≤ n ∧ n ≤ 1099511627776) : NumP.shiftP a n = if a + n < 0 then (0, 6) else if 1099511627776 < a + n then (0, 5) else (a + n, 0) := NumP.shiftP_in (NumP.amt_yes h0 h1) h.1 h.2
theorem add_any (x : Sk) (n : Int) (w : World) (hf : Fit x) :
    Calls Try.prog 74 #[skV x, .int .i64 n] w fun z w' => z = .returned (.tuple #[skV (addV x n).1, .int .i64 (addV x n).2]) ∧ Below w.heap.size w w' := by
  obtain ⟨s, a, b, c, d, e⟩ := x
  obtain ⟨_, g1, g2, g3, g4, g5, g6⟩ := hf
  dsimp only at g1 g2 g3 g4 g5 g6
  by_cases h : -1099511627776 ≤ n ∧ n ≤ 1099511627776
  · have s1 := shift_to g1 (by omega) h
    have s2 := shift_to (a := e) (by omega) g5 h
    by_cases h1 : a + n < 0
    · rw [show addV ⟨s, a, b, c, d, e⟩ n = (sk0, 6) from by unfold addV; rw [if_pos h, if_pos h1]]
      rw [if_pos h1] at s1
      exact add_err1 s a b c d e n w 0 6 s1 (by decide)
    · rw [if_neg h1] at s1
      by_cases h2 : 1099511627776 < e + n
      · rw [show addV ⟨s, a, b, c, d, e⟩ n = (sk0, 5) from by unfold addV; rw [if_pos h, if_neg h1, if_pos h2]]
        rw [if_neg (by omega), if_pos h2] at s2
        by_cases h3 : 1099511627776 < a + n
        · rw [if_pos h3] at s1
          exact add_err1 s a b c d e n w 0 5 s1 (by decide)
        · rw [if_neg h3] at s1
          exact add_err2 s a b c d e n w (a + n) 0 5 s1 s2 (by decide)
      · rw [show addV ⟨s, a, b, c, d, e⟩ n = (⟨s, a + n, b, c, d, e + n⟩, 0) from by unfold addV; rw [if_pos h, if_neg h1, if_neg h2]]
        rw [if_neg (by omega), if_neg h2] at s2
        rw [if_neg (by omega)] at s1
        exact add_yes s a b c d e n w (a + n) (e + n) s1 s2
  · rw [show addV ⟨s, a, b, c, d, e⟩ n = (sk0, 11) from by unfold addV; rw [if_neg h]]
    exact add_err1 s a b c d e n w 0 11 (shift_out h) (by decide)
theorem add_is (x y : Sk) (n er : Int) (w : World) (hf : Fit x) (h : addV x n = (y, er)) :
    Calls Try.prog 74 #[skV x, .int .i64 n] w fun z w' => z = .returned (.tuple #[.agg #[.string y.nm, .int .i64 y.hand, .int .i64 y.held, .int .i64 y.kept, .int .i64 y.sent, .int .i64 y.inn], .int .i64 er]) ∧ Below w.heap.size w w' := by
  have h2 := add_any x n w hf; rw [h] at h2; exact h2
theorem srestock_bad (s : ByteArray) (a b c d e : Int) (n : Int) (w : World)  (hs : s.size ≤ 4398046511104) (hf : fitS ⟨s, a, b, c, d, e⟩ = false) :
    Calls Try.prog 46 #[.agg #[.string s, .int .i64 a, .int .i64 b, .int .i64 c, .int .i64 d, .int .i64 e], .int .i64 n] w fun z w' => z = .returned (.tuple #[.agg #[.string ⟨#[]⟩, .int .i64 0, .int .i64 0, .int .i64 0, .int .i64 0, .int .i64 0], .int .i64 12]) ∧ Below w.heap.size w w' := by
  have HF := Lib.hid (fun w => sfit_is s a b c d e false w hs hf)
  clear hf
  have HB := Lib.hid (in2_new w (.string s) (.int .i64 a) (.int .i64 b) (.int .i64 c) (.int .i64 d) (.int .i64 e) (.string ⟨#[]⟩) (.int .i64 0) (.int .i64 0) (.int .i64 0) (.int .i64 0) (.int .i64 0))
  go_enter Try.func46, Try.ntmps46
  go_wp2_with fail
  refine (HF.out _).mono ?_
  rintro z w1 ⟨rfl, hb⟩
  have HB1 := Lib.hid (HB.out.keep hb)
  clear hb HB
  have HB := HB1; clear HB1
  obtain ⟨q0, q1, q2, q3, q4, q5⟩ := cells6 HB.out.box
  obtain ⟨z0, z1, z2, z3, z4, z5⟩ := cells6 HB.out.res
  obtain ⟨f0, f1, f2, f3, f4, f5⟩ := free6 HB.out.res
  obtain ⟨k0, k1, k2, k3, k4, k5⟩ := free6 HB.out.box
  go_wp2_with fail
  have HRS := Lib.hid (heap_put6 HB.out.res (.string ⟨#[]⟩) (.int .i64 0) (.int .i64 0) (.int .i64 0) (.int .i64 0) (.int .i64 0))
  have HW := Lib.hid (below_put6 HB.out.bel (Nat.le_succ _) (.string ⟨#[]⟩) (.int .i64 0) (.int .i64 0) (.int .i64 0) (.int .i64 0) (.int .i64 0))
  exact bodyPost_ret (results_sku rfl _ _ (w.heap.size + 1) _ _ _ _ _ _ rfl HRS.out) rfl ⟨rfl, HW.out⟩
theorem srestock_range (s : ByteArray) (a b c d e : Int) (n : Int) (w : World)  (hs : s.size ≤ 4398046511104) (hf : fitS ⟨s, a, b, c, d, e⟩ = true) (hn : n < 1) :
    Calls Try.prog 46 #[.agg #[.string s, .int .i64 a, .int .i64 b, .int .i64 c, .int .i64 d, .int .i64 e], .int .i64 n] w fun z w' => z = .returned (.tuple #[.agg #[.string ⟨#[]⟩, .int .i64 0, .int .i64 0, .int .i64 0, .int .i64 0, .int .i64 0], .int .i64 11]) ∧ Below w.heap.size w w' := by
  have HF := Lib.hid (fun w => sfit_is s a b c d e true w hs hf)
  clear hf
  have HB := Lib.hid (in2_new w (.string s) (.int .i64 a) (.int .i64 b) (.int .i64 c) (.int .i64 d) (.int .i64 e) (.string ⟨#[]⟩) (.int .i64 0) (.int .i64 0) (.int .i64 0) (.int .i64 0) (.int .i64 0))
  go_enter Try.func46, Try.ntmps46
  go_wp2_with fail
  refine (HF.out _).mono ?_
  rintro z w1 ⟨rfl, hb⟩
  have HB1 := Lib.hid (HB.out.keep hb)
  clear hb HB
  have HB := HB1; clear HB1
  obtain ⟨q0, q1, q2, q3, q4, q5⟩ := cells6 HB.out.box
  obtain ⟨z0, z1, z2, z3, z4, z5⟩ := cells6 HB.out.res
  obtain ⟨f0, f1, f2, f3, f4, f5⟩ := free6 HB.out.res
  obtain ⟨k0, k1, k2, k3, k4, k5⟩ := free6 HB.out.box
  go_wp2_with fail
  have HRS := Lib.hid (heap_put6 HB.out.res (.string ⟨#[]⟩) (.int .i64 0) (.int .i64 0) (.int .i64 0) (.int .i64 0) (.int .i64 0))
  have HW := Lib.hid (below_put6 HB.out.bel (Nat.le_succ _) (.string ⟨#[]⟩) (.int .i64 0) (.int .i64 0) (.int .i64 0) (.int .i64 0) (.int .i64 0))
  exact bodyPost_ret (results_sku rfl _ _ (w.heap.size + 1) _ _ _ _ _ _ rfl HRS.out) rfl ⟨rfl, HW.out⟩
theorem srestock_add (s : ByteArray) (a b c d e : Int) (n : Int) (w : World)  (hs : s.size ≤ 4398046511104) (hf : fitS ⟨s, a, b, c, d, e⟩ = true) (hn : ¬ n < 1) (y : Sk) (er : Int) (ha : addV ⟨s, a, b, c, d, e⟩ n = (y, er)) :
    Calls Try.prog 46 #[.agg #[.string s, .int .i64 a, .int .i64 b, .int .i64 c, .int .i64 d, .int .i64 e], .int .i64 n] w fun z w' => z = .returned (.tuple #[.agg #[.string y.nm, .int .i64 (y.hand), .int .i64 (y.held), .int .i64 (y.kept), .int .i64 (y.sent), .int .i64 (y.inn)], .int .i64 er]) ∧ Below w.heap.size w w' := by
  have HA := Lib.hid (fun w => add_is ⟨s, a, b, c, d, e⟩ y n er w (fitS_iff.1 hf) ha)
  unfold skV at HA
  dsimp only at HA
  have HF := Lib.hid (fun w => sfit_is s a b c d e true w hs hf)
  clear hf
  clear ha
  have HB := Lib.hid (in2_new w (.string s) (.int .i64 a) (.int .i64 b) (.int .i64 c) (.int .i64 d) (.int .i64 e) (.string ⟨#[]⟩) (.int .i64 0) (.int .i64 0) (.int .i64 0) (.int .i64 0) (.int .i64 0))
  go_enter Try.func46, Try.ntmps46
  go_wp2_with fail
  refine (HF.out _).mono ?_
  rintro z w1 ⟨rfl, hb⟩
  have HB1 := Lib.hid (HB.out.keep hb)
  clear hb HB
  have HB := HB1; clear HB1
  obtain ⟨q0, q1, q2, q3, q4, q5⟩ := cells6 HB.out.box
  obtain ⟨z0, z1, z2, z3, z4, z5⟩ := cells6 HB.out.res
  obtain ⟨f0, f1, f2, f3, f4, f5⟩ := free6 HB.out.res
  obtain ⟨k0, k1, k2, k3, k4, k5⟩ := free6 HB.out.box
  go_wp2_with fail
  refine (HA.out _).mono ?_
  rintro z w3 ⟨rfl, hb⟩
  clear q0 q1 q2 q3 q4 q5 z0 z1 z2 z3 z4 z5 f0 f1 f2 f3 f4 f5 k0 k1 k2 k3 k4 k5
  have HB3 := Lib.hid (HB.out.keep hb)
  clear hb HB
  have HB := HB3; clear HB3
  obtain ⟨q0, q1, q2, q3, q4, q5⟩ := cells6 HB.out.box
  obtain ⟨z0, z1, z2, z3, z4, z5⟩ := cells6 HB.out.res
  obtain ⟨f0, f1, f2, f3, f4, f5⟩ := free6 HB.out.res
  obtain ⟨k0, k1, k2, k3, k4, k5⟩ := free6 HB.out.box
  go_wp2_with fail
  have HRS := Lib.hid (heap_put6 HB.out.res (.string y.nm) (.int .i64 (y.hand)) (.int .i64 (y.held)) (.int .i64 (y.kept)) (.int .i64 (y.sent)) (.int .i64 (y.inn)))
  have HW := Lib.hid (below_put6 HB.out.bel (Nat.le_succ _) (.string y.nm) (.int .i64 (y.hand)) (.int .i64 (y.held)) (.int .i64 (y.kept)) (.int .i64 (y.sent)) (.int .i64 (y.inn)))
  exact bodyPost_ret (results_sku rfl _ _ (w.heap.size + 1) _ _ _ _ _ _ rfl HRS.out) rfl ⟨rfl, HW.out⟩
theorem sadjust_bad (s : ByteArray) (a b c d e : Int) (n : Int) (w : World)  (hs : s.size ≤ 4398046511104) (hf : fitS ⟨s, a, b, c, d, e⟩ = false) :
    Calls Try.prog 47 #[.agg #[.string s, .int .i64 a, .int .i64 b, .int .i64 c, .int .i64 d, .int .i64 e], .int .i64 n] w fun z w' => z = .returned (.tuple #[.agg #[.string ⟨#[]⟩, .int .i64 0, .int .i64 0, .int .i64 0, .int .i64 0, .int .i64 0], .int .i64 12]) ∧ Below w.heap.size w w' := by
  have HF := Lib.hid (fun w => sfit_is s a b c d e false w hs hf)
  clear hf
  have HB := Lib.hid (in2_new w (.string s) (.int .i64 a) (.int .i64 b) (.int .i64 c) (.int .i64 d) (.int .i64 e) (.string ⟨#[]⟩) (.int .i64 0) (.int .i64 0) (.int .i64 0) (.int .i64 0) (.int .i64 0))
  go_enter Try.func47, Try.ntmps47
  go_wp2_with fail
  refine (HF.out _).mono ?_
  rintro z w1 ⟨rfl, hb⟩
  have HB1 := Lib.hid (HB.out.keep hb)
  clear hb HB
  have HB := HB1; clear HB1
  obtain ⟨q0, q1, q2, q3, q4, q5⟩ := cells6 HB.out.box
  obtain ⟨z0, z1, z2, z3, z4, z5⟩ := cells6 HB.out.res
  obtain ⟨f0, f1, f2, f3, f4, f5⟩ := free6 HB.out.res
  obtain ⟨k0, k1, k2, k3, k4, k5⟩ := free6 HB.out.box
  go_wp2_with fail
  have HRS := Lib.hid (heap_put6 HB.out.res (.string ⟨#[]⟩) (.int .i64 0) (.int .i64 0) (.int .i64 0) (.int .i64 0) (.int .i64 0))
  have HW := Lib.hid (below_put6 HB.out.bel (Nat.le_succ _) (.string ⟨#[]⟩) (.int .i64 0) (.int .i64 0) (.int .i64 0) (.int .i64 0) (.int .i64 0))
  exact bodyPost_ret (results_sku rfl _ _ (w.heap.size + 1) _ _ _ _ _ _ rfl HRS.out) rfl ⟨rfl, HW.out⟩
theorem sadjust_range (s : ByteArray) (a b c d e : Int) (n : Int) (w : World)  (hs : s.size ≤ 4398046511104) (hf : fitS ⟨s, a, b, c, d, e⟩ = true) (hn : n = 0) :
    Calls Try.prog 47 #[.agg #[.string s, .int .i64 a, .int .i64 b, .int .i64 c, .int .i64 d, .int .i64 e], .int .i64 n] w fun z w' => z = .returned (.tuple #[.agg #[.string ⟨#[]⟩, .int .i64 0, .int .i64 0, .int .i64 0, .int .i64 0, .int .i64 0], .int .i64 11]) ∧ Below w.heap.size w w' := by
  have HF := Lib.hid (fun w => sfit_is s a b c d e true w hs hf)
  clear hf
  subst hn
  have HB := Lib.hid (in2_new w (.string s) (.int .i64 a) (.int .i64 b) (.int .i64 c) (.int .i64 d) (.int .i64 e) (.string ⟨#[]⟩) (.int .i64 0) (.int .i64 0) (.int .i64 0) (.int .i64 0) (.int .i64 0))
  go_enter Try.func47, Try.ntmps47
  go_wp2_with fail
  refine (HF.out _).mono ?_
  rintro z w1 ⟨rfl, hb⟩
  have HB1 := Lib.hid (HB.out.keep hb)
  clear hb HB
  have HB := HB1; clear HB1
  obtain ⟨q0, q1, q2, q3, q4, q5⟩ := cells6 HB.out.box
  obtain ⟨z0, z1, z2, z3, z4, z5⟩ := cells6 HB.out.res
  obtain ⟨f0, f1, f2, f3, f4, f5⟩ := free6 HB.out.res
  obtain ⟨k0, k1, k2, k3, k4, k5⟩ := free6 HB.out.box
  go_wp2_with fail
  have HRS := Lib.hid (heap_put6 HB.out.res (.string ⟨#[]⟩) (.int .i64 0) (.int .i64 0) (.int .i64 0) (.int .i64 0) (.int .i64 0))
  have HW := Lib.hid (below_put6 HB.out.bel (Nat.le_succ _) (.string ⟨#[]⟩) (.int .i64 0) (.int .i64 0) (.int .i64 0) (.int .i64 0) (.int .i64 0))
  exact bodyPost_ret (results_sku rfl _ _ (w.heap.size + 1) _ _ _ _ _ _ rfl HRS.out) rfl ⟨rfl, HW.out⟩
theorem sadjust_add (s : ByteArray) (a b c d e : Int) (n : Int) (w : World)  (hs : s.size ≤ 4398046511104) (hf : fitS ⟨s, a, b, c, d, e⟩ = true) (hn : ¬ n = 0) (y : Sk) (er : Int) (ha : addV ⟨s, a, b, c, d, e⟩ n = (y, er)) :
    Calls Try.prog 47 #[.agg #[.string s, .int .i64 a, .int .i64 b, .int .i64 c, .int .i64 d, .int .i64 e], .int .i64 n] w fun z w' => z = .returned (.tuple #[.agg #[.string y.nm, .int .i64 (y.hand), .int .i64 (y.held), .int .i64 (y.kept), .int .i64 (y.sent), .int .i64 (y.inn)], .int .i64 er]) ∧ Below w.heap.size w w' := by
  have HA := Lib.hid (fun w => add_is ⟨s, a, b, c, d, e⟩ y n er w (fitS_iff.1 hf) ha)
  unfold skV at HA
  dsimp only at HA
  have hn2 : (n == 0) = false := beq_eq_false_iff_ne.2 hn
  clear hn
  have HF := Lib.hid (fun w => sfit_is s a b c d e true w hs hf)
  clear hf
  clear ha
  have HB := Lib.hid (in2_new w (.string s) (.int .i64 a) (.int .i64 b) (.int .i64 c) (.int .i64 d) (.int .i64 e) (.string ⟨#[]⟩) (.int .i64 0) (.int .i64 0) (.int .i64 0) (.int .i64 0) (.int .i64 0))
  go_enter Try.func47, Try.ntmps47
  go_wp2_with fail
  refine (HF.out _).mono ?_
  rintro z w1 ⟨rfl, hb⟩
  have HB1 := Lib.hid (HB.out.keep hb)
  clear hb HB
  have HB := HB1; clear HB1
  obtain ⟨q0, q1, q2, q3, q4, q5⟩ := cells6 HB.out.box
  obtain ⟨z0, z1, z2, z3, z4, z5⟩ := cells6 HB.out.res
  obtain ⟨f0, f1, f2, f3, f4, f5⟩ := free6 HB.out.res
  obtain ⟨k0, k1, k2, k3, k4, k5⟩ := free6 HB.out.box
  go_wp2_with fail
  refine (HA.out _).mono ?_
  rintro z w3 ⟨rfl, hb⟩
  clear q0 q1 q2 q3 q4 q5 z0 z1 z2 z3 z4 z5 f0 f1 f2 f3 f4 f5 k0 k1 k2 k3 k4 k5
  have HB3 := Lib.hid (HB.out.keep hb)
  clear hb HB
  have HB := HB3; clear HB3
  obtain ⟨q0, q1, q2, q3, q4, q5⟩ := cells6 HB.out.box
  obtain ⟨z0, z1, z2, z3, z4, z5⟩ := cells6 HB.out.res
  obtain ⟨f0, f1, f2, f3, f4, f5⟩ := free6 HB.out.res
  obtain ⟨k0, k1, k2, k3, k4, k5⟩ := free6 HB.out.box
  go_wp2_with fail
  have HRS := Lib.hid (heap_put6 HB.out.res (.string y.nm) (.int .i64 (y.hand)) (.int .i64 (y.held)) (.int .i64 (y.kept)) (.int .i64 (y.sent)) (.int .i64 (y.inn)))
  have HW := Lib.hid (below_put6 HB.out.bel (Nat.le_succ _) (.string y.nm) (.int .i64 (y.hand)) (.int .i64 (y.held)) (.int .i64 (y.kept)) (.int .i64 (y.sent)) (.int .i64 (y.inn)))
  exact bodyPost_ret (results_sku rfl _ _ (w.heap.size + 1) _ _ _ _ _ _ rfl HRS.out) rfl ⟨rfl, HW.out⟩
theorem srestock_any (x : Sk) (n : Int) (w : World) (hs : x.nm.size ≤ 4398046511104) :
    Calls Try.prog 46 #[skV x, .int .i64 n] w fun z w' => z = .returned (.tuple #[skV (restockV x n).1, .int .i64 (restockV x n).2]) ∧ Below w.heap.size w w' := by
  obtain ⟨s, a, b, c, d, e⟩ := x
  cases hf : fitS ⟨s, a, b, c, d, e⟩ with
  | false =>
    rw [show restockV ⟨s, a, b, c, d, e⟩ n = (sk0, 12) from by unfold restockV; rw [if_neg (by simp [hf])]]
    exact srestock_bad s a b c d e n w hs hf
  | true =>
    by_cases hn : n < 1
    · rw [show restockV ⟨s, a, b, c, d, e⟩ n = (sk0, 11) from by unfold restockV; rw [if_pos hf, if_neg (by omega)]]
      exact srestock_range s a b c d e n w hs hf hn
    · have g := fitS_iff.1 hf
      rw [show restockV ⟨s, a, b, c, d, e⟩ n = addV ⟨s, a, b, c, d, e⟩ n from by
        have g1 := g.hand
        dsimp only at g1
        unfold restockV addV
        rw [if_pos hf]
        dsimp only
        by_cases h : n ≤ 1099511627776
        · rw [if_pos (show 1 ≤ n ∧ n ≤ 1099511627776 from ⟨by omega, h⟩), if_pos (show -1099511627776 ≤ n ∧ n ≤ 1099511627776 from ⟨by omega, h⟩), if_neg (show ¬ a + n < 0 by omega)]
          by_cases h2 : 1099511627776 < e + n
          · rw [if_pos h2, if_pos (show 1099511627776 - e < n by omega)]
          · rw [if_neg h2, if_neg (show ¬ 1099511627776 - e < n by omega)]
        · rw [if_neg (show ¬ (1 ≤ n ∧ n ≤ 1099511627776) by omega), if_neg (show ¬ (-1099511627776 ≤ n ∧ n ≤ 1099511627776) by omega)]]
      exact srestock_add s a b c d e n w hs hf hn _ _ rfl
theorem sadjust_any (x : Sk) (n : Int) (w : World) (hs : x.nm.size ≤ 4398046511104) :
    Calls Try.prog 47 #[skV x, .int .i64 n] w fun z w' => z = .returned (.tuple #[skV (adjustV x n).1, .int .i64 (adjustV x n).2]) ∧ Below w.heap.size w w' := by
  obtain ⟨s, a, b, c, d, e⟩ := x
  cases hf : fitS ⟨s, a, b, c, d, e⟩ with
  | false =>
    rw [show adjustV ⟨s, a, b, c, d, e⟩ n = (sk0, 12) from by unfold adjustV; rw [if_neg (by simp [hf])]]
    exact sadjust_bad s a b c d e n w hs hf
  | true =>
    by_cases hn : n = 0
    · rw [show adjustV ⟨s, a, b, c, d, e⟩ n = (sk0, 11) from by unfold adjustV; rw [if_pos hf, if_neg (by omega)]]
      exact sadjust_range s a b c d e n w hs hf hn
    · rw [show adjustV ⟨s, a, b, c, d, e⟩ n = addV ⟨s, a, b, c, d, e⟩ n from by
        unfold adjustV addV
        rw [if_pos hf]
        by_cases h : -1099511627776 ≤ n ∧ n ≤ 1099511627776
        · rw [if_pos ⟨hn, h⟩, if_pos h]
        · rw [if_neg (fun k => h k.2), if_neg h]]
      exact sadjust_add s a b c d e n w hs hf hn _ _ rfl
end Go.Proofs.Ytjclkiabgemfpaa

/-
  The contracts of stock's closures, of its move and of Hold, Release, Keep, Unkeep, Send.
-/
set_option linter.unusedVariables false
set_option maxRecDepth 4000
set_option maxRecDepth 4000
namespace Go.Proofs.Ytjclkiabgemfpaa
open Go.RowKit StockP
theorem pick1 (b : Nat) (w : World) :
    Calls Try.prog 54 #[.pointer (some ⟨b, 0, none⟩)] w fun z w' => z = .returned (.tuple #[.pointer (some ⟨b, 1, none⟩), .pointer (some ⟨b, 2, none⟩)]) ∧ Below w.heap.size w w' := by
  go_enter Try.func54, Try.ntmps54
  go_wp2
  go_quiet (fail)
  go_wp2
  go_ret2
  exact ⟨rfl, below_drewN (Below.refl _ _) _⟩
theorem pick2 (b : Nat) (w : World) :
    Calls Try.prog 57 #[.pointer (some ⟨b, 0, none⟩)] w fun z w' => z = .returned (.tuple #[.pointer (some ⟨b, 2, none⟩), .pointer (some ⟨b, 1, none⟩)]) ∧ Below w.heap.size w w' := by
  go_enter Try.func57, Try.ntmps57
  go_wp2
  go_quiet (fail)
  go_wp2
  go_ret2
  exact ⟨rfl, below_drewN (Below.refl _ _) _⟩
theorem pick3 (b : Nat) (w : World) :
    Calls Try.prog 58 #[.pointer (some ⟨b, 0, none⟩)] w fun z w' => z = .returned (.tuple #[.pointer (some ⟨b, 2, none⟩), .pointer (some ⟨b, 3, none⟩)]) ∧ Below w.heap.size w w' := by
  go_enter Try.func58, Try.ntmps58
  go_wp2
  go_quiet (fail)
  go_wp2
  go_ret2
  exact ⟨rfl, below_drewN (Below.refl _ _) _⟩
theorem pick4 (b : Nat) (w : World) :
    Calls Try.prog 59 #[.pointer (some ⟨b, 0, none⟩)] w fun z w' => z = .returned (.tuple #[.pointer (some ⟨b, 3, none⟩), .pointer (some ⟨b, 2, none⟩)]) ∧ Below w.heap.size w w' := by
  go_enter Try.func59, Try.ntmps59
  go_wp2
  go_quiet (fail)
  go_wp2
  go_ret2
  exact ⟨rfl, below_drewN (Below.refl _ _) _⟩
theorem pick5 (b : Nat) (w : World) :
    Calls Try.prog 62 #[.pointer (some ⟨b, 0, none⟩)] w fun z w' => z = .returned (.tuple #[.pointer (some ⟨b, 3, none⟩), .pointer (some ⟨b, 4, none⟩)]) ∧ Below w.heap.size w w' := by
  go_enter Try.func62, Try.ntmps62
  go_wp2
  go_quiet (fail)
  go_wp2
  go_ret2
  exact ⟨rfl, below_drewN (Below.refl _ _) _⟩
theorem move_bad (s : ByteArray) (a b c d e : Int) (n : Int) (f : Value) (w : World) (hs : s.size ≤ 4398046511104) (hf : fitS ⟨s, a, b, c, d, e⟩ = false) :
    Calls Try.prog 53 #[.agg #[.string s, .int .i64 a, .int .i64 b, .int .i64 c, .int .i64 d, .int .i64 e], .int .i64 n, f] w fun z w' => z = .returned (.tuple #[.agg #[.string ⟨#[]⟩, .int .i64 0, .int .i64 0, .int .i64 0, .int .i64 0, .int .i64 0], .int .i64 12]) ∧ Below w.heap.size w w' := by
  have HF := Lib.hid (fun w => sfit_is s a b c d e false w hs hf)
  clear hf
  have HB := Lib.hid (in2_new w (.string s) (.int .i64 a) (.int .i64 b) (.int .i64 c) (.int .i64 d) (.int .i64 e) (.string ⟨#[]⟩) (.int .i64 0) (.int .i64 0) (.int .i64 0) (.int .i64 0) (.int .i64 0))
  go_enter Try.func53, Try.ntmps53
  go_wp2_with fail
  refine (HF.out _).mono ?_
  rintro z w1 ⟨rfl, hb⟩
  have HB1 := Lib.hid (HB.out.keep hb)
  clear hb HB
  have HB := HB1; clear HB1
  obtain ⟨q0, q1, q2, q3, q4, q5⟩ := cells6 HB.out.box
  obtain ⟨z0, z1, z2, z3, z4, z5⟩ := cells6 HB.out.res
  obtain ⟨f0, f1, f2, f3, f4, f5⟩ := free6 HB.out.res
  obtain ⟨k0, k1, k2, k3, k4, k5⟩ := free6 HB.out.box
  go_wp2_with fail
  have HRS := Lib.hid (heap_put6 HB.out.res (.string ⟨#[]⟩) (.int .i64 0) (.int .i64 0) (.int .i64 0) (.int .i64 0) (.int .i64 0))
  have HW := Lib.hid (below_put6 HB.out.bel (Nat.le_succ _) (.string ⟨#[]⟩) (.int .i64 0) (.int .i64 0) (.int .i64 0) (.int .i64 0) (.int .i64 0))
  exact bodyPost_ret (results_sku rfl _ _ (w.heap.size + 1) _ _ _ _ _ _ rfl HRS.out) rfl ⟨rfl, HW.out⟩
theorem move_less (s : ByteArray) (a b c d e : Int) (n : Int) (f : Value) (w : World) (hs : s.size ≤ 4398046511104) (hf : fitS ⟨s, a, b, c, d, e⟩ = true) (hn : n < 1) :
    Calls Try.prog 53 #[.agg #[.string s, .int .i64 a, .int .i64 b, .int .i64 c, .int .i64 d, .int .i64 e], .int .i64 n, f] w fun z w' => z = .returned (.tuple #[.agg #[.string ⟨#[]⟩, .int .i64 0, .int .i64 0, .int .i64 0, .int .i64 0, .int .i64 0], .int .i64 11]) ∧ Below w.heap.size w w' := by
  have HF := Lib.hid (fun w => sfit_is s a b c d e true w hs hf)
  clear hf
  have HB := Lib.hid (in2_new w (.string s) (.int .i64 a) (.int .i64 b) (.int .i64 c) (.int .i64 d) (.int .i64 e) (.string ⟨#[]⟩) (.int .i64 0) (.int .i64 0) (.int .i64 0) (.int .i64 0) (.int .i64 0))
  go_enter Try.func53, Try.ntmps53
  go_wp2_with fail
  refine (HF.out _).mono ?_
  rintro z w1 ⟨rfl, hb⟩
  have HB1 := Lib.hid (HB.out.keep hb)
  clear hb HB
  have HB := HB1; clear HB1
  obtain ⟨q0, q1, q2, q3, q4, q5⟩ := cells6 HB.out.box
  obtain ⟨z0, z1, z2, z3, z4, z5⟩ := cells6 HB.out.res
  obtain ⟨f0, f1, f2, f3, f4, f5⟩ := free6 HB.out.res
  obtain ⟨k0, k1, k2, k3, k4, k5⟩ := free6 HB.out.box
  go_wp2_with fail
  have HRS := Lib.hid (heap_put6 HB.out.res (.string ⟨#[]⟩) (.int .i64 0) (.int .i64 0) (.int .i64 0) (.int .i64 0) (.int .i64 0))
  have HW := Lib.hid (below_put6 HB.out.bel (Nat.le_succ _) (.string ⟨#[]⟩) (.int .i64 0) (.int .i64 0) (.int .i64 0) (.int .i64 0) (.int .i64 0))
  exact bodyPost_ret (results_sku rfl _ _ (w.heap.size + 1) _ _ _ _ _ _ rfl HRS.out) rfl ⟨rfl, HW.out⟩
theorem move_more (s : ByteArray) (a b c d e : Int) (n : Int) (f : Value) (w : World) (hs : s.size ≤ 4398046511104) (hf : fitS ⟨s, a, b, c, d, e⟩ = true) (hn : ¬ n < 1) (hm : 1048576 < n) :
    Calls Try.prog 53 #[.agg #[.string s, .int .i64 a, .int .i64 b, .int .i64 c, .int .i64 d, .int .i64 e], .int .i64 n, f] w fun z w' => z = .returned (.tuple #[.agg #[.string ⟨#[]⟩, .int .i64 0, .int .i64 0, .int .i64 0, .int .i64 0, .int .i64 0], .int .i64 11]) ∧ Below w.heap.size w w' := by
  have HF := Lib.hid (fun w => sfit_is s a b c d e true w hs hf)
  clear hf
  have HB := Lib.hid (in2_new w (.string s) (.int .i64 a) (.int .i64 b) (.int .i64 c) (.int .i64 d) (.int .i64 e) (.string ⟨#[]⟩) (.int .i64 0) (.int .i64 0) (.int .i64 0) (.int .i64 0) (.int .i64 0))
  go_enter Try.func53, Try.ntmps53
  go_wp2_with fail
  refine (HF.out _).mono ?_
  rintro z w1 ⟨rfl, hb⟩
  have HB1 := Lib.hid (HB.out.keep hb)
  clear hb HB
  have HB := HB1; clear HB1
  obtain ⟨q0, q1, q2, q3, q4, q5⟩ := cells6 HB.out.box
  obtain ⟨z0, z1, z2, z3, z4, z5⟩ := cells6 HB.out.res
  obtain ⟨f0, f1, f2, f3, f4, f5⟩ := free6 HB.out.res
  obtain ⟨k0, k1, k2, k3, k4, k5⟩ := free6 HB.out.box
  go_wp2_with fail
  have HRS := Lib.hid (heap_put6 HB.out.res (.string ⟨#[]⟩) (.int .i64 0) (.int .i64 0) (.int .i64 0) (.int .i64 0) (.int .i64 0))
  have HW := Lib.hid (below_put6 HB.out.bel (Nat.le_succ _) (.string ⟨#[]⟩) (.int .i64 0) (.int .i64 0) (.int .i64 0) (.int .i64 0) (.int .i64 0))
  exact bodyPost_ret (results_sku rfl _ _ (w.heap.size + 1) _ _ _ _ _ _ rfl HRS.out) rfl ⟨rfl, HW.out⟩
theorem move1_short (s : ByteArray) (a b c d e : Int) (n : Int) (w : World) (hs : s.size ≤ 4398046511104) (hf : fitS ⟨s, a, b, c, d, e⟩ = true) (hn : ¬ n < 1) (hm : n ≤ 1048576) (g1 : 0 ≤ a) (h1 : a ≤ 1099511627776) (ho : a < n) :
    Calls Try.prog 53 #[.agg #[.string s, .int .i64 a, .int .i64 b, .int .i64 c, .int .i64 d, .int .i64 e], .int .i64 n, .func (.func 54) #[] #[]] w fun z w' => z = .returned (.tuple #[.agg #[.string ⟨#[]⟩, .int .i64 0, .int .i64 0, .int .i64 0, .int .i64 0, .int .i64 0], .int .i64 6]) ∧ Below w.heap.size w w' := by
  have HP := Lib.hid (pick1 w.heap.size)
  have HF := Lib.hid (fun w => sfit_is s a b c d e true w hs hf)
  clear hf
  have HB := Lib.hid (in2_new w (.string s) (.int .i64 a) (.int .i64 b) (.int .i64 c) (.int .i64 d) (.int .i64 e) (.string ⟨#[]⟩) (.int .i64 0) (.int .i64 0) (.int .i64 0) (.int .i64 0) (.int .i64 0))
  go_enter Try.func53, Try.ntmps53
  go_wp2_with fail
  refine (HF.out _).mono ?_
  rintro z w1 ⟨rfl, hb⟩
  have HB1 := Lib.hid (HB.out.keep hb)
  clear hb HB
  have HB := HB1; clear HB1
  obtain ⟨q0, q1, q2, q3, q4, q5⟩ := cells6 HB.out.box
  obtain ⟨z0, z1, z2, z3, z4, z5⟩ := cells6 HB.out.res
  obtain ⟨f0, f1, f2, f3, f4, f5⟩ := free6 HB.out.res
  obtain ⟨k0, k1, k2, k3, k4, k5⟩ := free6 HB.out.box
  go_wp2_with fail
  refine (HP.out _).mono ?_
  rintro z w2 ⟨rfl, hb⟩
  clear q0 q1 q2 q3 q4 q5 z0 z1 z2 z3 z4 z5 f0 f1 f2 f3 f4 f5 k0 k1 k2 k3 k4 k5
  have HB2 := Lib.hid (HB.out.keep hb)
  clear hb HB
  have HB := HB2; clear HB2
  obtain ⟨q0, q1, q2, q3, q4, q5⟩ := cells6 HB.out.box
  obtain ⟨z0, z1, z2, z3, z4, z5⟩ := cells6 HB.out.res
  obtain ⟨f0, f1, f2, f3, f4, f5⟩ := free6 HB.out.res
  obtain ⟨k0, k1, k2, k3, k4, k5⟩ := free6 HB.out.box
  go_wp2_with fail
  have HRS := Lib.hid (heap_put6 HB.out.res (.string ⟨#[]⟩) (.int .i64 0) (.int .i64 0) (.int .i64 0) (.int .i64 0) (.int .i64 0))
  have HW := Lib.hid (below_put6 HB.out.bel (Nat.le_succ _) (.string ⟨#[]⟩) (.int .i64 0) (.int .i64 0) (.int .i64 0) (.int .i64 0) (.int .i64 0))
  exact bodyPost_ret (results_sku rfl _ _ (w.heap.size + 1) _ _ _ _ _ _ rfl HRS.out) rfl ⟨rfl, HW.out⟩
theorem move1_yes (s : ByteArray) (a b c d e : Int) (n : Int) (w : World) (hs : s.size ≤ 4398046511104) (hf : fitS ⟨s, a, b, c, d, e⟩ = true) (hn : ¬ n < 1) (hm : n ≤ 1048576) (g1 : 0 ≤ a) (h1 : a ≤ 1099511627776) (g2 : 0 ≤ b) (h2 : b ≤ 1099511627776) (ho : ¬ a < n) :
    Calls Try.prog 53 #[.agg #[.string s, .int .i64 a, .int .i64 b, .int .i64 c, .int .i64 d, .int .i64 e], .int .i64 n, .func (.func 54) #[] #[]] w fun z w' => z = .returned (.tuple #[.agg #[.string s, .int .i64 (a - n), .int .i64 (b + n), .int .i64 (c), .int .i64 (d), .int .i64 (e)], .int .i64 0]) ∧ Below w.heap.size w w' := by
  have HP := Lib.hid (pick1 w.heap.size)
  have HF := Lib.hid (fun w => sfit_is s a b c d e true w hs hf)
  clear hf
  have HB := Lib.hid (in2_new w (.string s) (.int .i64 a) (.int .i64 b) (.int .i64 c) (.int .i64 d) (.int .i64 e) (.string ⟨#[]⟩) (.int .i64 0) (.int .i64 0) (.int .i64 0) (.int .i64 0) (.int .i64 0))
  go_enter Try.func53, Try.ntmps53
  go_wp2_with fail
  refine (HF.out _).mono ?_
  rintro z w1 ⟨rfl, hb⟩
  have HB1 := Lib.hid (HB.out.keep hb)
  clear hb HB
  have HB := HB1; clear HB1
  obtain ⟨q0, q1, q2, q3, q4, q5⟩ := cells6 HB.out.box
  obtain ⟨z0, z1, z2, z3, z4, z5⟩ := cells6 HB.out.res
  obtain ⟨f0, f1, f2, f3, f4, f5⟩ := free6 HB.out.res
  obtain ⟨k0, k1, k2, k3, k4, k5⟩ := free6 HB.out.box
  go_wp2_with fail
  refine (HP.out _).mono ?_
  rintro z w2 ⟨rfl, hb⟩
  clear q0 q1 q2 q3 q4 q5 z0 z1 z2 z3 z4 z5 f0 f1 f2 f3 f4 f5 k0 k1 k2 k3 k4 k5
  have HB2 := Lib.hid (HB.out.keep hb)
  clear hb HB
  have HB := HB2; clear HB2
  obtain ⟨q0, q1, q2, q3, q4, q5⟩ := cells6 HB.out.box
  obtain ⟨z0, z1, z2, z3, z4, z5⟩ := cells6 HB.out.res
  obtain ⟨f0, f1, f2, f3, f4, f5⟩ := free6 HB.out.res
  obtain ⟨k0, k1, k2, k3, k4, k5⟩ := free6 HB.out.box
  go_wp2_with fail
  have HRS := Lib.hid (heap_put6 (HB.out.set 1 2 (.int .i64 (a - n)) (.int .i64 (b + n))) (.string s) (.int .i64 (a - n)) (.int .i64 (b + n)) (.int .i64 (c)) (.int .i64 (d)) (.int .i64 (e)))
  have HW := Lib.hid (below_put6 (HB.out.setB 1 2 (.int .i64 (a - n)) (.int .i64 (b + n))) (Nat.le_succ _) (.string s) (.int .i64 (a - n)) (.int .i64 (b + n)) (.int .i64 (c)) (.int .i64 (d)) (.int .i64 (e)))
  exact bodyPost_ret (results_sku rfl _ _ (w.heap.size + 1) _ _ _ _ _ _ rfl HRS.out) rfl ⟨rfl, HW.out⟩
theorem move1_any (x : Sk) (n : Int) (w : World) (hs : x.nm.size ≤ 4398046511104) :
    Calls Try.prog 53 #[skV x, .int .i64 n, .func (.func 54) #[] #[]] w fun z w' => z = .returned (.tuple #[skV (moveV x 1 n).1, .int .i64 (moveV x 1 n).2]) ∧ Below w.heap.size w w' := by
  obtain ⟨s, a, b, c, d, e⟩ := x
  unfold moveV
  cases hf : fitS ⟨s, a, b, c, d, e⟩ with
  | false =>
    rw [if_neg (by decide)]
    exact move_bad s a b c d e n _ w hs hf
  | true =>
    have g := fitS_iff.1 hf
    have u := g.up; have g1 := g.hand; have g2 := g.held; have g3 := g.kept; have g4 := g.sent; have g5 := g.most
    dsimp only at u g1 g2 g3 g4 g5
    rw [if_pos rfl]
    by_cases hn : n < 1
    · rw [if_neg (by omega)]
      exact move_less s a b c d e n _ w hs hf hn
    · by_cases hm : n ≤ 1048576
      · rw [if_pos ⟨by omega, hm⟩]
        rw [show fromV ⟨s, a, b, c, d, e⟩ 1 = a from rfl]
        by_cases ho : a < n
        · rw [if_pos ho]
          exact move1_short s a b c d e n w hs hf hn hm g1 u.1 ho
        · rw [if_neg ho]
          exact move1_yes s a b c d e n w hs hf hn hm g1 u.1 g2 u.2.1 ho
      · rw [if_neg (by omega)]
        exact move_more s a b c d e n _ w hs hf hn (by omega)
theorem shold_any (x : Sk) (n : Int) (w : World) (hs : x.nm.size ≤ 4398046511104) :
    Calls Try.prog 28 #[skV x, .int .i64 n] w fun z w' => z = .returned (.tuple #[skV (moveV x 1 n).1, .int .i64 (moveV x 1 n).2]) ∧ Below w.heap.size w w' := by
  have HM := Lib.hid (fun w => move1_any x n w hs)
  generalize moveV x 1 n = m at *
  obtain ⟨y, er⟩ := m
  obtain ⟨s, a, b, c, d, e⟩ := x
  unfold skV at *
  dsimp only at *
  clear hs
  have HB := Lib.hid (in2_new w (.string s) (.int .i64 a) (.int .i64 b) (.int .i64 c) (.int .i64 d) (.int .i64 e) (.string ⟨#[]⟩) (.int .i64 0) (.int .i64 0) (.int .i64 0) (.int .i64 0) (.int .i64 0))
  go_enter Try.func28, Try.ntmps28
  go_wp2_with fail
  refine (HM.out _).mono ?_
  rintro z w1 ⟨rfl, hb⟩
  have HB1 := Lib.hid (HB.out.keep hb)
  clear hb HB
  have HB := HB1; clear HB1
  obtain ⟨q0, q1, q2, q3, q4, q5⟩ := cells6 HB.out.box
  obtain ⟨z0, z1, z2, z3, z4, z5⟩ := cells6 HB.out.res
  obtain ⟨f0, f1, f2, f3, f4, f5⟩ := free6 HB.out.res
  obtain ⟨k0, k1, k2, k3, k4, k5⟩ := free6 HB.out.box
  go_wp2_with fail
  have HRS := Lib.hid (heap_put6 HB.out.res (.string y.nm) (.int .i64 (y.hand)) (.int .i64 (y.held)) (.int .i64 (y.kept)) (.int .i64 (y.sent)) (.int .i64 (y.inn)))
  have HW := Lib.hid (below_put6 HB.out.bel (Nat.le_succ _) (.string y.nm) (.int .i64 (y.hand)) (.int .i64 (y.held)) (.int .i64 (y.kept)) (.int .i64 (y.sent)) (.int .i64 (y.inn)))
  exact bodyPost_ret (results_sku rfl _ _ (w.heap.size + 1) _ _ _ _ _ _ rfl HRS.out) rfl ⟨rfl, HW.out⟩
theorem move2_short (s : ByteArray) (a b c d e : Int) (n : Int) (w : World) (hs : s.size ≤ 4398046511104) (hf : fitS ⟨s, a, b, c, d, e⟩ = true) (hn : ¬ n < 1) (hm : n ≤ 1048576) (g2 : 0 ≤ b) (h2 : b ≤ 1099511627776) (ho : b < n) :
    Calls Try.prog 53 #[.agg #[.string s, .int .i64 a, .int .i64 b, .int .i64 c, .int .i64 d, .int .i64 e], .int .i64 n, .func (.func 57) #[] #[]] w fun z w' => z = .returned (.tuple #[.agg #[.string ⟨#[]⟩, .int .i64 0, .int .i64 0, .int .i64 0, .int .i64 0, .int .i64 0], .int .i64 6]) ∧ Below w.heap.size w w' := by
  have HP := Lib.hid (pick2 w.heap.size)
  have HF := Lib.hid (fun w => sfit_is s a b c d e true w hs hf)
  clear hf
  have HB := Lib.hid (in2_new w (.string s) (.int .i64 a) (.int .i64 b) (.int .i64 c) (.int .i64 d) (.int .i64 e) (.string ⟨#[]⟩) (.int .i64 0) (.int .i64 0) (.int .i64 0) (.int .i64 0) (.int .i64 0))
  go_enter Try.func53, Try.ntmps53
  go_wp2_with fail
  refine (HF.out _).mono ?_
  rintro z w1 ⟨rfl, hb⟩
  have HB1 := Lib.hid (HB.out.keep hb)
  clear hb HB
  have HB := HB1; clear HB1
  obtain ⟨q0, q1, q2, q3, q4, q5⟩ := cells6 HB.out.box
  obtain ⟨z0, z1, z2, z3, z4, z5⟩ := cells6 HB.out.res
  obtain ⟨f0, f1, f2, f3, f4, f5⟩ := free6 HB.out.res
  obtain ⟨k0, k1, k2, k3, k4, k5⟩ := free6 HB.out.box
  go_wp2_with fail
  refine (HP.out _).mono ?_
  rintro z w2 ⟨rfl, hb⟩
  clear q0 q1 q2 q3 q4 q5 z0 z1 z2 z3 z4 z5 f0 f1 f2 f3 f4 f5 k0 k1 k2 k3 k4 k5
  have HB2 := Lib.hid (HB.out.keep hb)
  clear hb HB
  have HB := HB2; clear HB2
  obtain ⟨q0, q1, q2, q3, q4, q5⟩ := cells6 HB.out.box
  obtain ⟨z0, z1, z2, z3, z4, z5⟩ := cells6 HB.out.res
  obtain ⟨f0, f1, f2, f3, f4, f5⟩ := free6 HB.out.res
  obtain ⟨k0, k1, k2, k3, k4, k5⟩ := free6 HB.out.box
  go_wp2_with fail
  have HRS := Lib.hid (heap_put6 HB.out.res (.string ⟨#[]⟩) (.int .i64 0) (.int .i64 0) (.int .i64 0) (.int .i64 0) (.int .i64 0))
  have HW := Lib.hid (below_put6 HB.out.bel (Nat.le_succ _) (.string ⟨#[]⟩) (.int .i64 0) (.int .i64 0) (.int .i64 0) (.int .i64 0) (.int .i64 0))
  exact bodyPost_ret (results_sku rfl _ _ (w.heap.size + 1) _ _ _ _ _ _ rfl HRS.out) rfl ⟨rfl, HW.out⟩
theorem move2_yes (s : ByteArray) (a b c d e : Int) (n : Int) (w : World) (hs : s.size ≤ 4398046511104) (hf : fitS ⟨s, a, b, c, d, e⟩ = true) (hn : ¬ n < 1) (hm : n ≤ 1048576) (g2 : 0 ≤ b) (h2 : b ≤ 1099511627776) (g1 : 0 ≤ a) (h1 : a ≤ 1099511627776) (ho : ¬ b < n) :
    Calls Try.prog 53 #[.agg #[.string s, .int .i64 a, .int .i64 b, .int .i64 c, .int .i64 d, .int .i64 e], .int .i64 n, .func (.func 57) #[] #[]] w fun z w' => z = .returned (.tuple #[.agg #[.string s, .int .i64 (a + n), .int .i64 (b - n), .int .i64 (c), .int .i64 (d), .int .i64 (e)], .int .i64 0]) ∧ Below w.heap.size w w' := by
  have HP := Lib.hid (pick2 w.heap.size)
  have HF := Lib.hid (fun w => sfit_is s a b c d e true w hs hf)
  clear hf
  have HB := Lib.hid (in2_new w (.string s) (.int .i64 a) (.int .i64 b) (.int .i64 c) (.int .i64 d) (.int .i64 e) (.string ⟨#[]⟩) (.int .i64 0) (.int .i64 0) (.int .i64 0) (.int .i64 0) (.int .i64 0))
  go_enter Try.func53, Try.ntmps53
  go_wp2_with fail
  refine (HF.out _).mono ?_
  rintro z w1 ⟨rfl, hb⟩
  have HB1 := Lib.hid (HB.out.keep hb)
  clear hb HB
  have HB := HB1; clear HB1
  obtain ⟨q0, q1, q2, q3, q4, q5⟩ := cells6 HB.out.box
  obtain ⟨z0, z1, z2, z3, z4, z5⟩ := cells6 HB.out.res
  obtain ⟨f0, f1, f2, f3, f4, f5⟩ := free6 HB.out.res
  obtain ⟨k0, k1, k2, k3, k4, k5⟩ := free6 HB.out.box
  go_wp2_with fail
  refine (HP.out _).mono ?_
  rintro z w2 ⟨rfl, hb⟩
  clear q0 q1 q2 q3 q4 q5 z0 z1 z2 z3 z4 z5 f0 f1 f2 f3 f4 f5 k0 k1 k2 k3 k4 k5
  have HB2 := Lib.hid (HB.out.keep hb)
  clear hb HB
  have HB := HB2; clear HB2
  obtain ⟨q0, q1, q2, q3, q4, q5⟩ := cells6 HB.out.box
  obtain ⟨z0, z1, z2, z3, z4, z5⟩ := cells6 HB.out.res
  obtain ⟨f0, f1, f2, f3, f4, f5⟩ := free6 HB.out.res
  obtain ⟨k0, k1, k2, k3, k4, k5⟩ := free6 HB.out.box
  go_wp2_with fail
  have HRS := Lib.hid (heap_put6 (HB.out.set 2 1 (.int .i64 (b - n)) (.int .i64 (a + n))) (.string s) (.int .i64 (a + n)) (.int .i64 (b - n)) (.int .i64 (c)) (.int .i64 (d)) (.int .i64 (e)))
  have HW := Lib.hid (below_put6 (HB.out.setB 2 1 (.int .i64 (b - n)) (.int .i64 (a + n))) (Nat.le_succ _) (.string s) (.int .i64 (a + n)) (.int .i64 (b - n)) (.int .i64 (c)) (.int .i64 (d)) (.int .i64 (e)))
  exact bodyPost_ret (results_sku rfl _ _ (w.heap.size + 1) _ _ _ _ _ _ rfl HRS.out) rfl ⟨rfl, HW.out⟩
theorem move2_any (x : Sk) (n : Int) (w : World) (hs : x.nm.size ≤ 4398046511104) :
    Calls Try.prog 53 #[skV x, .int .i64 n, .func (.func 57) #[] #[]] w fun z w' => z = .returned (.tuple #[skV (moveV x 2 n).1, .int .i64 (moveV x 2 n).2]) ∧ Below w.heap.size w w' := by
  obtain ⟨s, a, b, c, d, e⟩ := x
  unfold moveV
  cases hf : fitS ⟨s, a, b, c, d, e⟩ with
  | false =>
    rw [if_neg (by decide)]
    exact move_bad s a b c d e n _ w hs hf
  | true =>
    have g := fitS_iff.1 hf
    have u := g.up; have g1 := g.hand; have g2 := g.held; have g3 := g.kept; have g4 := g.sent; have g5 := g.most
    dsimp only at u g1 g2 g3 g4 g5
    rw [if_pos rfl]
    by_cases hn : n < 1
    · rw [if_neg (by omega)]
      exact move_less s a b c d e n _ w hs hf hn
    · by_cases hm : n ≤ 1048576
      · rw [if_pos ⟨by omega, hm⟩]
        rw [show fromV ⟨s, a, b, c, d, e⟩ 2 = b from rfl]
        by_cases ho : b < n
        · rw [if_pos ho]
          exact move2_short s a b c d e n w hs hf hn hm g2 u.2.1 ho
        · rw [if_neg ho]
          exact move2_yes s a b c d e n w hs hf hn hm g2 u.2.1 g1 u.1 ho
      · rw [if_neg (by omega)]
        exact move_more s a b c d e n _ w hs hf hn (by omega)
theorem srelease_any (x : Sk) (n : Int) (w : World) (hs : x.nm.size ≤ 4398046511104) :
    Calls Try.prog 30 #[skV x, .int .i64 n] w fun z w' => z = .returned (.tuple #[skV (moveV x 2 n).1, .int .i64 (moveV x 2 n).2]) ∧ Below w.heap.size w w' := by
  have HM := Lib.hid (fun w => move2_any x n w hs)
  generalize moveV x 2 n = m at *
  obtain ⟨y, er⟩ := m
  obtain ⟨s, a, b, c, d, e⟩ := x
  unfold skV at *
  dsimp only at *
  clear hs
  have HB := Lib.hid (in2_new w (.string s) (.int .i64 a) (.int .i64 b) (.int .i64 c) (.int .i64 d) (.int .i64 e) (.string ⟨#[]⟩) (.int .i64 0) (.int .i64 0) (.int .i64 0) (.int .i64 0) (.int .i64 0))
  go_enter Try.func30, Try.ntmps30
  go_wp2_with fail
  refine (HM.out _).mono ?_
  rintro z w1 ⟨rfl, hb⟩
  have HB1 := Lib.hid (HB.out.keep hb)
  clear hb HB
  have HB := HB1; clear HB1
  obtain ⟨q0, q1, q2, q3, q4, q5⟩ := cells6 HB.out.box
  obtain ⟨z0, z1, z2, z3, z4, z5⟩ := cells6 HB.out.res
  obtain ⟨f0, f1, f2, f3, f4, f5⟩ := free6 HB.out.res
  obtain ⟨k0, k1, k2, k3, k4, k5⟩ := free6 HB.out.box
  go_wp2_with fail
  have HRS := Lib.hid (heap_put6 HB.out.res (.string y.nm) (.int .i64 (y.hand)) (.int .i64 (y.held)) (.int .i64 (y.kept)) (.int .i64 (y.sent)) (.int .i64 (y.inn)))
  have HW := Lib.hid (below_put6 HB.out.bel (Nat.le_succ _) (.string y.nm) (.int .i64 (y.hand)) (.int .i64 (y.held)) (.int .i64 (y.kept)) (.int .i64 (y.sent)) (.int .i64 (y.inn)))
  exact bodyPost_ret (results_sku rfl _ _ (w.heap.size + 1) _ _ _ _ _ _ rfl HRS.out) rfl ⟨rfl, HW.out⟩
theorem move3_short (s : ByteArray) (a b c d e : Int) (n : Int) (w : World) (hs : s.size ≤ 4398046511104) (hf : fitS ⟨s, a, b, c, d, e⟩ = true) (hn : ¬ n < 1) (hm : n ≤ 1048576) (g2 : 0 ≤ b) (h2 : b ≤ 1099511627776) (ho : b < n) :
    Calls Try.prog 53 #[.agg #[.string s, .int .i64 a, .int .i64 b, .int .i64 c, .int .i64 d, .int .i64 e], .int .i64 n, .func (.func 58) #[] #[]] w fun z w' => z = .returned (.tuple #[.agg #[.string ⟨#[]⟩, .int .i64 0, .int .i64 0, .int .i64 0, .int .i64 0, .int .i64 0], .int .i64 6]) ∧ Below w.heap.size w w' := by
  have HP := Lib.hid (pick3 w.heap.size)
  have HF := Lib.hid (fun w => sfit_is s a b c d e true w hs hf)
  clear hf
  have HB := Lib.hid (in2_new w (.string s) (.int .i64 a) (.int .i64 b) (.int .i64 c) (.int .i64 d) (.int .i64 e) (.string ⟨#[]⟩) (.int .i64 0) (.int .i64 0) (.int .i64 0) (.int .i64 0) (.int .i64 0))
  go_enter Try.func53, Try.ntmps53
  go_wp2_with fail
  refine (HF.out _).mono ?_
  rintro z w1 ⟨rfl, hb⟩
  have HB1 := Lib.hid (HB.out.keep hb)
  clear hb HB
  have HB := HB1; clear HB1
  obtain ⟨q0, q1, q2, q3, q4, q5⟩ := cells6 HB.out.box
  obtain ⟨z0, z1, z2, z3, z4, z5⟩ := cells6 HB.out.res
  obtain ⟨f0, f1, f2, f3, f4, f5⟩ := free6 HB.out.res
  obtain ⟨k0, k1, k2, k3, k4, k5⟩ := free6 HB.out.box
  go_wp2_with fail
  refine (HP.out _).mono ?_
  rintro z w2 ⟨rfl, hb⟩
  clear q0 q1 q2 q3 q4 q5 z0 z1 z2 z3 z4 z5 f0 f1 f2 f3 f4 f5 k0 k1 k2 k3 k4 k5
  have HB2 := Lib.hid (HB.out.keep hb)
  clear hb HB
  have HB := HB2; clear HB2
  obtain ⟨q0, q1, q2, q3, q4, q5⟩ := cells6 HB.out.box
  obtain ⟨z0, z1, z2, z3, z4, z5⟩ := cells6 HB.out.res
  obtain ⟨f0, f1, f2, f3, f4, f5⟩ := free6 HB.out.res
  obtain ⟨k0, k1, k2, k3, k4, k5⟩ := free6 HB.out.box
  go_wp2_with fail
  have HRS := Lib.hid (heap_put6 HB.out.res (.string ⟨#[]⟩) (.int .i64 0) (.int .i64 0) (.int .i64 0) (.int .i64 0) (.int .i64 0))
  have HW := Lib.hid (below_put6 HB.out.bel (Nat.le_succ _) (.string ⟨#[]⟩) (.int .i64 0) (.int .i64 0) (.int .i64 0) (.int .i64 0) (.int .i64 0))
  exact bodyPost_ret (results_sku rfl _ _ (w.heap.size + 1) _ _ _ _ _ _ rfl HRS.out) rfl ⟨rfl, HW.out⟩
theorem move3_yes (s : ByteArray) (a b c d e : Int) (n : Int) (w : World) (hs : s.size ≤ 4398046511104) (hf : fitS ⟨s, a, b, c, d, e⟩ = true) (hn : ¬ n < 1) (hm : n ≤ 1048576) (g2 : 0 ≤ b) (h2 : b ≤ 1099511627776) (g3 : 0 ≤ c) (h3 : c ≤ 1099511627776) (ho : ¬ b < n) :
    Calls Try.prog 53 #[.agg #[.string s, .int .i64 a, .int .i64 b, .int .i64 c, .int .i64 d, .int .i64 e], .int .i64 n, .func (.func 58) #[] #[]] w fun z w' => z = .returned (.tuple #[.agg #[.string s, .int .i64 (a), .int .i64 (b - n), .int .i64 (c + n), .int .i64 (d), .int .i64 (e)], .int .i64 0]) ∧ Below w.heap.size w w' := by
  have HP := Lib.hid (pick3 w.heap.size)
  have HF := Lib.hid (fun w => sfit_is s a b c d e true w hs hf)
  clear hf
  have HB := Lib.hid (in2_new w (.string s) (.int .i64 a) (.int .i64 b) (.int .i64 c) (.int .i64 d) (.int .i64 e) (.string ⟨#[]⟩) (.int .i64 0) (.int .i64 0) (.int .i64 0) (.int .i64 0) (.int .i64 0))
  go_enter Try.func53, Try.ntmps53
  go_wp2_with fail
  refine (HF.out _).mono ?_
  rintro z w1 ⟨rfl, hb⟩
  have HB1 := Lib.hid (HB.out.keep hb)
  clear hb HB
  have HB := HB1; clear HB1
  obtain ⟨q0, q1, q2, q3, q4, q5⟩ := cells6 HB.out.box
  obtain ⟨z0, z1, z2, z3, z4, z5⟩ := cells6 HB.out.res
  obtain ⟨f0, f1, f2, f3, f4, f5⟩ := free6 HB.out.res
  obtain ⟨k0, k1, k2, k3, k4, k5⟩ := free6 HB.out.box
  go_wp2_with fail
  refine (HP.out _).mono ?_
  rintro z w2 ⟨rfl, hb⟩
  clear q0 q1 q2 q3 q4 q5 z0 z1 z2 z3 z4 z5 f0 f1 f2 f3 f4 f5 k0 k1 k2 k3 k4 k5
  have HB2 := Lib.hid (HB.out.keep hb)
  clear hb HB
  have HB := HB2; clear HB2
  obtain ⟨q0, q1, q2, q3, q4, q5⟩ := cells6 HB.out.box
  obtain ⟨z0, z1, z2, z3, z4, z5⟩ := cells6 HB.out.res
  obtain ⟨f0, f1, f2, f3, f4, f5⟩ := free6 HB.out.res
  obtain ⟨k0, k1, k2, k3, k4, k5⟩ := free6 HB.out.box
  go_wp2_with fail
  have HRS := Lib.hid (heap_put6 (HB.out.set 2 3 (.int .i64 (b - n)) (.int .i64 (c + n))) (.string s) (.int .i64 (a)) (.int .i64 (b - n)) (.int .i64 (c + n)) (.int .i64 (d)) (.int .i64 (e)))
  have HW := Lib.hid (below_put6 (HB.out.setB 2 3 (.int .i64 (b - n)) (.int .i64 (c + n))) (Nat.le_succ _) (.string s) (.int .i64 (a)) (.int .i64 (b - n)) (.int .i64 (c + n)) (.int .i64 (d)) (.int .i64 (e)))
  exact bodyPost_ret (results_sku rfl _ _ (w.heap.size + 1) _ _ _ _ _ _ rfl HRS.out) rfl ⟨rfl, HW.out⟩
theorem move3_any (x : Sk) (n : Int) (w : World) (hs : x.nm.size ≤ 4398046511104) :
    Calls Try.prog 53 #[skV x, .int .i64 n, .func (.func 58) #[] #[]] w fun z w' => z = .returned (.tuple #[skV (moveV x 3 n).1, .int .i64 (moveV x 3 n).2]) ∧ Below w.heap.size w w' := by
  obtain ⟨s, a, b, c, d, e⟩ := x
  unfold moveV
  cases hf : fitS ⟨s, a, b, c, d, e⟩ with
  | false =>
    rw [if_neg (by decide)]
    exact move_bad s a b c d e n _ w hs hf
  | true =>
    have g := fitS_iff.1 hf
    have u := g.up; have g1 := g.hand; have g2 := g.held; have g3 := g.kept; have g4 := g.sent; have g5 := g.most
    dsimp only at u g1 g2 g3 g4 g5
    rw [if_pos rfl]
    by_cases hn : n < 1
    · rw [if_neg (by omega)]
      exact move_less s a b c d e n _ w hs hf hn
    · by_cases hm : n ≤ 1048576
      · rw [if_pos ⟨by omega, hm⟩]
        rw [show fromV ⟨s, a, b, c, d, e⟩ 3 = b from rfl]
        by_cases ho : b < n
        · rw [if_pos ho]
          exact move3_short s a b c d e n w hs hf hn hm g2 u.2.1 ho
        · rw [if_neg ho]
          exact move3_yes s a b c d e n w hs hf hn hm g2 u.2.1 g3 u.2.2.1 ho
      · rw [if_neg (by omega)]
        exact move_more s a b c d e n _ w hs hf hn (by omega)
theorem skeep_any (x : Sk) (n : Int) (w : World) (hs : x.nm.size ≤ 4398046511104) :
    Calls Try.prog 31 #[skV x, .int .i64 n] w fun z w' => z = .returned (.tuple #[skV (moveV x 3 n).1, .int .i64 (moveV x 3 n).2]) ∧ Below w.heap.size w w' := by
  have HM := Lib.hid (fun w => move3_any x n w hs)
  generalize moveV x 3 n = m at *
  obtain ⟨y, er⟩ := m
  obtain ⟨s, a, b, c, d, e⟩ := x
  unfold skV at *
  dsimp only at *
  clear hs
  have HB := Lib.hid (in2_new w (.string s) (.int .i64 a) (.int .i64 b) (.int .i64 c) (.int .i64 d) (.int .i64 e) (.string ⟨#[]⟩) (.int .i64 0) (.int .i64 0) (.int .i64 0) (.int .i64 0) (.int .i64 0))
  go_enter Try.func31, Try.ntmps31
  go_wp2_with fail
  refine (HM.out _).mono ?_
  rintro z w1 ⟨rfl, hb⟩
  have HB1 := Lib.hid (HB.out.keep hb)
  clear hb HB
  have HB := HB1; clear HB1
  obtain ⟨q0, q1, q2, q3, q4, q5⟩ := cells6 HB.out.box
  obtain ⟨z0, z1, z2, z3, z4, z5⟩ := cells6 HB.out.res
  obtain ⟨f0, f1, f2, f3, f4, f5⟩ := free6 HB.out.res
  obtain ⟨k0, k1, k2, k3, k4, k5⟩ := free6 HB.out.box
  go_wp2_with fail
  have HRS := Lib.hid (heap_put6 HB.out.res (.string y.nm) (.int .i64 (y.hand)) (.int .i64 (y.held)) (.int .i64 (y.kept)) (.int .i64 (y.sent)) (.int .i64 (y.inn)))
  have HW := Lib.hid (below_put6 HB.out.bel (Nat.le_succ _) (.string y.nm) (.int .i64 (y.hand)) (.int .i64 (y.held)) (.int .i64 (y.kept)) (.int .i64 (y.sent)) (.int .i64 (y.inn)))
  exact bodyPost_ret (results_sku rfl _ _ (w.heap.size + 1) _ _ _ _ _ _ rfl HRS.out) rfl ⟨rfl, HW.out⟩
theorem move4_short (s : ByteArray) (a b c d e : Int) (n : Int) (w : World) (hs : s.size ≤ 4398046511104) (hf : fitS ⟨s, a, b, c, d, e⟩ = true) (hn : ¬ n < 1) (hm : n ≤ 1048576) (g3 : 0 ≤ c) (h3 : c ≤ 1099511627776) (ho : c < n) :
    Calls Try.prog 53 #[.agg #[.string s, .int .i64 a, .int .i64 b, .int .i64 c, .int .i64 d, .int .i64 e], .int .i64 n, .func (.func 59) #[] #[]] w fun z w' => z = .returned (.tuple #[.agg #[.string ⟨#[]⟩, .int .i64 0, .int .i64 0, .int .i64 0, .int .i64 0, .int .i64 0], .int .i64 6]) ∧ Below w.heap.size w w' := by
  have HP := Lib.hid (pick4 w.heap.size)
  have HF := Lib.hid (fun w => sfit_is s a b c d e true w hs hf)
  clear hf
  have HB := Lib.hid (in2_new w (.string s) (.int .i64 a) (.int .i64 b) (.int .i64 c) (.int .i64 d) (.int .i64 e) (.string ⟨#[]⟩) (.int .i64 0) (.int .i64 0) (.int .i64 0) (.int .i64 0) (.int .i64 0))
  go_enter Try.func53, Try.ntmps53
  go_wp2_with fail
  refine (HF.out _).mono ?_
  rintro z w1 ⟨rfl, hb⟩
  have HB1 := Lib.hid (HB.out.keep hb)
  clear hb HB
  have HB := HB1; clear HB1
  obtain ⟨q0, q1, q2, q3, q4, q5⟩ := cells6 HB.out.box
  obtain ⟨z0, z1, z2, z3, z4, z5⟩ := cells6 HB.out.res
  obtain ⟨f0, f1, f2, f3, f4, f5⟩ := free6 HB.out.res
  obtain ⟨k0, k1, k2, k3, k4, k5⟩ := free6 HB.out.box
  go_wp2_with fail
  refine (HP.out _).mono ?_
  rintro z w2 ⟨rfl, hb⟩
  clear q0 q1 q2 q3 q4 q5 z0 z1 z2 z3 z4 z5 f0 f1 f2 f3 f4 f5 k0 k1 k2 k3 k4 k5
  have HB2 := Lib.hid (HB.out.keep hb)
  clear hb HB
  have HB := HB2; clear HB2
  obtain ⟨q0, q1, q2, q3, q4, q5⟩ := cells6 HB.out.box
  obtain ⟨z0, z1, z2, z3, z4, z5⟩ := cells6 HB.out.res
  obtain ⟨f0, f1, f2, f3, f4, f5⟩ := free6 HB.out.res
  obtain ⟨k0, k1, k2, k3, k4, k5⟩ := free6 HB.out.box
  go_wp2_with fail
  have HRS := Lib.hid (heap_put6 HB.out.res (.string ⟨#[]⟩) (.int .i64 0) (.int .i64 0) (.int .i64 0) (.int .i64 0) (.int .i64 0))
  have HW := Lib.hid (below_put6 HB.out.bel (Nat.le_succ _) (.string ⟨#[]⟩) (.int .i64 0) (.int .i64 0) (.int .i64 0) (.int .i64 0) (.int .i64 0))
  exact bodyPost_ret (results_sku rfl _ _ (w.heap.size + 1) _ _ _ _ _ _ rfl HRS.out) rfl ⟨rfl, HW.out⟩
theorem move4_yes (s : ByteArray) (a b c d e : Int) (n : Int) (w : World) (hs : s.size ≤ 4398046511104) (hf : fitS ⟨s, a, b, c, d, e⟩ = true) (hn : ¬ n < 1) (hm : n ≤ 1048576) (g3 : 0 ≤ c) (h3 : c ≤ 1099511627776) (g2 : 0 ≤ b) (h2 : b ≤ 1099511627776) (ho : ¬ c < n) :
    Calls Try.prog 53 #[.agg #[.string s, .int .i64 a, .int .i64 b, .int .i64 c, .int .i64 d, .int .i64 e], .int .i64 n, .func (.func 59) #[] #[]] w fun z w' => z = .returned (.tuple #[.agg #[.string s, .int .i64 (a), .int .i64 (b + n), .int .i64 (c - n), .int .i64 (d), .int .i64 (e)], .int .i64 0]) ∧ Below w.heap.size w w' := by
  have HP := Lib.hid (pick4 w.heap.size)
  have HF := Lib.hid (fun w => sfit_is s a b c d e true w hs hf)
  clear hf
  have HB := Lib.hid (in2_new w (.string s) (.int .i64 a) (.int .i64 b) (.int .i64 c) (.int .i64 d) (.int .i64 e) (.string ⟨#[]⟩) (.int .i64 0) (.int .i64 0) (.int .i64 0) (.int .i64 0) (.int .i64 0))
  go_enter Try.func53, Try.ntmps53
  go_wp2_with fail
  refine (HF.out _).mono ?_
  rintro z w1 ⟨rfl, hb⟩
  have HB1 := Lib.hid (HB.out.keep hb)
  clear hb HB
  have HB := HB1; clear HB1
  obtain ⟨q0, q1, q2, q3, q4, q5⟩ := cells6 HB.out.box
  obtain ⟨z0, z1, z2, z3, z4, z5⟩ := cells6 HB.out.res
  obtain ⟨f0, f1, f2, f3, f4, f5⟩ := free6 HB.out.res
  obtain ⟨k0, k1, k2, k3, k4, k5⟩ := free6 HB.out.box
  go_wp2_with fail
  refine (HP.out _).mono ?_
  rintro z w2 ⟨rfl, hb⟩
  clear q0 q1 q2 q3 q4 q5 z0 z1 z2 z3 z4 z5 f0 f1 f2 f3 f4 f5 k0 k1 k2 k3 k4 k5
  have HB2 := Lib.hid (HB.out.keep hb)
  clear hb HB
  have HB := HB2; clear HB2
  obtain ⟨q0, q1, q2, q3, q4, q5⟩ := cells6 HB.out.box
  obtain ⟨z0, z1, z2, z3, z4, z5⟩ := cells6 HB.out.res
  obtain ⟨f0, f1, f2, f3, f4, f5⟩ := free6 HB.out.res
  obtain ⟨k0, k1, k2, k3, k4, k5⟩ := free6 HB.out.box
  go_wp2_with fail
  have HRS := Lib.hid (heap_put6 (HB.out.set 3 2 (.int .i64 (c - n)) (.int .i64 (b + n))) (.string s) (.int .i64 (a)) (.int .i64 (b + n)) (.int .i64 (c - n)) (.int .i64 (d)) (.int .i64 (e)))
  have HW := Lib.hid (below_put6 (HB.out.setB 3 2 (.int .i64 (c - n)) (.int .i64 (b + n))) (Nat.le_succ _) (.string s) (.int .i64 (a)) (.int .i64 (b + n)) (.int .i64 (c - n)) (.int .i64 (d)) (.int .i64 (e)))
  exact bodyPost_ret (results_sku rfl _ _ (w.heap.size + 1) _ _ _ _ _ _ rfl HRS.out) rfl ⟨rfl, HW.out⟩
theorem move4_any (x : Sk) (n : Int) (w : World) (hs : x.nm.size ≤ 4398046511104) :
    Calls Try.prog 53 #[skV x, .int .i64 n, .func (.func 59) #[] #[]] w fun z w' => z = .returned (.tuple #[skV (moveV x 4 n).1, .int .i64 (moveV x 4 n).2]) ∧ Below w.heap.size w w' := by
  obtain ⟨s, a, b, c, d, e⟩ := x
  unfold moveV
  cases hf : fitS ⟨s, a, b, c, d, e⟩ with
  | false =>
    rw [if_neg (by decide)]
    exact move_bad s a b c d e n _ w hs hf
  | true =>
    have g := fitS_iff.1 hf
    have u := g.up; have g1 := g.hand; have g2 := g.held; have g3 := g.kept; have g4 := g.sent; have g5 := g.most
    dsimp only at u g1 g2 g3 g4 g5
    rw [if_pos rfl]
    by_cases hn : n < 1
    · rw [if_neg (by omega)]
      exact move_less s a b c d e n _ w hs hf hn
    · by_cases hm : n ≤ 1048576
      · rw [if_pos ⟨by omega, hm⟩]
        rw [show fromV ⟨s, a, b, c, d, e⟩ 4 = c from rfl]
        by_cases ho : c < n
        · rw [if_pos ho]
          exact move4_short s a b c d e n w hs hf hn hm g3 u.2.2.1 ho
        · rw [if_neg ho]
          exact move4_yes s a b c d e n w hs hf hn hm g3 u.2.2.1 g2 u.2.1 ho
      · rw [if_neg (by omega)]
        exact move_more s a b c d e n _ w hs hf hn (by omega)
theorem sunkeep_any (x : Sk) (n : Int) (w : World) (hs : x.nm.size ≤ 4398046511104) :
    Calls Try.prog 32 #[skV x, .int .i64 n] w fun z w' => z = .returned (.tuple #[skV (moveV x 4 n).1, .int .i64 (moveV x 4 n).2]) ∧ Below w.heap.size w w' := by
  have HM := Lib.hid (fun w => move4_any x n w hs)
  generalize moveV x 4 n = m at *
  obtain ⟨y, er⟩ := m
  obtain ⟨s, a, b, c, d, e⟩ := x
  unfold skV at *
  dsimp only at *
  clear hs
  have HB := Lib.hid (in2_new w (.string s) (.int .i64 a) (.int .i64 b) (.int .i64 c) (.int .i64 d) (.int .i64 e) (.string ⟨#[]⟩) (.int .i64 0) (.int .i64 0) (.int .i64 0) (.int .i64 0) (.int .i64 0))
  go_enter Try.func32, Try.ntmps32
  go_wp2_with fail
  refine (HM.out _).mono ?_
  rintro z w1 ⟨rfl, hb⟩
  have HB1 := Lib.hid (HB.out.keep hb)
  clear hb HB
  have HB := HB1; clear HB1
  obtain ⟨q0, q1, q2, q3, q4, q5⟩ := cells6 HB.out.box
  obtain ⟨z0, z1, z2, z3, z4, z5⟩ := cells6 HB.out.res
  obtain ⟨f0, f1, f2, f3, f4, f5⟩ := free6 HB.out.res
  obtain ⟨k0, k1, k2, k3, k4, k5⟩ := free6 HB.out.box
  go_wp2_with fail
  have HRS := Lib.hid (heap_put6 HB.out.res (.string y.nm) (.int .i64 (y.hand)) (.int .i64 (y.held)) (.int .i64 (y.kept)) (.int .i64 (y.sent)) (.int .i64 (y.inn)))
  have HW := Lib.hid (below_put6 HB.out.bel (Nat.le_succ _) (.string y.nm) (.int .i64 (y.hand)) (.int .i64 (y.held)) (.int .i64 (y.kept)) (.int .i64 (y.sent)) (.int .i64 (y.inn)))
  exact bodyPost_ret (results_sku rfl _ _ (w.heap.size + 1) _ _ _ _ _ _ rfl HRS.out) rfl ⟨rfl, HW.out⟩
theorem move5_short (s : ByteArray) (a b c d e : Int) (n : Int) (w : World) (hs : s.size ≤ 4398046511104) (hf : fitS ⟨s, a, b, c, d, e⟩ = true) (hn : ¬ n < 1) (hm : n ≤ 1048576) (g3 : 0 ≤ c) (h3 : c ≤ 1099511627776) (ho : c < n) :
    Calls Try.prog 53 #[.agg #[.string s, .int .i64 a, .int .i64 b, .int .i64 c, .int .i64 d, .int .i64 e], .int .i64 n, .func (.func 62) #[] #[]] w fun z w' => z = .returned (.tuple #[.agg #[.string ⟨#[]⟩, .int .i64 0, .int .i64 0, .int .i64 0, .int .i64 0, .int .i64 0], .int .i64 6]) ∧ Below w.heap.size w w' := by
  have HP := Lib.hid (pick5 w.heap.size)
  have HF := Lib.hid (fun w => sfit_is s a b c d e true w hs hf)
  clear hf
  have HB := Lib.hid (in2_new w (.string s) (.int .i64 a) (.int .i64 b) (.int .i64 c) (.int .i64 d) (.int .i64 e) (.string ⟨#[]⟩) (.int .i64 0) (.int .i64 0) (.int .i64 0) (.int .i64 0) (.int .i64 0))
  go_enter Try.func53, Try.ntmps53
  go_wp2_with fail
  refine (HF.out _).mono ?_
  rintro z w1 ⟨rfl, hb⟩
  have HB1 := Lib.hid (HB.out.keep hb)
  clear hb HB
  have HB := HB1; clear HB1
  obtain ⟨q0, q1, q2, q3, q4, q5⟩ := cells6 HB.out.box
  obtain ⟨z0, z1, z2, z3, z4, z5⟩ := cells6 HB.out.res
  obtain ⟨f0, f1, f2, f3, f4, f5⟩ := free6 HB.out.res
  obtain ⟨k0, k1, k2, k3, k4, k5⟩ := free6 HB.out.box
  go_wp2_with fail
  refine (HP.out _).mono ?_
  rintro z w2 ⟨rfl, hb⟩
  clear q0 q1 q2 q3 q4 q5 z0 z1 z2 z3 z4 z5 f0 f1 f2 f3 f4 f5 k0 k1 k2 k3 k4 k5
  have HB2 := Lib.hid (HB.out.keep hb)
  clear hb HB
  have HB := HB2; clear HB2
  obtain ⟨q0, q1, q2, q3, q4, q5⟩ := cells6 HB.out.box
  obtain ⟨z0, z1, z2, z3, z4, z5⟩ := cells6 HB.out.res
  obtain ⟨f0, f1, f2, f3, f4, f5⟩ := free6 HB.out.res
  obtain ⟨k0, k1, k2, k3, k4, k5⟩ := free6 HB.out.box
  go_wp2_with fail
  have HRS := Lib.hid (heap_put6 HB.out.res (.string ⟨#[]⟩) (.int .i64 0) (.int .i64 0) (.int .i64 0) (.int .i64 0) (.int .i64 0))
  have HW := Lib.hid (below_put6 HB.out.bel (Nat.le_succ _) (.string ⟨#[]⟩) (.int .i64 0) (.int .i64 0) (.int .i64 0) (.int .i64 0) (.int .i64 0))
  exact bodyPost_ret (results_sku rfl _ _ (w.heap.size + 1) _ _ _ _ _ _ rfl HRS.out) rfl ⟨rfl, HW.out⟩
theorem move5_yes (s : ByteArray) (a b c d e : Int) (n : Int) (w : World) (hs : s.size ≤ 4398046511104) (hf : fitS ⟨s, a, b, c, d, e⟩ = true) (hn : ¬ n < 1) (hm : n ≤ 1048576) (g3 : 0 ≤ c) (h3 : c ≤ 1099511627776) (g4 : 0 ≤ d) (h4 : d ≤ 1099511627776) (ho : ¬ c < n) :
    Calls Try.prog 53 #[.agg #[.string s, .int .i64 a, .int .i64 b, .int .i64 c, .int .i64 d, .int .i64 e], .int .i64 n, .func (.func 62) #[] #[]] w fun z w' => z = .returned (.tuple #[.agg #[.string s, .int .i64 (a), .int .i64 (b), .int .i64 (c - n), .int .i64 (d + n), .int .i64 (e)], .int .i64 0]) ∧ Below w.heap.size w w' := by
  have HP := Lib.hid (pick5 w.heap.size)
  have HF := Lib.hid (fun w => sfit_is s a b c d e true w hs hf)
  clear hf
  have HB := Lib.hid (in2_new w (.string s) (.int .i64 a) (.int .i64 b) (.int .i64 c) (.int .i64 d) (.int .i64 e) (.string ⟨#[]⟩) (.int .i64 0) (.int .i64 0) (.int .i64 0) (.int .i64 0) (.int .i64 0))
  go_enter Try.func53, Try.ntmps53
  go_wp2_with fail
  refine (HF.out _).mono ?_
  rintro z w1 ⟨rfl, hb⟩
  have HB1 := Lib.hid (HB.out.keep hb)
  clear hb HB
  have HB := HB1; clear HB1
  obtain ⟨q0, q1, q2, q3, q4, q5⟩ := cells6 HB.out.box
  obtain ⟨z0, z1, z2, z3, z4, z5⟩ := cells6 HB.out.res
  obtain ⟨f0, f1, f2, f3, f4, f5⟩ := free6 HB.out.res
  obtain ⟨k0, k1, k2, k3, k4, k5⟩ := free6 HB.out.box
  go_wp2_with fail
  refine (HP.out _).mono ?_
  rintro z w2 ⟨rfl, hb⟩
  clear q0 q1 q2 q3 q4 q5 z0 z1 z2 z3 z4 z5 f0 f1 f2 f3 f4 f5 k0 k1 k2 k3 k4 k5
  have HB2 := Lib.hid (HB.out.keep hb)
  clear hb HB
  have HB := HB2; clear HB2
  obtain ⟨q0, q1, q2, q3, q4, q5⟩ := cells6 HB.out.box
  obtain ⟨z0, z1, z2, z3, z4, z5⟩ := cells6 HB.out.res
  obtain ⟨f0, f1, f2, f3, f4, f5⟩ := free6 HB.out.res
  obtain ⟨k0, k1, k2, k3, k4, k5⟩ := free6 HB.out.box
  go_wp2_with fail
  have HRS := Lib.hid (heap_put6 (HB.out.set 3 4 (.int .i64 (c - n)) (.int .i64 (d + n))) (.string s) (.int .i64 (a)) (.int .i64 (b)) (.int .i64 (c - n)) (.int .i64 (d + n)) (.int .i64 (e)))
  have HW := Lib.hid (below_put6 (HB.out.setB 3 4 (.int .i64 (c - n)) (.int .i64 (d + n))) (Nat.le_succ _) (.string s) (.int .i64 (a)) (.int .i64 (b)) (.int .i64 (c - n)) (.int .i64 (d + n)) (.int .i64 (e)))
  exact bodyPost_ret (results_sku rfl _ _ (w.heap.size + 1) _ _ _ _ _ _ rfl HRS.out) rfl ⟨rfl, HW.out⟩
theorem move5_any (x : Sk) (n : Int) (w : World) (hs : x.nm.size ≤ 4398046511104) :
    Calls Try.prog 53 #[skV x, .int .i64 n, .func (.func 62) #[] #[]] w fun z w' => z = .returned (.tuple #[skV (moveV x 5 n).1, .int .i64 (moveV x 5 n).2]) ∧ Below w.heap.size w w' := by
  obtain ⟨s, a, b, c, d, e⟩ := x
  unfold moveV
  cases hf : fitS ⟨s, a, b, c, d, e⟩ with
  | false =>
    rw [if_neg (by decide)]
    exact move_bad s a b c d e n _ w hs hf
  | true =>
    have g := fitS_iff.1 hf
    have u := g.up; have g1 := g.hand; have g2 := g.held; have g3 := g.kept; have g4 := g.sent; have g5 := g.most
    dsimp only at u g1 g2 g3 g4 g5
    rw [if_pos rfl]
    by_cases hn : n < 1
    · rw [if_neg (by omega)]
      exact move_less s a b c d e n _ w hs hf hn
    · by_cases hm : n ≤ 1048576
      · rw [if_pos ⟨by omega, hm⟩]
        rw [show fromV ⟨s, a, b, c, d, e⟩ 5 = c from rfl]
        by_cases ho : c < n
        · rw [if_pos ho]
          exact move5_short s a b c d e n w hs hf hn hm g3 u.2.2.1 ho
        · rw [if_neg ho]
          exact move5_yes s a b c d e n w hs hf hn hm g3 u.2.2.1 g4 u.2.2.2.1 ho
      · rw [if_neg (by omega)]
        exact move_more s a b c d e n _ w hs hf hn (by omega)
theorem ssend_any (x : Sk) (n : Int) (w : World) (hs : x.nm.size ≤ 4398046511104) :
    Calls Try.prog 35 #[skV x, .int .i64 n] w fun z w' => z = .returned (.tuple #[skV (moveV x 5 n).1, .int .i64 (moveV x 5 n).2]) ∧ Below w.heap.size w w' := by
  have HM := Lib.hid (fun w => move5_any x n w hs)
  generalize moveV x 5 n = m at *
  obtain ⟨y, er⟩ := m
  obtain ⟨s, a, b, c, d, e⟩ := x
  unfold skV at *
  dsimp only at *
  clear hs
  have HB := Lib.hid (in2_new w (.string s) (.int .i64 a) (.int .i64 b) (.int .i64 c) (.int .i64 d) (.int .i64 e) (.string ⟨#[]⟩) (.int .i64 0) (.int .i64 0) (.int .i64 0) (.int .i64 0) (.int .i64 0))
  go_enter Try.func35, Try.ntmps35
  go_wp2_with fail
  refine (HM.out _).mono ?_
  rintro z w1 ⟨rfl, hb⟩
  have HB1 := Lib.hid (HB.out.keep hb)
  clear hb HB
  have HB := HB1; clear HB1
  obtain ⟨q0, q1, q2, q3, q4, q5⟩ := cells6 HB.out.box
  obtain ⟨z0, z1, z2, z3, z4, z5⟩ := cells6 HB.out.res
  obtain ⟨f0, f1, f2, f3, f4, f5⟩ := free6 HB.out.res
  obtain ⟨k0, k1, k2, k3, k4, k5⟩ := free6 HB.out.box
  go_wp2_with fail
  have HRS := Lib.hid (heap_put6 HB.out.res (.string y.nm) (.int .i64 (y.hand)) (.int .i64 (y.held)) (.int .i64 (y.kept)) (.int .i64 (y.sent)) (.int .i64 (y.inn)))
  have HW := Lib.hid (below_put6 HB.out.bel (Nat.le_succ _) (.string y.nm) (.int .i64 (y.hand)) (.int .i64 (y.held)) (.int .i64 (y.kept)) (.int .i64 (y.sent)) (.int .i64 (y.inn)))
  exact bodyPost_ret (results_sku rfl _ _ (w.heap.size + 1) _ _ _ _ _ _ rfl HRS.out) rfl ⟨rfl, HW.out⟩
end Go.Proofs.Ytjclkiabgemfpaa

/-
  The contracts of the document's Move, of the law's own move and awake.
-/
set_option linter.unusedVariables false
set_option maxRecDepth 4000
set_option maxRecDepth 4000
namespace Go.Proofs.Ytjclkiabgemfpaa
open Go.RowKit StockP
theorem srestock_is (x : Sk) (n : Int) (y : Sk) (er : Int) (w : World) (hs : x.nm.size ≤ 4398046511104) (h : restockV x n = (y, er)) :
    Calls Try.prog 46 #[.agg #[.string x.nm, .int .i64 x.hand, .int .i64 x.held, .int .i64 x.kept, .int .i64 x.sent, .int .i64 x.inn], .int .i64 n] w fun z w' => z = .returned (.tuple #[.agg #[.string y.nm, .int .i64 y.hand, .int .i64 y.held, .int .i64 y.kept, .int .i64 y.sent, .int .i64 y.inn], .int .i64 er]) ∧ Below w.heap.size w w' := by
  have h2 := srestock_any x n w hs; rw [h] at h2; exact h2
theorem sadjust_is (x : Sk) (n : Int) (y : Sk) (er : Int) (w : World) (hs : x.nm.size ≤ 4398046511104) (h : adjustV x n = (y, er)) :
    Calls Try.prog 47 #[.agg #[.string x.nm, .int .i64 x.hand, .int .i64 x.held, .int .i64 x.kept, .int .i64 x.sent, .int .i64 x.inn], .int .i64 n] w fun z w' => z = .returned (.tuple #[.agg #[.string y.nm, .int .i64 y.hand, .int .i64 y.held, .int .i64 y.kept, .int .i64 y.sent, .int .i64 y.inn], .int .i64 er]) ∧ Below w.heap.size w w' := by
  have h2 := sadjust_any x n w hs; rw [h] at h2; exact h2
end Go.Proofs.Ytjclkiabgemfpaa
