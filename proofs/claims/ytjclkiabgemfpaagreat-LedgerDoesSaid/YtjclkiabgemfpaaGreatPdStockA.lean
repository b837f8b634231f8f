/-
  An item in memory; the contracts of stock.Fit and of the document's.
-/
import Derived.Test.YtjclkiabgemfpaaGreatPdNamePlain
import Derived.Test.YtjclkiabgemfpaaGreatPdNameC
import Derived.Test.YtjclkiabgemfpaaGreatPdNameG
import Derived.Test.YtjclkiabgemfpaaGreatPdNumB
import Derived.Lib.BufferWrite
set_option linter.unusedVariables false
set_option maxRecDepth 4000
set_option maxRecDepth 4000
namespace Go.Proofs.YtjclkiabgemfpaaGreat
open Go.RowKit StockP
open Num (IntsAt)

def skV (x : Sk) : Value := .agg #[.string x.nm, .int .i64 x.hand, .int .i64 x.held, .int .i64 x.kept, .int .i64 x.sent, .int .i64 x.inn]
theorem cell_of_heap {w : World} {b i : Nat} {cs : Array Value} {t : TypeId} {fr : Nat × Nat} (h : w.heap[b]? = some (.cells cs t fr)) : w.cell? ⟨b, i, none⟩ = cs[i]? := by simp [World.cell?, h]
theorem frozen_of_heap {w : World} {b i : Nat} {cs : Array Value} {t : TypeId} (h : w.heap[b]? = some (.cells cs t (0, 0))) : w.frozen? ⟨b, i, none⟩ = false := by simp [World.frozen?, h]
theorem heap_lt {w : World} {b : Nat} {o : Obj} (h : w.heap[b]? = some o) : b < w.heap.size := (Array.getElem?_eq_some_iff.1 h).1
abbrev At6 (w : World) (b : Nat) (v0 v1 v2 v3 v4 v5 : Value) : Prop := w.heap[b]? = some (.cells #[v0, v1, v2, v3, v4, v5] 41 (0, 0))
theorem cells6 {w : World} {v0 v1 v2 v3 v4 v5 : Value} {b : Nat} (h : At6 w b v0 v1 v2 v3 v4 v5) :
    w.cell? ⟨b, 0, none⟩ = some v0 ∧ w.cell? ⟨b, 1, none⟩ = some v1 ∧ w.cell? ⟨b, 2, none⟩ = some v2 ∧ w.cell? ⟨b, 3, none⟩ = some v3 ∧ w.cell? ⟨b, 4, none⟩ = some v4 ∧ w.cell? ⟨b, 5, none⟩ = some v5 := by
  refine ⟨?_, ?_, ?_, ?_, ?_, ?_⟩ <;> (rw [cell_of_heap h]; rfl)
theorem free6 {w : World} {v0 v1 v2 v3 v4 v5 : Value} {b : Nat} (h : At6 w b v0 v1 v2 v3 v4 v5) :
    w.frozen? ⟨b, 0, none⟩ = false ∧ w.frozen? ⟨b, 1, none⟩ = false ∧ w.frozen? ⟨b, 2, none⟩ = false ∧ w.frozen? ⟨b, 3, none⟩ = false ∧ w.frozen? ⟨b, 4, none⟩ = false ∧ w.frozen? ⟨b, 5, none⟩ = false :=
  ⟨frozen_of_heap h, frozen_of_heap h, frozen_of_heap h, frozen_of_heap h, frozen_of_heap h, frozen_of_heap h⟩
theorem At6.keep {w w' : World} {v0 v1 v2 v3 v4 v5 : Value} {b : Nat} (h : At6 w b v0 v1 v2 v3 v4 v5) (hb : Below w.heap.size w w') : At6 w' b v0 v1 v2 v3 v4 v5 := (hb.block b (heap_lt h)).trans h
theorem at6_new (w : World) (v0 v1 v2 v3 v4 v5 : Value) : At6 (w.alloc (.cells #[v0, v1, v2, v3, v4, v5] 41)) w.heap.size v0 v1 v2 v3 v4 v5 := heap_alloc_new w _
theorem At6.alloc {w : World} {v0 v1 v2 v3 v4 v5 : Value} {b : Nat} (h : At6 w b v0 v1 v2 v3 v4 v5) (o : Obj) : At6 (w.alloc o) b v0 v1 v2 v3 v4 v5 := h.keep ((Below.refl _ _).alloc (Nat.le_refl _) o)
abbrev put6 (w : World) (k : Nat) (v0 v1 v2 v3 v4 v5 : Value) : World :=
  (((((w.setCell ⟨k, 0, none⟩ v0).setCell ⟨k, 1, none⟩ v1).setCell ⟨k, 2, none⟩ v2).setCell ⟨k, 3, none⟩ v3).setCell ⟨k, 4, none⟩ v4).setCell ⟨k, 5, none⟩ v5
theorem heap_put6 {w : World} {k : Nat} {x0 x1 x2 x3 x4 x5 : Value} (h : At6 w k x0 x1 x2 x3 x4 x5) (v0 v1 v2 v3 v4 v5 : Value) : At6 (put6 w k v0 v1 v2 v3 v4 v5) k v0 v1 v2 v3 v4 v5 := by
  have h1 := Lib.heap_setCell_same (i := 0) h v0
  have h2 := Lib.heap_setCell_same (i := 1) h1 v1
  have h3 := Lib.heap_setCell_same (i := 2) h2 v2
  have h4 := Lib.heap_setCell_same (i := 3) h3 v3
  have h5 := Lib.heap_setCell_same (i := 4) h4 v4
  exact Lib.heap_setCell_same (i := 5) h5 v5
theorem below_put6 {B : Nat} {w0 w : World} {k : Nat} (h : Below B w0 w) (hk : B ≤ k) (v0 v1 v2 v3 v4 v5 : Value) : Below B w0 (put6 w k v0 v1 v2 v3 v4 v5) :=
  (((((h.setCell (p := ⟨k, 0, none⟩) hk _).setCell (p := ⟨k, 1, none⟩) hk _).setCell (p := ⟨k, 2, none⟩) hk _).setCell (p := ⟨k, 3, none⟩) hk _).setCell (p := ⟨k, 4, none⟩) hk _).setCell (p := ⟨k, 5, none⟩) hk _
theorem results_sku {fn : Func} {j k : Nat} (h : fn.results = #[.cell j 41, .tmp k]) (tmps : Array Value) (w : World) (b : Nat) (x0 x1 x2 x3 x4 x5 : Value) (hp : tmps.getD j undef = .pointer (some ⟨b, 0, none⟩))
    (c : At6 w b x0 x1 x2 x3 x4 x5) : (results fn tmps).run Tryz.prog w = .ok (.tuple #[.agg #[x0, x1, x2, x3, x4, x5], tmps.getD k undef]) w := by
  have hp' : tmps[j]?.getD undef = .pointer (some ⟨b, 0, none⟩) := by rw [← hp]; simp
  obtain ⟨c0, c1, c2, c3, c4, c5⟩ := cells6 c
  simp only [results, h]
  go_simp
theorem nfit_is (s : ByteArray) (v : Bool) (w : World) (hs : s.size ≤ 4398046511104) (hv : nmS s = v) : Calls Tryz.prog 45 #[.string s] w fun e w' => e = .returned (.bool v) ∧ Below w.heap.size w w' := by
  have h := Name.fit_any s w hs; unfold nmS at hv; rw [hv] at h; exact h
theorem nrfit_is (s : ByteArray) (v : Bool) (w : World) (hs : s.size ≤ 4398046511104) (hv : nmS s = v) : Calls Tryz.prog 62 #[.string s] w fun e w' => e = .returned (.bool v) ∧ Below w.heap.size w w' := by
  have h := Name.rfit_any s w hs; unfold nmS at hv; rw [hv] at h; exact h
structure Bx (w w' : World) (v0 v1 v2 v3 v4 v5 : Value) : Prop where
  bel : Below w.heap.size w w'
  box : At6 w' w.heap.size v0 v1 v2 v3 v4 v5
theorem Bx.lt {w w' : World} {v0 v1 v2 v3 v4 v5 : Value} (h : Bx w w' v0 v1 v2 v3 v4 v5) : w.heap.size < w'.heap.size := heap_lt h.box
theorem Bx.keep {w w' w2 : World} {v0 v1 v2 v3 v4 v5 : Value} (h : Bx w w' v0 v1 v2 v3 v4 v5) (hB : Below w'.heap.size w' w2) : Bx w w2 v0 v1 v2 v3 v4 v5 := ⟨h.bel.trans (hB.mono (Nat.le_of_lt h.lt)), h.box.keep hB⟩
theorem Bx.alloc {w w' : World} {v0 v1 v2 v3 v4 v5 : Value} (h : Bx w w' v0 v1 v2 v3 v4 v5) (o : Obj) : Bx w (w'.alloc o) v0 v1 v2 v3 v4 v5 := h.keep ((Below.refl _ _).alloc (Nat.le_refl _) o)
theorem bx_new (w : World) (v0 v1 v2 v3 v4 v5 : Value) : Bx w (w.alloc (.cells #[v0, v1, v2, v3, v4, v5] 41)) v0 v1 v2 v3 v4 v5 := ⟨(Below.refl _ w).alloc (Nat.le_refl _) _, at6_new w _ _ _ _ _ _⟩
theorem four_ints (w : World) (a b c d : Int) : IntsAt (w.alloc (.cells #[.int .i64 a, .int .i64 b, .int .i64 c, .int .i64 d] 3)) (some ⟨w.heap.size, 0, none⟩) 4 [a, b, c, d] := by
  refine ⟨rfl, by omega, .inr ⟨_, _, rfl, fun i hi => ?_⟩⟩
  rw [Nat.zero_add, World.cell?_alloc_new]
  rcases i with _ | _ | _ | _ | i
  · rfl
  · rfl
  · rfl
  · rfl
  · omega
theorem four_behind (w : World) (s : ByteArray) (a b c d e : Int) : IntsAt ((w.alloc (.cells #[.string s, .int .i64 a, .int .i64 b, .int .i64 c, .int .i64 d, .int .i64 e] 41)).alloc (.cells #[.int .i64 a, .int .i64 b, .int .i64 c, .int .i64 d] 3)) (some ⟨w.heap.size + 1, 0, none⟩) 4 [a, b, c, d] := by
  have h := four_ints (w.alloc (.cells #[.string s, .int .i64 a, .int .i64 b, .int .i64 c, .int .i64 d, .int .i64 e] 41)) a b c d
  rw [World.size_alloc] at h
  exact h

theorem rsfit_name (s : ByteArray) (a b c d e : Int) (w : World) (hs : s.size ≤ 4398046511104) (hn : nmS s = false) :
    Calls Tryz.prog 40 #[.agg #[.string s, .int .i64 a, .int .i64 b, .int .i64 c, .int .i64 d, .int .i64 e]] w fun z w' => z = .returned (.bool false) ∧ Below w.heap.size w w' := by
  have HN := Lib.hid (fun w => nrfit_is s false w hs hn)
  clear hn
  have HB0 := Lib.hid (bx_new w (.string s) (.int .i64 a) (.int .i64 b) (.int .i64 c) (.int .i64 d) (.int .i64 e))
  go_enter Tryz.func40, Tryz.ntmps40
  go_wp2_with fail
  refine (HN.out _).mono ?_
  rintro z w1 ⟨rfl, hb⟩
  have HB := Lib.hid (HB0.out.keep hb)
  clear hb HB0
  obtain ⟨q0, q1, q2, q3, q4, q5⟩ := cells6 HB.out.box
  go_wp2_with fail
  go_ret
  exact ⟨rfl, HB.out.bel⟩
theorem rsfit_0 (s : ByteArray) (a b c d e : Int) (w : World) (hs : s.size ≤ 4398046511104) (hn : nmS s = true)  (hk : a < 0 ∨ 1099511627776 < a) :
    Calls Tryz.prog 40 #[.agg #[.string s, .int .i64 a, .int .i64 b, .int .i64 c, .int .i64 d, .int .i64 e]] w fun z w' => z = .returned (.bool false) ∧ Below w.heap.size w w' := by
  have HN := Lib.hid (fun w => nrfit_is s true w hs hn)
  have K0 := Lib.hid (fun w => Num.rfit_no a w hk)
  clear hn hk
  have HB0 := Lib.hid (bx_new w (.string s) (.int .i64 a) (.int .i64 b) (.int .i64 c) (.int .i64 d) (.int .i64 e))
  go_enter Tryz.func40, Tryz.ntmps40
  go_wp2_with fail
  refine (HN.out _).mono ?_
  rintro z w1 ⟨rfl, hb⟩
  have HB := Lib.hid (HB0.out.keep hb)
  clear hb HB0
  obtain ⟨q0, q1, q2, q3, q4, q5⟩ := cells6 HB.out.box
  go_wp2_with fail
  refine (K0.out _).mono ?_
  rintro z w2 ⟨rfl, rfl⟩
  go_wp2_with fail
  go_ret
  exact ⟨rfl, HB.out.bel⟩
theorem rsfit_1 (s : ByteArray) (a b c d e : Int) (w : World) (hs : s.size ≤ 4398046511104) (hn : nmS s = true) (g0 : 0 ≤ a) (h0 : a ≤ 1099511627776) (hk : b < 0 ∨ 1099511627776 < b) :
    Calls Tryz.prog 40 #[.agg #[.string s, .int .i64 a, .int .i64 b, .int .i64 c, .int .i64 d, .int .i64 e]] w fun z w' => z = .returned (.bool false) ∧ Below w.heap.size w w' := by
  have HN := Lib.hid (fun w => nrfit_is s true w hs hn)
  have K0 := Lib.hid (fun w => Num.rfit_yes a w g0 h0)
  have K1 := Lib.hid (fun w => Num.rfit_no b w hk)
  clear hn hk
  have HB0 := Lib.hid (bx_new w (.string s) (.int .i64 a) (.int .i64 b) (.int .i64 c) (.int .i64 d) (.int .i64 e))
  go_enter Tryz.func40, Tryz.ntmps40
  go_wp2_with fail
  refine (HN.out _).mono ?_
  rintro z w1 ⟨rfl, hb⟩
  have HB := Lib.hid (HB0.out.keep hb)
  clear hb HB0
  obtain ⟨q0, q1, q2, q3, q4, q5⟩ := cells6 HB.out.box
  go_wp2_with fail
  refine (K0.out _).mono ?_
  rintro z w2 ⟨rfl, rfl⟩
  go_wp2_with fail
  refine (K1.out _).mono ?_
  rintro z w2 ⟨rfl, rfl⟩
  go_wp2_with fail
  go_ret
  exact ⟨rfl, HB.out.bel⟩
theorem rsfit_2 (s : ByteArray) (a b c d e : Int) (w : World) (hs : s.size ≤ 4398046511104) (hn : nmS s = true) (g0 : 0 ≤ a) (h0 : a ≤ 1099511627776) (g1 : 0 ≤ b) (h1 : b ≤ 1099511627776) (hk : c < 0 ∨ 1099511627776 < c) :
    Calls Tryz.prog 40 #[.agg #[.string s, .int .i64 a, .int .i64 b, .int .i64 c, .int .i64 d, .int .i64 e]] w fun z w' => z = .returned (.bool false) ∧ Below w.heap.size w w' := by
  have HN := Lib.hid (fun w => nrfit_is s true w hs hn)
  have K0 := Lib.hid (fun w => Num.rfit_yes a w g0 h0)
  have K1 := Lib.hid (fun w => Num.rfit_yes b w g1 h1)
  have K2 := Lib.hid (fun w => Num.rfit_no c w hk)
  clear hn hk
  have HB0 := Lib.hid (bx_new w (.string s) (.int .i64 a) (.int .i64 b) (.int .i64 c) (.int .i64 d) (.int .i64 e))
  go_enter Tryz.func40, Tryz.ntmps40
  go_wp2_with fail
  refine (HN.out _).mono ?_
  rintro z w1 ⟨rfl, hb⟩
  have HB := Lib.hid (HB0.out.keep hb)
  clear hb HB0
  obtain ⟨q0, q1, q2, q3, q4, q5⟩ := cells6 HB.out.box
  go_wp2_with fail
  refine (K0.out _).mono ?_
  rintro z w2 ⟨rfl, rfl⟩
  go_wp2_with fail
  refine (K1.out _).mono ?_
  rintro z w2 ⟨rfl, rfl⟩
  go_wp2_with fail
  refine (K2.out _).mono ?_
  rintro z w2 ⟨rfl, rfl⟩
  go_wp2_with fail
  go_ret
  exact ⟨rfl, HB.out.bel⟩
theorem rsfit_3 (s : ByteArray) (a b c d e : Int) (w : World) (hs : s.size ≤ 4398046511104) (hn : nmS s = true) (g0 : 0 ≤ a) (h0 : a ≤ 1099511627776) (g1 : 0 ≤ b) (h1 : b ≤ 1099511627776) (g2 : 0 ≤ c) (h2 : c ≤ 1099511627776) (hk : d < 0 ∨ 1099511627776 < d) :
    Calls Tryz.prog 40 #[.agg #[.string s, .int .i64 a, .int .i64 b, .int .i64 c, .int .i64 d, .int .i64 e]] w fun z w' => z = .returned (.bool false) ∧ Below w.heap.size w w' := by
  have HN := Lib.hid (fun w => nrfit_is s true w hs hn)
  have K0 := Lib.hid (fun w => Num.rfit_yes a w g0 h0)
  have K1 := Lib.hid (fun w => Num.rfit_yes b w g1 h1)
  have K2 := Lib.hid (fun w => Num.rfit_yes c w g2 h2)
  have K3 := Lib.hid (fun w => Num.rfit_no d w hk)
  clear hn hk
  have HB0 := Lib.hid (bx_new w (.string s) (.int .i64 a) (.int .i64 b) (.int .i64 c) (.int .i64 d) (.int .i64 e))
  go_enter Tryz.func40, Tryz.ntmps40
  go_wp2_with fail
  refine (HN.out _).mono ?_
  rintro z w1 ⟨rfl, hb⟩
  have HB := Lib.hid (HB0.out.keep hb)
  clear hb HB0
  obtain ⟨q0, q1, q2, q3, q4, q5⟩ := cells6 HB.out.box
  go_wp2_with fail
  refine (K0.out _).mono ?_
  rintro z w2 ⟨rfl, rfl⟩
  go_wp2_with fail
  refine (K1.out _).mono ?_
  rintro z w2 ⟨rfl, rfl⟩
  go_wp2_with fail
  refine (K2.out _).mono ?_
  rintro z w2 ⟨rfl, rfl⟩
  go_wp2_with fail
  refine (K3.out _).mono ?_
  rintro z w2 ⟨rfl, rfl⟩
  go_wp2_with fail
  go_ret
  exact ⟨rfl, HB.out.bel⟩
theorem rsfit_4 (s : ByteArray) (a b c d e : Int) (w : World) (hs : s.size ≤ 4398046511104) (hn : nmS s = true) (g0 : 0 ≤ a) (h0 : a ≤ 1099511627776) (g1 : 0 ≤ b) (h1 : b ≤ 1099511627776) (g2 : 0 ≤ c) (h2 : c ≤ 1099511627776) (g3 : 0 ≤ d) (h3 : d ≤ 1099511627776) (hk : e < 0 ∨ 1099511627776 < e) :
    Calls Tryz.prog 40 #[.agg #[.string s, .int .i64 a, .int .i64 b, .int .i64 c, .int .i64 d, .int .i64 e]] w fun z w' => z = .returned (.bool false) ∧ Below w.heap.size w w' := by
  have HN := Lib.hid (fun w => nrfit_is s true w hs hn)
  have K0 := Lib.hid (fun w => Num.rfit_yes a w g0 h0)
  have K1 := Lib.hid (fun w => Num.rfit_yes b w g1 h1)
  have K2 := Lib.hid (fun w => Num.rfit_yes c w g2 h2)
  have K3 := Lib.hid (fun w => Num.rfit_yes d w g3 h3)
  have K4 := Lib.hid (fun w => Num.rfit_no e w hk)
  clear hn hk
  have HB0 := Lib.hid (bx_new w (.string s) (.int .i64 a) (.int .i64 b) (.int .i64 c) (.int .i64 d) (.int .i64 e))
  go_enter Tryz.func40, Tryz.ntmps40
  go_wp2_with fail
  refine (HN.out _).mono ?_
  rintro z w1 ⟨rfl, hb⟩
  have HB := Lib.hid (HB0.out.keep hb)
  clear hb HB0
  obtain ⟨q0, q1, q2, q3, q4, q5⟩ := cells6 HB.out.box
  go_wp2_with fail
  refine (K0.out _).mono ?_
  rintro z w2 ⟨rfl, rfl⟩
  go_wp2_with fail
  refine (K1.out _).mono ?_
  rintro z w2 ⟨rfl, rfl⟩
  go_wp2_with fail
  refine (K2.out _).mono ?_
  rintro z w2 ⟨rfl, rfl⟩
  go_wp2_with fail
  refine (K3.out _).mono ?_
  rintro z w2 ⟨rfl, rfl⟩
  go_wp2_with fail
  refine (K4.out _).mono ?_
  rintro z w2 ⟨rfl, rfl⟩
  go_wp2_with fail
  go_ret
  exact ⟨rfl, HB.out.bel⟩
theorem rsfit_5 (s : ByteArray) (a b c d e : Int) (w : World) (hs : s.size ≤ 4398046511104) (hn : nmS s = true) (g0 : 0 ≤ a) (h0 : a ≤ 1099511627776) (g1 : 0 ≤ b) (h1 : b ≤ 1099511627776) (g2 : 0 ≤ c) (h2 : c ≤ 1099511627776) (g3 : 0 ≤ d) (h3 : d ≤ 1099511627776) (g4 : 0 ≤ e) (h4 : e ≤ 1099511627776) :
    Calls Tryz.prog 40 #[.agg #[.string s, .int .i64 a, .int .i64 b, .int .i64 c, .int .i64 d, .int .i64 e]] w fun z w' => z = .returned (.bool (a + b + c + d == e)) ∧ Below w.heap.size w w' := by
  have HN := Lib.hid (fun w => nrfit_is s true w hs hn)
  have K0 := Lib.hid (fun w => Num.rfit_yes a w g0 h0)
  have K1 := Lib.hid (fun w => Num.rfit_yes b w g1 h1)
  have K2 := Lib.hid (fun w => Num.rfit_yes c w g2 h2)
  have K3 := Lib.hid (fun w => Num.rfit_yes d w g3 h3)
  have K4 := Lib.hid (fun w => Num.rfit_yes e w g4 h4)
  clear hn
  have HB0 := Lib.hid (bx_new w (.string s) (.int .i64 a) (.int .i64 b) (.int .i64 c) (.int .i64 d) (.int .i64 e))
  go_enter Tryz.func40, Tryz.ntmps40
  go_wp2_with fail
  refine (HN.out _).mono ?_
  rintro z w1 ⟨rfl, hb⟩
  have HB := Lib.hid (HB0.out.keep hb)
  clear hb HB0
  obtain ⟨q0, q1, q2, q3, q4, q5⟩ := cells6 HB.out.box
  go_wp2_with fail
  refine (K0.out _).mono ?_
  rintro z w2 ⟨rfl, rfl⟩
  go_wp2_with fail
  refine (K1.out _).mono ?_
  rintro z w2 ⟨rfl, rfl⟩
  go_wp2_with fail
  refine (K2.out _).mono ?_
  rintro z w2 ⟨rfl, rfl⟩
  go_wp2_with fail
  refine (K3.out _).mono ?_
  rintro z w2 ⟨rfl, rfl⟩
  go_wp2_with fail
  refine (K4.out _).mono ?_
  rintro z w2 ⟨rfl, rfl⟩
  go_wp2_with fail
  go_ret
  exact ⟨rfl, HB.out.bel⟩
theorem rsfit_any (x : Sk) (w : World) (hs : x.nm.size ≤ 4398046511104) :
    Calls Tryz.prog 40 #[skV x] w fun z w' => z = .returned (.bool (fitS x)) ∧ Below w.heap.size w w' := by
  obtain ⟨s, a, b, c, d, e⟩ := x
  unfold skV
  dsimp only at hs ⊢
  cases hn : nmS s with
  | false => rw [show fitS ⟨s, a, b, c, d, e⟩ = false from by simp [fitS, hn]]; exact rsfit_name s a b c d e w hs hn
  | true =>
    rcases NumP.amt_cases a with ⟨_, g0, h0⟩ | ⟨m0, hk⟩
    rotate_left
    · rw [show fitS ⟨s, a, b, c, d, e⟩ = false from by simp [fitS, show StockP.amt a = false from m0]]; exact rsfit_0 s a b c d e w hs hn  hk
    rcases NumP.amt_cases b with ⟨_, g1, h1⟩ | ⟨m1, hk⟩
    rotate_left
    · rw [show fitS ⟨s, a, b, c, d, e⟩ = false from by simp [fitS, show StockP.amt b = false from m1]]; exact rsfit_1 s a b c d e w hs hn g0 h0 hk
    rcases NumP.amt_cases c with ⟨_, g2, h2⟩ | ⟨m2, hk⟩
    rotate_left
    · rw [show fitS ⟨s, a, b, c, d, e⟩ = false from by simp [fitS, show StockP.amt c = false from m2]]; exact rsfit_2 s a b c d e w hs hn g0 h0 g1 h1 hk
    rcases NumP.amt_cases d with ⟨_, g3, h3⟩ | ⟨m3, hk⟩
    rotate_left
    · rw [show fitS ⟨s, a, b, c, d, e⟩ = false from by simp [fitS, show StockP.amt d = false from m3]]; exact rsfit_3 s a b c d e w hs hn g0 h0 g1 h1 g2 h2 hk
    rcases NumP.amt_cases e with ⟨_, g4, h4⟩ | ⟨m4, hk⟩
    rotate_left
    · rw [show fitS ⟨s, a, b, c, d, e⟩ = false from by simp [fitS, show StockP.amt e = false from m4]]; exact rsfit_4 s a b c d e w hs hn g0 h0 g1 h1 g2 h2 g3 h3 hk
    rw [show fitS ⟨s, a, b, c, d, e⟩ = (a + b + c + d == e) from by simp [fitS, hn, StockP.amt, g0, h0, g1, h1, g2, h2, g3, h3, g4, h4]]
    exact rsfit_5 s a b c d e w hs hn g0 h0 g1 h1 g2 h2 g3 h3 g4 h4
theorem sum_four {a b c d : Int} (h : NumP.amt a = true ∧ NumP.amt b = true ∧ NumP.amt c = true ∧ NumP.amt d = true) : NumP.sumP [a, b, c, d] = if 1099511627776 < a + b + c + d then (0, 5) else (a + b + c + d, 0) := by
  obtain ⟨h0, h1, h2, h3⟩ := h
  have k0 := NumP.amt_iff.1 h0; have k1 := NumP.amt_iff.1 h1; have k2 := NumP.amt_iff.1 h2; have k3 := NumP.amt_iff.1 h3
  have hall : NumP.allAmt [a, b, c, d] = true := by simp [NumP.allAmt, h0, h1, h2, h3]
  by_cases h : 1099511627776 < a + b + c + d
  · rw [if_pos h]
    refine NumP.sumP_over hall ?_
    simp only [NumP.addUp]
    repeat' split
    all_goals first | rfl | omega
  · rw [if_neg h]
    refine NumP.sumP_yes hall ?_
    simp only [NumP.addUp]
    repeat' split
    all_goals first | (simp only [Option.some.injEq]; omega) | omega
theorem sum4_not {a b c d : Int} (h : ¬ (NumP.amt a = true ∧ NumP.amt b = true ∧ NumP.amt c = true ∧ NumP.amt d = true)) : NumP.sumP [a, b, c, d] = (0, 11) := by
  apply NumP.sumP_no
  cases hh : NumP.allAmt [a, b, c, d] with
  | false => rfl
  | true =>
    simp only [NumP.allAmt, Bool.and_eq_true, Bool.and_true] at hh
    exact absurd ⟨hh.1, hh.2.1, hh.2.2.1, hh.2.2.2⟩ h
theorem sfit_err (s : ByteArray) (a b c d e : Int) (w : World) (hs : s.size ≤ 4398046511104) (er : Int) (her : NumP.sumP [a, b, c, d] = (0, er)) (h0 : er = 11 ∨ er = 5) :
    Calls Tryz.prog 71 #[.agg #[.string s, .int .i64 a, .int .i64 b, .int .i64 c, .int .i64 d, .int .i64 e]] w fun z w' => z = .returned (.bool false) ∧ Below w.heap.size w w' := by
  have HSUM := Lib.hid her
  clear her
  have HB0 := Lib.hid (bx_new w (.string s) (.int .i64 a) (.int .i64 b) (.int .i64 c) (.int .i64 d) (.int .i64 e))
  have HS := Lib.hid (four_behind w s a b c d e)
  go_enter Tryz.func71, Tryz.ntmps71
  go_wp2_with fail
  refine (Num.sum_any _ _ _ [a, b, c, d] _ HS.out).mono ?_
  rintro z w1 ⟨rfl, rfl⟩
  have HB := Lib.hid (HB0.out.alloc (.cells #[.int .i64 a, .int .i64 b, .int .i64 c, .int .i64 d] 3))
  clear HB0
  obtain ⟨q0, q1, q2, q3, q4, q5⟩ := cells6 HB.out.box
  generalize (w.alloc (.cells #[.string s, .int .i64 a, .int .i64 b, .int .i64 c, .int .i64 d, .int .i64 e] 41)).alloc (.cells #[.int .i64 a, .int .i64 b, .int .i64 c, .int .i64 d] 3) = w1 at *
  rw [HSUM.out]
  rcases h0 with rfl | rfl
  · go_wp2_with fail
    go_ret
    exact ⟨rfl, HB.out.bel⟩
  · go_wp2_with fail
    go_ret
    exact ⟨rfl, HB.out.bel⟩
theorem sfit_sum (s : ByteArray) (a b c d e : Int) (w : World) (hs : s.size ≤ 4398046511104) (her : NumP.sumP [a, b, c, d] = (a + b + c + d, 0)) (hne : e ≠ a + b + c + d) :
    Calls Tryz.prog 71 #[.agg #[.string s, .int .i64 a, .int .i64 b, .int .i64 c, .int .i64 d, .int .i64 e]] w fun z w' => z = .returned (.bool false) ∧ Below w.heap.size w w' := by
  have HSUM := Lib.hid her
  have hne2 : (e == a + b + c + d) = false := beq_eq_false_iff_ne.2 hne
  clear her hne
  have HB0 := Lib.hid (bx_new w (.string s) (.int .i64 a) (.int .i64 b) (.int .i64 c) (.int .i64 d) (.int .i64 e))
  have HS := Lib.hid (four_behind w s a b c d e)
  go_enter Tryz.func71, Tryz.ntmps71
  go_wp2_with fail
  refine (Num.sum_any _ _ _ [a, b, c, d] _ HS.out).mono ?_
  rintro z w1 ⟨rfl, rfl⟩
  have HB := Lib.hid (HB0.out.alloc (.cells #[.int .i64 a, .int .i64 b, .int .i64 c, .int .i64 d] 3))
  clear HB0
  obtain ⟨q0, q1, q2, q3, q4, q5⟩ := cells6 HB.out.box
  generalize (w.alloc (.cells #[.string s, .int .i64 a, .int .i64 b, .int .i64 c, .int .i64 d, .int .i64 e] 41)).alloc (.cells #[.int .i64 a, .int .i64 b, .int .i64 c, .int .i64 d] 3) = w1 at *
  rw [HSUM.out]
  generalize a + b + c + d = t at *
  go_wp2_with fail
  go_ret
  exact ⟨rfl, HB.out.bel⟩
theorem sfit_name (s : ByteArray) (a b c d e : Int) (w : World) (hs : s.size ≤ 4398046511104) (v : Bool) (her : NumP.sumP [a, b, c, d] = (a + b + c + d, 0)) (hne : e = a + b + c + d) (hn : nmS s = v) :
    Calls Tryz.prog 71 #[.agg #[.string s, .int .i64 a, .int .i64 b, .int .i64 c, .int .i64 d, .int .i64 e]] w fun z w' => z = .returned (.bool v) ∧ Below w.heap.size w w' := by
  have HSUM := Lib.hid her
  have hne2 : (e == a + b + c + d) = true := beq_iff_eq.2 hne
  have HN := Lib.hid (fun w => nfit_is s v w hs hn)
  clear her hne hn
  have HB0 := Lib.hid (bx_new w (.string s) (.int .i64 a) (.int .i64 b) (.int .i64 c) (.int .i64 d) (.int .i64 e))
  have HS := Lib.hid (four_behind w s a b c d e)
  go_enter Tryz.func71, Tryz.ntmps71
  go_wp2_with fail
  refine (Num.sum_any _ _ _ [a, b, c, d] _ HS.out).mono ?_
  rintro z w1 ⟨rfl, rfl⟩
  have HB := Lib.hid (HB0.out.alloc (.cells #[.int .i64 a, .int .i64 b, .int .i64 c, .int .i64 d] 3))
  clear HB0
  obtain ⟨q0, q1, q2, q3, q4, q5⟩ := cells6 HB.out.box
  generalize (w.alloc (.cells #[.string s, .int .i64 a, .int .i64 b, .int .i64 c, .int .i64 d, .int .i64 e] 41)).alloc (.cells #[.int .i64 a, .int .i64 b, .int .i64 c, .int .i64 d] 3) = w1 at *
  rw [HSUM.out]
  generalize a + b + c + d = t at *
  go_wp2_with fail
  refine (HN.out _).mono ?_
  rintro z w2 ⟨rfl, hb⟩
  have HB2 := Lib.hid (HB.out.keep hb)
  clear hb HB
  go_wp2_with fail
  go_ret
  exact ⟨rfl, HB2.out.bel⟩
theorem sfit_any (x : Sk) (w : World) (hs : x.nm.size ≤ 4398046511104) :
    Calls Tryz.prog 71 #[skV x] w fun z w' => z = .returned (.bool (fitS x)) ∧ Below w.heap.size w w' := by
  obtain ⟨s, a, b, c, d, e⟩ := x
  unfold skV
  dsimp only at hs ⊢
  by_cases h : NumP.amt a = true ∧ NumP.amt b = true ∧ NumP.amt c = true ∧ NumP.amt d = true
  · have hsum := sum_four h
    have k0 := NumP.amt_iff.1 h.1; have k1 := NumP.amt_iff.1 h.2.1; have k2 := NumP.amt_iff.1 h.2.2.1; have k3 := NumP.amt_iff.1 h.2.2.2
    by_cases hm : 1099511627776 < a + b + c + d
    · rw [if_pos hm] at hsum
      rw [show fitS ⟨s, a, b, c, d, e⟩ = false from by
        cases hf : fitS ⟨s, a, b, c, d, e⟩ with
        | false => rfl
        | true => have := fitS_iff.1 hf; have h1 := this.most; have h2 := this.sum; dsimp only at h1 h2; omega]
      exact sfit_err s a b c d e w hs 5 hsum (.inr rfl)
    · rw [if_neg hm] at hsum
      by_cases hne : e = a + b + c + d
      · rw [show fitS ⟨s, a, b, c, d, e⟩ = nmS s from by
          cases hn : nmS s with
          | false => simp [fitS, hn]
          | true => exact fitS_iff.2 ⟨hn, k0.1, k1.1, k2.1, k3.1, by dsimp only; omega, by dsimp only; omega⟩]
        exact sfit_name s a b c d e w hs _ hsum hne rfl
      · rw [show fitS ⟨s, a, b, c, d, e⟩ = false from by
          cases hf : fitS ⟨s, a, b, c, d, e⟩ with
          | false => rfl
          | true => have := (fitS_iff.1 hf).sum; dsimp only at this; omega]
        exact sfit_sum s a b c d e w hs hsum hne
  · rw [show fitS ⟨s, a, b, c, d, e⟩ = false from by
      cases hf : fitS ⟨s, a, b, c, d, e⟩ with
      | false => rfl
      | true =>
        have hh := fitS_iff.1 hf
        have u := hh.up
        have v1 := hh.hand; have v2 := hh.held; have v3 := hh.kept; have v4 := hh.sent
        dsimp only at u v1 v2 v3 v4
        exact absurd ⟨NumP.amt_yes v1 u.1, NumP.amt_yes v2 u.2.1, NumP.amt_yes v3 u.2.2.1, NumP.amt_yes v4 u.2.2.2.1⟩ h]
    exact sfit_err s a b c d e w hs 11 (sum4_not h) (.inl rfl)
end Go.Proofs.YtjclkiabgemfpaaGreat
