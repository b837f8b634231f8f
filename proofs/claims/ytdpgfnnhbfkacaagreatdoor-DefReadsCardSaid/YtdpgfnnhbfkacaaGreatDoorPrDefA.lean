/-
  Steps as elements of a slice; definitions in memory; results in cells; rows of steps compared.
-/
import Derived.Test.YtdpgfnnhbfkacaaGreatDoorPrDefPlain
import Derived.Test.YtdpgfnnhbfkacaaGreatDoorPrKt6
import Derived.Test.YtdpgfnnhbfkacaaGreatDoorPrRw
import Derived.Test.YtdpgfnnhbfkacaaGreatDoorPrStepA
import Derived.Test.YtdpgfnnhbfkacaaGreatDoorPrKt2
import Derived.Lib.QuietBelow
set_option linter.unusedVariables false
set_option linter.unusedSimpArgs false
set_option maxRecDepth 4000
namespace Go.Proofs.YtdpgfnnhbfkacaaGreatDoor.Def
open Go.RowKit DefP
open Go.Proofs.YtdpgfnnhbfkacaaGreatDoor.Kt
def scell (t : Step) : List Value := [.int .i64 t.op, .int .i64 t.cls, .int .i64 t.tries, .int .i64 t.base, .int .i64 t.cap, .int .i64 t.wait]
def stS : Rw.Sh Step where
  c := scell
  z := StP.st0
  zv := .agg #[.int .i64 0, .int .i64 0, .int .i64 0, .int .i64 0, .int .i64 0, .int .i64 0]
  ts := 22
  te := 49
  k := 6
  bytes := 48
  pos := by decide
  small := by decide
  len := fun t => rfl
  one := fun t u hu => by
    simp only [scell, List.mem_cons, List.mem_nil_iff, or_false] at hu
    rcases hu with rfl | rfl | rfl | rfl | rfl | rfl <;> rfl
  zcells := rfl
  und := Tryz.underlying22
  info := by kernel_rfl
abbrev StAt (w : World) (a : Option Addr) (len : Nat) (l : List Step) : Prop := Rw.At stS w a len l
theorem StAt.at {w : World} {a : Option Addr} {len : Nat} {l : List Step} (h : StAt w a len l) {i : Nat} (hi : i < len) :
    ∃ b off x0 x1 x2 x3 x4 x5, a = some ⟨b, off, none⟩ ∧ b < w.heap.size ∧ l[i]? = some ⟨x0, x1, x2, x3, x4, x5⟩ ∧ ∀ w', Below w.heap.size w w' →
      w'.cell? ⟨b, off + i * 6, none⟩ = some (.int .i64 x0) ∧ w'.cell? ⟨b, off + i * 6 + 1, none⟩ = some (.int .i64 x1) ∧ w'.cell? ⟨b, off + i * 6 + 2, none⟩ = some (.int .i64 x2) ∧ w'.cell? ⟨b, off + i * 6 + 3, none⟩ = some (.int .i64 x3) ∧ w'.cell? ⟨b, off + i * 6 + 4, none⟩ = some (.int .i64 x4) ∧ w'.cell? ⟨b, off + i * 6 + 5, none⟩ = some (.int .i64 x5) := by
  obtain ⟨b, off, e, hlt, _, hc⟩ := Rw.At.at h hi rfl
  refine ⟨b, off, (l.getD i StP.st0).op, (l.getD i StP.st0).cls, (l.getD i StP.st0).tries, (l.getD i StP.st0).base, (l.getD i StP.st0).cap, (l.getD i StP.st0).wait, e, hlt, Rw.getD_some (by rw [h.1]; exact hi) rfl, fun w' hb => ⟨?_, ?_, ?_, ?_, ?_, ?_⟩⟩
  · exact hc w' hb 0 _ rfl
  · exact hc w' hb 1 _ rfl
  · exact hc w' hb 2 _ rfl
  · exact hc w' hb 3 _ rfl
  · exact hc w' hb 4 _ rfl
  · exact hc w' hb 5 _ rfl
theorem at_len {w : World} {a : Option Addr} {len : Nat} {l : List Step} (h : StAt w a len l) {i : Nat} (hi : ¬ i < len) : l.length ≤ i := by rw [h.1]; omega
abbrev dv (s : ByteArray) (a : Option Addr) (n c : Nat) : Value := .agg #[.string s, .slice a n c]
theorem results_df {fn : Func} {j k : Nat} (h : fn.results = #[.cell j 24, .tmp k]) (tmps : Array Value) (w : World) (b : Nat) (v0 v1 : Value) (hp : tmps.getD j undef = .pointer (some ⟨b, 0, none⟩))
    (c : At2 24 w b v0 v1) : (results fn tmps).run Tryz.prog w = .ok (.tuple #[.agg #[v0, v1], tmps.getD k undef]) w := by
  have hp' : tmps[j]?.getD undef = .pointer (some ⟨b, 0, none⟩) := by rw [← hp]; simp
  obtain ⟨c0, c1⟩ := cells2 c
  simp only [results, h]
  go_simp
theorem results_df1 {fn : Func} {j : Nat} (h : fn.results = #[.cell j 24]) (tmps : Array Value) (w : World) (b : Nat) (v0 v1 : Value) (hp : tmps.getD j undef = .pointer (some ⟨b, 0, none⟩))
    (c : At2 24 w b v0 v1) : (results fn tmps).run Tryz.prog w = .ok (.agg #[v0, v1]) w := by
  have hp' : tmps[j]?.getD undef = .pointer (some ⟨b, 0, none⟩) := by rw [← hp]; simp
  obtain ⟨c0, c1⟩ := cells2 c
  simp only [results, h]
  go_simp
def DfR (w : World) (d : Df) (er : Int) (e : Ending) (w' : World) : Prop :=
  ∃ a c, e = .returned (.tuple #[dv d.name a d.steps.length c, .int .i64 er]) ∧ d.steps.length ≤ c ∧ StAt w' a d.steps.length d.steps ∧ Below w.heap.size w w'
theorem DfR.at {w w' : World} {d : Df} {s : ByteArray} {l : List Step} {n : Nat} {er : Int} {e : Ending} (h : DfR w d er e w') (hd : d = ⟨s, l⟩) (hn : l.length = n) : ∃ a c, e = .returned (.tuple #[dv s a n c, .int .i64 er]) ∧ n ≤ c ∧ StAt w' a n l ∧ Below w.heap.size w w' := by
  subst hd; subst hn; exact h
theorem dfR_of {w w' : World} {d : Df} {s : ByteArray} {l : List Step} {n : Nat} {er : Int} {a : Option Addr} {c : Nat} (hd : d = ⟨s, l⟩) (hn : l.length = n) (hc : n ≤ c) (ha : StAt w' a n l) (hb : Below w.heap.size w w') : DfR w d er (.returned (.tuple #[dv s a n c, .int .i64 er])) w' := by
  subst hd; subst hn; exact ⟨a, c, rfl, hc, ha, hb⟩
theorem dfR_none {w w' : World} {d : Df} {er : Int} (hd : d = df0) (hb : Below w.heap.size w w') : DfR w d er (.returned (.tuple #[dv ⟨#[]⟩ none 0 0, .int .i64 er])) w' := by
  subst hd; exact ⟨none, 0, rfl, Nat.le_refl _, Rw.At.nil _ _ _, hb⟩
/-! ### rows of steps compared -/
def eqSs : List Step → List Step → Bool
  | [], [] => true
  | a :: r, b :: q => StP.eqS a b && eqSs r q
  | _, _ => false
theorem eqS_iff {a b : Step} : StP.eqS a b = true ↔ a = b := by
  obtain ⟨a0, a1, a2, a3, a4, a5⟩ := a
  obtain ⟨b0, b1, b2, b3, b4, b5⟩ := b
  unfold StP.eqS
  simp only [Bool.and_eq_true, beq_iff_eq, StP.St.mk.injEq]
theorem eqSs_iff : ∀ {a b : List Step}, eqSs a b = true ↔ a = b
  | [], [] => by simp [eqSs]
  | [], b :: q => by simp [eqSs]
  | a :: r, [] => by simp [eqSs]
  | a :: r, b :: q => by rw [eqSs, Bool.and_eq_true, eqS_iff, eqSs_iff, List.cons.injEq]
theorem eqSs_len {a b : List Step} (h : a.length ≠ b.length) : eqSs a b = false := by
  cases he : eqSs a b with
  | false => rfl
  | true => exact absurd (congrArg List.length (eqSs_iff.1 he)) h
theorem drop_get {l : List Step} {k : Nat} {x : Step} (h : l[k]? = some x) : l.drop k = x :: l.drop (k + 1) := by
  obtain ⟨hk, e⟩ := List.getElem?_eq_some_iff.1 h
  rw [List.drop_eq_getElem_cons hk, e]
theorem eqSs_end {a b : List Step} {k : Nat} (h1 : a.length ≤ k) (h2 : b.length ≤ k) : eqSs (a.drop k) (b.drop k) = true := by
  rw [List.drop_eq_nil_of_le h1, List.drop_eq_nil_of_le h2]; rfl
theorem eqSs_no {a b : List Step} {k : Nat} {x y : Step} (hx : a[k]? = some x) (hy : b[k]? = some y) (h : StP.eqS x y = false) : eqSs (a.drop k) (b.drop k) = false := by
  rw [drop_get hx, drop_get hy, eqSs, h]; rfl
theorem eqSs_go {a b : List Step} {k : Nat} {x y : Step} (hx : a[k]? = some x) (hy : b[k]? = some y) (h : StP.eqS x y = true) : eqSs (a.drop k) (b.drop k) = eqSs (a.drop (k + 1)) (b.drop (k + 1)) := by
  rw [drop_get hx, drop_get hy, eqSs, h]; rfl
def eqD (a b : Df) : Bool := a.name.data.toList == b.name.data.toList && eqSs a.steps b.steps
theorem eqD_self (a : Df) : eqD a a = true := by unfold eqD; rw [eqSs_iff.2 rfl]; simp

end Go.Proofs.YtdpgfnnhbfkacaaGreatDoor.Def

/-
  The contracts of Place and Pivot, both (the program's: IndexFunc over a closure): any definition; what was there stays as it was.
-/
set_option linter.unusedVariables false
set_option linter.unusedSimpArgs false
set_option maxRecDepth 4000
namespace Go.Proofs.YtdpgfnnhbfkacaaGreatDoor.Def
open Go.RowKit DefP
open Go.Proofs.YtdpgfnnhbfkacaaGreatDoor.Kt
theorem hmf (fn : Fn) (first cap : Array Value) (w : World) : (Instr.makeFunc fn first cap).run Tryz.prog w = .ok (.func fn first cap) w := rfl
theorem place1_any (x0 x1 x2 x3 x4 x5 : Int) (g : Int) (bk : Nat) (w : World) (hc : w.cell? ⟨bk, 0, none⟩ = some (.int .i64 g)) (hlt : bk < w.heap.size) (b : Bool) (hb : (x0 == g) = b) :
    Calls Tryz.prog 53 #[.agg #[.int .i64 x0, .int .i64 x1, .int .i64 x2, .int .i64 x3, .int .i64 x4, .int .i64 x5], .pointer (some ⟨bk, 0, none⟩)] w fun e w' => e = .returned (.bool b) ∧ Below w.heap.size w w' := by
  have HB := Lib.hid (bx6_new 49 w (.int .i64 x0) (.int .i64 x1) (.int .i64 x2) (.int .i64 x3) (.int .i64 x4) (.int .i64 x5))
  have hc2 : (w.alloc (.cells #[.int .i64 x0, .int .i64 x1, .int .i64 x2, .int .i64 x3, .int .i64 x4, .int .i64 x5] 49)).cell? ⟨bk, 0, none⟩ = some (.int .i64 g) := (HB.out.bel.cell (p := ⟨bk, 0, none⟩) hlt).trans hc
  obtain ⟨q0, q1, q2, q3, q4, q5⟩ := cells6 HB.out.box
  have HV := Lib.hid hb
  go_enter Tryz.func53, Tryz.ntmps53
  go_wp2_with fail
  go_ret
  exact ⟨rfl, HB.out.bel⟩
theorem pivot1_any (x0 x1 x2 x3 x4 x5 : Int) (w : World) (b : Bool) (hb : (x1 == 2) = b) :
    Calls Tryz.prog 54 #[.agg #[.int .i64 x0, .int .i64 x1, .int .i64 x2, .int .i64 x3, .int .i64 x4, .int .i64 x5]] w fun e w' => e = .returned (.bool b) ∧ Below w.heap.size w w' := by
  have HB := Lib.hid (bx6_new 49 w (.int .i64 x0) (.int .i64 x1) (.int .i64 x2) (.int .i64 x3) (.int .i64 x4) (.int .i64 x5))
  obtain ⟨q0, q1, q2, q3, q4, q5⟩ := cells6 HB.out.box
  have HV := Lib.hid hb
  go_enter Tryz.func54, Tryz.ntmps54
  go_wp2_with fail
  go_ret
  exact ⟨rfl, HB.out.bel⟩

set_option maxHeartbeats 1000000 in
theorem indexP_any (a : Option Addr) (len cap : Nat) (l : List Step) (g : Int) (bk : Nat) (v : Int) (hv : placeUp g 0 l = v) (w : World) (h : StAt w a len l) (hc : w.cell? ⟨bk, 0, none⟩ = some (.int .i64 g)) (hlt : bk < w.heap.size) :
    Calls Tryz.prog 52 #[.slice a len cap, .func (.func 53) #[] #[.pointer (some ⟨bk, 0, none⟩)]] w fun e w' => e = .returned (.int .i64 v) ∧ Below w.heap.size w w' := by
  have hl := h.2.1
  have HX := Lib.hid h
  have HV : Hid (v = placeUp g 0 (l.drop 0)) := hv.symm
  have HC := Lib.hid (fun W (hb : Below w.heap.size w W) => (hb.cell (p := ⟨bk, 0, none⟩) hlt).trans hc)
  have HLT := Lib.hid hlt
  clear hc hlt
  clear h hv
  go_enter Tryz.func52, Tryz.ntmps52
  go_wp2_with fail
  go_loopw [8] (fun i wr => ∃ k : Nat, k ≤ len ∧ i = .int .i64 (k : Int) ∧ Hid (v = placeUp g k (l.drop k)) ∧ Hid (Below w.heap.size w wr)) (fun i _ => len - (intOf i).toNat)
  case atStart => exact ⟨0, Nat.zero_le _, rfl, HV, Below.refl _ w⟩
  case round =>
    obtain ⟨k, hk, rfl, hd, hB⟩ := hrel
    by_cases hlk : k < len
    · obtain ⟨b1, o1, x0, x1, x2, x3, x4, x5, rfl, g1, hp, hc1⟩ := StAt.at HX.out hlk
      obtain ⟨d0, d1, d2, d3, d4, d5⟩ := hc1 wr hB.out
      have hlt2 : bk < wr.heap.size := Nat.lt_of_lt_of_le HLT.out hB.out.size
      by_cases heq : x0 = g
      · skip
        have HD : Hid (v = (k : Int)) := hd.out.trans (place_hit hp heq)
        have C := Lib.hid (place1_any x0 x1 x2 x3 x4 x5 g bk wr (HC.out wr hB.out) hlt2 true (by simpa using heq))
        clear hp hd hc1 heq hlt2
        go_wp2_with fail
        refine C.out.mono ?_
        rintro e w1 ⟨rfl, hb⟩
        have HB1 := Lib.hid (below_keep hB.out hb hB.out.size)
        go_wp2_with fail
        go_ret
        exact ⟨ret_int HD.out, HB1.out⟩
      · skip
        have HD := Lib.hid (hd.out.trans (place_miss hp heq))
        have C := Lib.hid (place1_any x0 x1 x2 x3 x4 x5 g bk wr (HC.out wr hB.out) hlt2 false (by simpa using heq))
        clear hp hd hc1 heq hlt2
        go_wp2_with fail
        refine C.out.mono ?_
        rintro e w1 ⟨rfl, hb⟩
        have HB1 := Lib.hid (below_keep hB.out hb hB.out.size)
        go_wp2_with fail
        go_roundw
        case rel => exact ⟨k + 1, by omega, by go_num, HD, HB1⟩
        case measure => simp [intOf]; omega
    · obtain rfl : k = len := by omega
      have HD : Hid (v = -1) := hd.out.trans (place_end (at_len HX.out hlk))
      clear hd
      go_wp2_with fail
      go_ret
      exact ⟨ret_int HD.out, hB.out⟩

set_option maxHeartbeats 1000000 in
theorem indexV_any (a : Option Addr) (len cap : Nat) (l : List Step)  (v : Int) (hv : pivUp 0 l = v) (w : World) (h : StAt w a len l) :
    Calls Tryz.prog 52 #[.slice a len cap, .func (.func 54) #[] #[]] w fun e w' => e = .returned (.int .i64 v) ∧ Below w.heap.size w w' := by
  have hl := h.2.1
  have HX := Lib.hid h
  have HV : Hid (v = pivUp 0 (l.drop 0)) := hv.symm
  clear h hv
  go_enter Tryz.func52, Tryz.ntmps52
  go_wp2_with fail
  go_loopw [8] (fun i wr => ∃ k : Nat, k ≤ len ∧ i = .int .i64 (k : Int) ∧ Hid (v = pivUp k (l.drop k)) ∧ Hid (Below w.heap.size w wr)) (fun i _ => len - (intOf i).toNat)
  case atStart => exact ⟨0, Nat.zero_le _, rfl, HV, Below.refl _ w⟩
  case round =>
    obtain ⟨k, hk, rfl, hd, hB⟩ := hrel
    by_cases hlk : k < len
    · obtain ⟨b1, o1, x0, x1, x2, x3, x4, x5, rfl, g1, hp, hc1⟩ := StAt.at HX.out hlk
      obtain ⟨d0, d1, d2, d3, d4, d5⟩ := hc1 wr hB.out
      by_cases heq : x1 = 2
      · skip
        have HD : Hid (v = (k : Int)) := hd.out.trans (piv_hit hp heq)
        have C := Lib.hid (pivot1_any x0 x1 x2 x3 x4 x5 wr true (by simpa using heq))
        clear hp hd hc1 heq
        go_wp2_with fail
        refine C.out.mono ?_
        rintro e w1 ⟨rfl, hb⟩
        have HB1 := Lib.hid (below_keep hB.out hb hB.out.size)
        go_wp2_with fail
        go_ret
        exact ⟨ret_int HD.out, HB1.out⟩
      · skip
        have HD := Lib.hid (hd.out.trans (piv_miss hp heq))
        have C := Lib.hid (pivot1_any x0 x1 x2 x3 x4 x5 wr false (by simpa using heq))
        clear hp hd hc1 heq
        go_wp2_with fail
        refine C.out.mono ?_
        rintro e w1 ⟨rfl, hb⟩
        have HB1 := Lib.hid (below_keep hB.out hb hB.out.size)
        go_wp2_with fail
        go_roundw
        case rel => exact ⟨k + 1, by omega, by go_num, HD, HB1⟩
        case measure => simp [intOf]; omega
    · obtain rfl : k = len := by omega
      have HD : Hid (v = -1) := hd.out.trans (piv_end (at_len HX.out hlk))
      clear hd
      go_wp2_with fail
      go_ret
      exact ⟨ret_int HD.out, hB.out⟩

theorem place_is (s : ByteArray) (a : Option Addr) (n c : Nat) (l : List Step) (g : Int) (v : Int) (hv : placeL l g = v) (w : World) (h : StAt w a n l) :
    Calls Tryz.prog 10 #[.agg #[.string s, .slice a n c], .int .i64 g] w fun e w' => e = .returned (.int .i64 v) ∧ Below w.heap.size w w' := by
  have hf := hmf
  have h0 : Hid (Below w.heap.size w ((w.alloc (.cells #[.string s, .slice a n c] 24)).alloc (.cells #[.int .i64 g] 3))) := ((Below.refl _ w).alloc (Nat.le_refl _) _).alloc (by rw [World.size_alloc]; omega) _
  have h1 : At2 24 ((w.alloc (.cells #[.string s, .slice a n c] 24)).alloc (.cells #[.int .i64 g] 3)) w.heap.size (.string s) (.slice a n c) := (at2_new 24 w (.string s) (.slice a n c)).alloc _
  have h2 : ((w.alloc (.cells #[.string s, .slice a n c] 24)).alloc (.cells #[.int .i64 g] 3)).cell? ⟨w.heap.size + 1, 0, none⟩ = some (.int .i64 g) := by
    have := World.cell?_alloc_new (w.alloc (.cells #[.string s, .slice a n c] 24)) #[.int .i64 g] 3 0
    rw [World.size_alloc] at this
    rw [this]; rfl
  have h3 : ((w.alloc (.cells #[.string s, .slice a n c] 24)).alloc (.cells #[.int .i64 g] 3)).heap.size = w.heap.size + 2 := by simp
  obtain ⟨q0, q1⟩ := cells2 h1
  obtain ⟨w1, hw1⟩ : ∃ w1, (w.alloc (.cells #[.string s, .slice a n c] 24)).alloc (.cells #[.int .i64 g] 3) = w1 := ⟨_, rfl⟩
  rw [hw1] at h0 h2 h3
  have HW := Lib.hid hw1
  have C := Lib.hid (indexP_any a n c l g (w.heap.size + 1) v hv w1 (Rw.At.keep h h0.out) h2 (by omega))
  clear h hw1 h1 h2 h3 hv
  go_enter Tryz.func10, Tryz.ntmps10
  go_wp2_with fail
  rw [show (w.alloc (.cells #[.string s, .slice a n c] 24)).alloc (.cells #[.int .i64 g] 3) = w1 from HW.out]
  refine C.out.mono ?_
  rintro e w2 ⟨rfl, hb⟩
  have HB2 := Lib.hid (below_keep h0.out hb h0.out.size)
  clear hb
  go_wp2_with fail
  go_ret
  exact ⟨rfl, HB2.out⟩

theorem pivot_is (s : ByteArray) (a : Option Addr) (n c : Nat) (l : List Step) (v : Int) (hv : pivL l = v) (w : World) (h : StAt w a n l) :
    Calls Tryz.prog 12 #[.agg #[.string s, .slice a n c]] w fun e w' => e = .returned (.int .i64 v) ∧ Below w.heap.size w w' := by
  have HB := Lib.hid (bx2_new 24 w (.string s) (.slice a n c))
  obtain ⟨q0, q1⟩ := cells2 HB.out.box
  have C := Lib.hid (indexV_any a n c l v hv (w.alloc (.cells #[.string s, .slice a n c] 24)) (Rw.At.keep h HB.out.bel))
  clear h hv
  go_enter Tryz.func12, Tryz.ntmps12
  go_wp2_with fail
  refine C.out.mono ?_
  rintro e w2 ⟨rfl, hb⟩
  have HB2 := Lib.hid (HB.out.keep hb)
  clear hb
  go_wp2_with fail
  go_ret
  exact ⟨rfl, HB2.out.bel⟩

/-! ### the document's -/
set_option maxHeartbeats 1000000 in
theorem rplace_is (s : ByteArray) (a : Option Addr) (n c : Nat) (l : List Step) (g : Int) (v : Int) (hv : placeUp g 0 l = v) (w : World) (h : StAt w a n l) :
    Calls Tryz.prog 11 #[.agg #[.string s, .slice a n c], .int .i64 g] w fun e w' => e = .returned (.int .i64 v) ∧ Below w.heap.size w w' := by
  have hl := h.2.1
  have HX := Lib.hid h
  have HV : Hid (v = placeUp g 0 (l.drop 0)) := hv.symm
  have HB0 := Lib.hid (bx2_new 24 w (.string s) (.slice a n c))
  clear h hv
  go_enter Tryz.func11, Tryz.ntmps11
  go_wp2_with fail
  go_loopw [5] (fun i wr => ∃ k : Nat, k ≤ n ∧ i = .int .i64 (k : Int) ∧ Hid (v = placeUp g k (l.drop k)) ∧ Hid (Bx2 24 w wr (.string s) (.slice a n c))) (fun i _ => n - (intOf i).toNat)
  case atStart => exact ⟨0, Nat.zero_le _, rfl, HV, HB0⟩
  case round =>
    obtain ⟨k, hk, rfl, hd, hB⟩ := hrel
    obtain ⟨q0, q1⟩ := cells2 hB.out.box
    by_cases hlk : k < n
    · obtain ⟨b1, o1, x0, x1, x2, x3, x4, x5, rfl, g1, hp, hc1⟩ := StAt.at HX.out hlk
      obtain ⟨d0, d1, d2, d3, d4, d5⟩ := hc1 wr hB.out.bel
      by_cases heq : x0 = g
      · have HD : Hid (v = (k : Int)) := hd.out.trans (place_hit hp heq)
        have e1 : (x0 == g) = true := beq_iff_eq.2 heq
        clear hp hd hc1 heq
        go_wp2_with fail
        go_ret
        exact ⟨ret_int HD.out, hB.out.bel⟩
      · have HD := Lib.hid (hd.out.trans (place_miss hp heq))
        have e1 : (x0 == g) = false := beq_eq_false_iff_ne.2 heq
        clear hp hd hc1 heq
        go_wp2_with fail
        go_roundw
        case rel => exact ⟨k + 1, by omega, by go_num, HD, hB⟩
        case measure => simp [intOf]; omega
    · obtain rfl : k = n := by omega
      have HD : Hid (v = -1) := hd.out.trans (place_end (at_len HX.out hlk))
      clear hd
      go_wp2_with fail
      go_ret
      exact ⟨ret_int HD.out, hB.out.bel⟩

end Go.Proofs.YtdpgfnnhbfkacaaGreatDoor.Def

/-
  The contracts of what the program's Fit calls: many, byClass and IsSortedFunc over it, shipped, captured, each over its two closures: any definition; what was there stays as it was.
-/
set_option linter.unusedVariables false
set_option linter.unusedSimpArgs false
set_option maxRecDepth 4000
namespace Go.Proofs.YtdpgfnnhbfkacaaGreatDoor.Def
open Go.RowKit DefP
open Go.Proofs.YtdpgfnnhbfkacaaGreatDoor.Kt
theorem cnan_any (n : Int) (w : World) : Calls Tryz.prog 113 #[.int .i64 n] w fun e w' => e = .returned (.bool false) ∧ w = w' := by
  have hn : (n != n) = false := by simp
  go_enter Tryz.func113, Tryz.ntmps113
  go_wp2_with fail
  go_ret
  exact ⟨rfl, rfl⟩
def cmpI (a b : Int) : Int := if a < b then -1 else if b < a then 1 else 0
theorem cmpI_lt {a b : Int} : cmpI a b < 0 ↔ a < b := by unfold cmpI; split <;> (try split) <;> omega
theorem compare_any (a b : Int) (v : Int) (hv : cmpI a b = v) (w : World) : Calls Tryz.prog 84 #[.int .i64 a, .int .i64 b] w fun e w' => e = .returned (.int .i64 v) ∧ w = w' := by
  have K1 := Lib.hid (cnan_any a)
  have K2 := Lib.hid (cnan_any b)
  have HV := Lib.hid hv
  clear hv
  by_cases h1 : a < b
  · have HR : Hid (v = -1) := by show _ = _; rw [← HV.out, cmpI, if_pos h1]
    have e1 : decide (a < b) = true := decide_eq_true h1
    go_enter Tryz.func84, Tryz.ntmps84
    go_wp2_with fail
    refine (K1.out _).mono ?_
    rintro e w1 ⟨rfl, rfl⟩
    go_wp2_with fail
    refine (K2.out _).mono ?_
    rintro e w1 ⟨rfl, rfl⟩
    go_wp2_with fail
    go_ret
    exact ⟨ret_int HR.out, rfl⟩
  · by_cases h2 : b < a
    · have HR : Hid (v = 1) := by show _ = _; rw [← HV.out, cmpI, if_neg h1, if_pos h2]
      go_enter Tryz.func84, Tryz.ntmps84
      go_wp2_with fail
      refine (K1.out _).mono ?_
      rintro e w1 ⟨rfl, rfl⟩
      go_wp2_with fail
      refine (K2.out _).mono ?_
      rintro e w1 ⟨rfl, rfl⟩
      go_wp2_with fail
      go_ret
      exact ⟨ret_int HR.out, rfl⟩
    · have HR : Hid (v = 0) := by show _ = _; rw [← HV.out, cmpI, if_neg h1, if_neg h2]
      go_enter Tryz.func84, Tryz.ntmps84
      go_wp2_with fail
      refine (K1.out _).mono ?_
      rintro e w1 ⟨rfl, rfl⟩
      go_wp2_with fail
      refine (K2.out _).mono ?_
      rintro e w1 ⟨rfl, rfl⟩
      go_wp2_with fail
      go_ret
      exact ⟨ret_int HR.out, rfl⟩

theorem byclass_any (x0 x1 x2 x3 x4 x5 : Int) (y0 y1 y2 y3 y4 y5 : Int) (v : Int) (hv : cmpI x1 y1 = v) (w : World) :
    Calls Tryz.prog 41 #[.agg #[.int .i64 x0, .int .i64 x1, .int .i64 x2, .int .i64 x3, .int .i64 x4, .int .i64 x5], .agg #[.int .i64 y0, .int .i64 y1, .int .i64 y2, .int .i64 y3, .int .i64 y4, .int .i64 y5]] w fun e w' => e = .returned (.int .i64 v) ∧ Below w.heap.size w w' := by
  have C := Lib.hid (compare_any x1 y1 v hv)
  have hA := (at6_new 49 w (.int .i64 x0) (.int .i64 x1) (.int .i64 x2) (.int .i64 x3) (.int .i64 x4) (.int .i64 x5)).alloc (.cells #[.int .i64 y0, .int .i64 y1, .int .i64 y2, .int .i64 y3, .int .i64 y4, .int .i64 y5] 49)
  have hB := at6_new 49 (w.alloc (.cells #[.int .i64 x0, .int .i64 x1, .int .i64 x2, .int .i64 x3, .int .i64 x4, .int .i64 x5] 49)) (.int .i64 y0) (.int .i64 y1) (.int .i64 y2) (.int .i64 y3) (.int .i64 y4) (.int .i64 y5)
  rw [World.size_alloc] at hB
  have HB := Lib.hid (((Below.refl _ w).alloc (Nat.le_refl _) (.cells #[.int .i64 x0, .int .i64 x1, .int .i64 x2, .int .i64 x3, .int .i64 x4, .int .i64 x5] 49)).alloc (by rw [World.size_alloc]; omega) (.cells #[.int .i64 y0, .int .i64 y1, .int .i64 y2, .int .i64 y3, .int .i64 y4, .int .i64 y5] 49))
  obtain ⟨d0, d1, d2, d3, d4, d5⟩ := cells6 hA
  obtain ⟨q0, q1, q2, q3, q4, q5⟩ := cells6 hB
  clear hA hB hv
  go_enter Tryz.func41, Tryz.ntmps41
  go_wp2_with fail
  refine (C.out _).mono ?_
  rintro e w1 ⟨rfl, rfl⟩
  go_wp2_with fail
  go_ret
  exact ⟨rfl, HB.out⟩
set_option maxHeartbeats 4000000 in
theorem sorted_any (a : Option Addr) (n c : Nat) (l : List Step) (v : Bool) (hv : sortR l (n - 1) = v) (w : World) (h : StAt w a n l) :
    Calls Tryz.prog 40 #[.slice a n c, .func (.func 41) #[] #[]] w fun e w' => e = .returned (.bool v) ∧ Below w.heap.size w w' := by
  have hl := h.2.1
  have HX := Lib.hid h
  by_cases hn : n = 0
  · subst hn
    have HV : Hid (v = true) := hv.symm
    clear h hv
    go_enter Tryz.func40, Tryz.ntmps40
    go_wp2_with fail
    go_loopw [5] (fun i wr => i = .int .i64 (-1) ∧ wr = w) (fun i _ => 0)
    case atStart => exact ⟨rfl, rfl⟩
    case round =>
      obtain ⟨rfl, rfl⟩ := hrel
      go_wp2_with fail
      go_ret
      exact ⟨ret_bool HV.out, Below.refl _ _⟩
  have HV : Hid (v = sortR l (n - 1)) := hv.symm
  clear h hv
  go_enter Tryz.func40, Tryz.ntmps40
  go_wp2_with fail
  go_loopw [5] (fun i wr => ∃ k : Nat, k < n ∧ i = .int .i64 (k : Int) ∧ Hid (v = sortR l k) ∧ Hid (Below w.heap.size w wr)) (fun i _ => (intOf i).toNat)
  case atStart => exact ⟨n - 1, by omega, by go_num, HV, Below.refl _ w⟩
  case round =>
    obtain ⟨k, hk, rfl, hd, hB⟩ := hrel
    match k, hk, hd with
    | 0, hk, hd =>
      have HD : Hid (v = true) := hd.out
      clear hd
      go_wp2_with fail
      go_ret
      exact ⟨ret_bool HD.out, hB.out⟩
    | k + 1, hk, hd =>
      obtain ⟨b1, o1, x0, x1, x2, x3, x4, x5, ea, g1, hp, hc1⟩ := StAt.at HX.out (show k < n by omega)
      obtain ⟨b2, o2, y0, y1, y2, y3, y4, y5, ea2, g2, hq, hc2⟩ := StAt.at HX.out hk
      subst ea
      obtain ⟨rfl, rfl⟩ : b1 = b2 ∧ o1 = o2 := by simp at ea2; exact ea2
      obtain ⟨q, hqk⟩ : ∃ q, k + 1 = q := ⟨_, rfl⟩
      rw [hqk] at hd hk hc2 ⊢
      have hq0 : (0 : Int) < (q : Int) := by omega
      have hi0 : (0 : Int) ≤ (q : Int) := by omega
      have hi1 : (q : Int) < (n : Int) := by omega
      have hqm : IntKind.i64.wrap ((q : Int) - 1) = (k : Int) := by rw [IntKind.wrap_i64]; omega
      have hj0 : (0 : Int) ≤ (k : Int) := by omega
      have hj1 : (k : Int) < (n : Int) := by omega
      obtain ⟨d0, d1, d2, d3, d4, d5⟩ := hc1 wr hB.out
      obtain ⟨e0, e1, e2, e3, e4, e5⟩ := hc2 wr hB.out
      clear hc1 hc2 g1 g2 ea2
      obtain ⟨r, hr⟩ : ∃ r, cmpI y1 x1 = r := ⟨_, rfl⟩
      have CB := Lib.hid (fun d os => Calls.regrown_of (byclass_any y0 y1 y2 y3 y4 y5 x0 x1 x2 x3 x4 x5 r hr (Sort.grow (redrawn wr d) os)))
      have r0 := fun d os => cell_regrown d0 d os
      have r1 := fun d os => cell_regrown d1 d os
      have r2 := fun d os => cell_regrown d2 d os
      have r3 := fun d os => cell_regrown d3 d os
      have r4 := fun d os => cell_regrown d4 d os
      have r5 := fun d os => cell_regrown d5 d os
      have t0 := fun d os => cell_regrown e0 d os
      have t1 := fun d os => cell_regrown e1 d os
      have t2 := fun d os => cell_regrown e2 d os
      have t3 := fun d os => cell_regrown e3 d os
      have t4 := fun d os => cell_regrown e4 d os
      have t5 := fun d os => cell_regrown e5 d os
      clear d0 d1 d2 d3 d4 d5 e0 e1 e2 e3 e4 e5
      by_cases hlt : y1 < x1
      · have HD : Hid (v = false) := hd.out.trans (by rw [← hqk]; exact sort_no hp hq hlt)
        have hr0 : (decide (r < 0)) = true := by rw [← hr]; exact decide_eq_true (cmpI_lt.2 hlt)
        clear hd hp hq hr hlt
        go_wp2_with fail
        refine wp_region_qw (by kernel_rfl) (by kernel_rfl) ?_
        iterate 12 (refine qw_take (by kernel_rfl) (fun K hK => ?_); go_simp; first | (refine hK _ ?_; clear hK K) | (apply Exists.intro; refine ⟨fun _ => ?_, hK _ ?_⟩; (first | with_reducible exact CB.out _ _); clear hK K))
        refine qw_nil ?_
        intro _ hw'
        obtain ⟨⟨dq, osq⟩, hw''⟩ := hw'
        subst hw''
        have HB1 := Lib.hid (below_keep hB.out (below_regrown wr dq osq) hB.out.size)
        go_wp2_with fail
        go_ret
        exact ⟨ret_bool HD.out, HB1.out⟩
      · have HD : Hid (v = sortR l k) := hd.out.trans (by rw [← hqk]; exact sort_go hp hq hlt)
        have hr0 : (decide (r < 0)) = false := by rw [← hr]; exact decide_eq_false (fun hh => hlt (cmpI_lt.1 hh))
        clear hd hp hq hr hlt
        go_wp2_with fail
        refine wp_region_qw (by kernel_rfl) (by kernel_rfl) ?_
        iterate 12 (refine qw_take (by kernel_rfl) (fun K hK => ?_); go_simp; first | (refine hK _ ?_; clear hK K) | (apply Exists.intro; refine ⟨fun _ => ?_, hK _ ?_⟩; (first | with_reducible exact CB.out _ _); clear hK K))
        refine qw_nil ?_
        intro _ hw'
        obtain ⟨⟨dq, osq⟩, hw''⟩ := hw'
        subst hw''
        have HB1 := Lib.hid (below_keep hB.out (below_regrown wr dq osq) hB.out.size)
        go_wp2_with fail
        go_roundw
        case rel => exact ⟨k, by omega, by go_num, HD, HB1⟩
        case measure => simp [intOf]; omega

set_option maxHeartbeats 1000000 in
theorem many_is (s : ByteArray) (a : Option Addr) (n c : Nat) (l : List Step) (g : Int) (m : Nat) (hm : manyL g l = m) (w : World) (h : StAt w a n l) (hn : n ≤ 1000000) :
    Calls Tryz.prog 43 #[.agg #[.string s, .slice a n c], .int .i64 g] w fun e w' => e = .returned (.int .i64 (m : Int)) ∧ Below w.heap.size w w' := by
  have HX := Lib.hid h
  have HV : Hid (0 + manyL g (l.drop 0) = m) := by show _ = _; rw [Nat.zero_add]; exact hm
  have HB0 := Lib.hid (bx2_new 24 w (.string s) (.slice a n c))
  obtain ⟨q0, q1⟩ := cells2 HB0.out.box
  clear h hm
  go_enter Tryz.func43, Tryz.ntmps43
  go_wp2_with fail
  go_loopw [5, 11] (fun t i wr => ∃ k p : Nat, k ≤ n ∧ p ≤ k ∧ t = .int .i64 (p : Int) ∧ i = .int .i64 (k : Int) ∧ Hid (p + manyL g (l.drop k) = m) ∧ Hid (Below w.heap.size w wr)) (fun _ i _ => n - (intOf i).toNat)
  case atStart => exact ⟨0, 0, Nat.zero_le _, Nat.le_refl _, rfl, rfl, HV, HB0.out.bel⟩
  case round =>
    obtain ⟨k, p, hk, hpk, rfl, rfl, hd, hB⟩ := hrel
    by_cases hlk : k < n
    · obtain ⟨b1, o1, x0, x1, x2, x3, x4, x5, rfl, g1, hp, hc1⟩ := StAt.at HX.out hlk
      obtain ⟨d0, d1, d2, d3, d4, d5⟩ := hc1 wr hB.out
      have HY := Lib.hid (at6_new 49 wr (.int .i64 x0) (.int .i64 x1) (.int .i64 x2) (.int .i64 x3) (.int .i64 x4) (.int .i64 x5))
      obtain ⟨z0, z1, z2, z3, z4, z5⟩ := cells6 HY.out
      have HBN := Lib.hid (hB.out.alloc hB.out.size (.cells #[.int .i64 x0, .int .i64 x1, .int .i64 x2, .int .i64 x3, .int .i64 x4, .int .i64 x5] 49))
      clear hc1 q0 q1
      by_cases heq : x1 = g
      · have HD := Lib.hid (many_yes hd.out hp heq)
        have e1 : (x1 == g) = true := beq_iff_eq.2 heq
        clear hp hd heq
        go_wp2_with fail
        go_roundw
        case rel => exact ⟨k + 1, p + 1, by omega, by omega, by go_num, by go_num, HD, HBN⟩
        case measure => simp [intOf]; omega
      · have HD := Lib.hid (many_no hd.out hp heq)
        have e1 : (x1 == g) = false := beq_eq_false_iff_ne.2 heq
        clear hp hd heq
        go_wp2_with fail
        go_roundw
        case rel => exact ⟨k + 1, p, by omega, by omega, rfl, by go_num, HD, HBN⟩
        case measure => simp [intOf]; omega
    · obtain rfl : k = n := by omega
      have HD := Lib.hid (many_end hd.out (at_len HX.out hlk))
      clear hd
      go_wp2_with fail
      go_ret
      exact ⟨ret_int (by rw [HD.out]), hB.out⟩

theorem shipped_any (h k s : Int) (v : Bool) (hv : shipR h k s = v) (w : World) : Calls Tryz.prog 46 #[.int .i64 h, .int .i64 k, .int .i64 s] w fun e w' => e = .returned (.bool v) ∧ w = w' := by
  unfold shipR at hv
  by_cases h0 : h < 0
  · rw [if_pos h0] at hv
    by_cases h1 : k < 0
    · have HR : Hid (v = decide (s < 0)) := by show _ = _; rw [← hv]; simp [h1]
      clear hv
      go_enter Tryz.func46, Tryz.ntmps46
      go_wp2_with fail
      go_ret
      exact ⟨ret_bool HR.out, rfl⟩
    · have HR : Hid (v = false) := by show _ = _; rw [← hv]; simp [h1]
      clear hv
      go_enter Tryz.func46, Tryz.ntmps46
      go_wp2_with fail
      go_ret
      exact ⟨ret_bool HR.out, rfl⟩
  · rw [if_neg h0] at hv
    by_cases h1 : h < k
    · have HR : Hid (v = decide (k < s)) := by show _ = _; rw [← hv]; simp [h1]
      clear hv
      go_enter Tryz.func46, Tryz.ntmps46
      go_wp2_with fail
      go_ret
      exact ⟨ret_bool HR.out, rfl⟩
    · have HR : Hid (v = false) := by show _ = _; rw [← hv]; simp [h1]
      clear hv
      go_enter Tryz.func46, Tryz.ntmps46
      go_wp2_with fail
      go_ret
      exact ⟨ret_bool HR.out, rfl⟩

theorem captured_any (a t : Int) (v : Bool) (hv : capR a t = v) (w : World) : Calls Tryz.prog 48 #[.int .i64 a, .int .i64 t] w fun e w' => e = .returned (.bool v) ∧ w = w' := by
  unfold capR at hv
  by_cases h0 : t < 0
  · have HR : Hid (v = true) := by show _ = _; rw [← hv]; simp [h0]
    clear hv
    go_enter Tryz.func48, Tryz.ntmps48
    go_wp2_with fail
    go_ret
    exact ⟨ret_bool HR.out, rfl⟩
  · by_cases h1 : 0 ≤ a
    · have HR : Hid (v = decide (a < t)) := by show _ = _; rw [← hv]; simp [h0, h1]
      clear hv
      go_enter Tryz.func48, Tryz.ntmps48
      go_wp2_with fail
      go_ret
      exact ⟨ret_bool HR.out, rfl⟩
    · have HR : Hid (v = false) := by show _ = _; rw [← hv]; simp [h0, h1]
      clear hv
      go_enter Tryz.func48, Tryz.ntmps48
      go_wp2_with fail
      go_ret
      exact ⟨ret_bool HR.out, rfl⟩

theorem fit31_any (i : Int) (x0 x1 x2 x3 x4 x5 : Int) (v : Bool) (hv : StP.fitS ⟨x0, x1, x2, x3, x4, x5⟩ = v) (w : World) :
    Calls Tryz.prog 35 #[.int .i64 i, .agg #[.int .i64 x0, .int .i64 x1, .int .i64 x2, .int .i64 x3, .int .i64 x4, .int .i64 x5]] w fun e w' => e = .returned (.bool v) ∧ Below w.heap.size w w' := by
  have HB := Lib.hid (bx6_new 49 w (.int .i64 x0) (.int .i64 x1) (.int .i64 x2) (.int .i64 x3) (.int .i64 x4) (.int .i64 x5))
  obtain ⟨q0, q1, q2, q3, q4, q5⟩ := cells6 HB.out.box
  have C := Lib.hid (fun W => Step.fit_is x0 x1 x2 x3 x4 x5 v hv W)
  clear hv
  go_enter Tryz.func35, Tryz.ntmps35
  go_wp2_with fail
  refine (C.out _).mono ?_
  rintro e w1 ⟨rfl, hb⟩
  have HB1 := Lib.hid (HB.out.keep hb)
  clear hb
  go_wp2_with fail
  go_ret
  exact ⟨rfl, HB1.out.bel⟩
theorem fit41_any (i : Int) (x0 x1 x2 x3 x4 x5 : Int) (s : ByteArray) (a : Option Addr) (n c : Nat) (l : List Step) (bd : Nat) (v : Bool) (hv : (placeL l x0 == i) = v) (w : World) (h : StAt w a n l) (hd : At2 24 w bd (.string s) (.slice a n c)) :
    Calls Tryz.prog 38 #[.int .i64 i, .agg #[.int .i64 x0, .int .i64 x1, .int .i64 x2, .int .i64 x3, .int .i64 x4, .int .i64 x5], .pointer (some ⟨bd, 0, none⟩)] w fun e w' => e = .returned (.bool v) ∧ Below w.heap.size w w' := by
  have HB := Lib.hid (bx6_new 49 w (.int .i64 x0) (.int .i64 x1) (.int .i64 x2) (.int .i64 x3) (.int .i64 x4) (.int .i64 x5))
  obtain ⟨q0, q1, q2, q3, q4, q5⟩ := cells6 HB.out.box
  obtain ⟨d0, d1⟩ := cells2 (hd.keep HB.out.bel)
  obtain ⟨r, hr⟩ : ∃ r, placeL l x0 = r := ⟨_, rfl⟩
  have C := Lib.hid (place_is s a n c l x0 r hr (w.alloc (.cells #[.int .i64 x0, .int .i64 x1, .int .i64 x2, .int .i64 x3, .int .i64 x4, .int .i64 x5] 49)) (Rw.At.keep h HB.out.bel))
  rw [hr] at hv
  have HR : Hid (v = (i == r)) := by show _ = _; rw [← hv]; exact Bool.beq_comm
  clear hv h hd hr
  go_enter Tryz.func38, Tryz.ntmps38
  go_wp2_with fail
  refine C.out.mono ?_
  rintro e w1 ⟨rfl, hb⟩
  have HB1 := Lib.hid (HB.out.keep hb)
  clear hb
  go_wp2_with fail
  go_ret
  exact ⟨ret_bool HR.out, HB1.out.bel⟩

set_option maxHeartbeats 1000000 in
theorem each3_any (s : ByteArray) (a : Option Addr) (n c : Nat) (l : List Step) (v : Bool) (hv : allR l = v) (w : World) (h : StAt w a n l) :
    Calls Tryz.prog 34 #[.agg #[.string s, .slice a n c], .func (.func 35) #[] #[]] w fun e w' => e = .returned (.bool v) ∧ Below w.heap.size w w' := by
  have hl := h.2.1
  have HX := Lib.hid h
  have HV : Hid (v = allR (l.drop 0)) := hv.symm
  have HB0 := Lib.hid (bx2_new 24 w (.string s) (.slice a n c))
  obtain ⟨q0, q1⟩ := cells2 HB0.out.box
  clear h hv
  go_enter Tryz.func34, Tryz.ntmps34
  go_wp2_with fail
  go_loopw [10] (fun i wr => ∃ k : Nat, k ≤ n ∧ i = .int .i64 (k : Int) ∧ Hid (v = allR (l.drop k)) ∧ Hid (Below w.heap.size w wr)) (fun i _ => n - (intOf i).toNat)
  case atStart => exact ⟨0, Nat.zero_le _, rfl, HV, HB0.out.bel⟩
  case round =>
    obtain ⟨k, hk, rfl, hd, hB⟩ := hrel
    by_cases hlk : k < n
    · obtain ⟨b1, o1, x0, x1, x2, x3, x4, x5, rfl, g1, hp, hc1⟩ := StAt.at HX.out hlk
      obtain ⟨d0, d1, d2, d3, d4, d5⟩ := hc1 wr hB.out
      have HY := Lib.hid (at6_new 49 wr (.int .i64 x0) (.int .i64 x1) (.int .i64 x2) (.int .i64 x3) (.int .i64 x4) (.int .i64 x5))
      obtain ⟨z0, z1, z2, z3, z4, z5⟩ := cells6 HY.out
      have HBN := Lib.hid (hB.out.alloc hB.out.size (.cells #[.int .i64 x0, .int .i64 x1, .int .i64 x2, .int .i64 x3, .int .i64 x4, .int .i64 x5] 49))
      cases heq : StP.fitS ⟨x0, x1, x2, x3, x4, x5⟩ with
      | true =>
        have HD := Lib.hid (hd.out.trans (all_go hp heq))
        have C := Lib.hid (fit31_any (k : Int) x0 x1 x2 x3 x4 x5 true heq (wr.alloc (.cells #[.int .i64 x0, .int .i64 x1, .int .i64 x2, .int .i64 x3, .int .i64 x4, .int .i64 x5] 49)))
        clear hp hd heq hc1 q0 q1
        go_wp2_with fail
        refine C.out.mono ?_
        rintro e w2 ⟨rfl, hb⟩
        have HB2 := Lib.hid (below_keep HBN.out hb HBN.out.size)
        clear hb
        go_wp2_with fail
        go_roundw
        case rel => exact ⟨k + 1, by omega, by go_num, HD, HB2⟩
        case measure => simp [intOf]; omega
      | false =>
        have HD : Hid (v = false) := hd.out.trans (all_no hp heq)
        have C := Lib.hid (fit31_any (k : Int) x0 x1 x2 x3 x4 x5 false heq (wr.alloc (.cells #[.int .i64 x0, .int .i64 x1, .int .i64 x2, .int .i64 x3, .int .i64 x4, .int .i64 x5] 49)))
        clear hp hd heq hc1 q0 q1
        go_wp2_with fail
        refine C.out.mono ?_
        rintro e w2 ⟨rfl, hb⟩
        have HB2 := Lib.hid (below_keep HBN.out hb HBN.out.size)
        clear hb
        go_wp2_with fail
        go_ret
        exact ⟨ret_bool HD.out, HB2.out⟩
    · obtain rfl : k = n := by omega
      have HD : Hid (v = true) := hd.out.trans (all_end (at_len HX.out hlk))
      clear hd
      go_wp2_with fail
      go_ret
      exact ⟨ret_bool HD.out, hB.out⟩

set_option maxHeartbeats 1000000 in
theorem each4_any (s : ByteArray) (a : Option Addr) (n c : Nat) (l : List Step) (bd : Nat) (v : Bool) (hv : placeR l 0 l = v) (w : World) (h : StAt w a n l) (hd : At2 24 w bd (.string s) (.slice a n c)) :
    Calls Tryz.prog 34 #[.agg #[.string s, .slice a n c], .func (.func 38) #[] #[.pointer (some ⟨bd, 0, none⟩)]] w fun e w' => e = .returned (.bool v) ∧ Below w.heap.size w w' := by
  have hl := h.2.1
  have HX := Lib.hid h
  have HV : Hid (v = placeR l 0 (l.drop 0)) := hv.symm
  have HDD := Lib.hid hd
  clear hd
  have HB0 := Lib.hid (bx2_new 24 w (.string s) (.slice a n c))
  obtain ⟨q0, q1⟩ := cells2 HB0.out.box
  clear h hv
  go_enter Tryz.func34, Tryz.ntmps34
  go_wp2_with fail
  go_loopw [10] (fun i wr => ∃ k : Nat, k ≤ n ∧ i = .int .i64 (k : Int) ∧ Hid (v = placeR l k (l.drop k)) ∧ Hid (Below w.heap.size w wr)) (fun i _ => n - (intOf i).toNat)
  case atStart => exact ⟨0, Nat.zero_le _, rfl, HV, HB0.out.bel⟩
  case round =>
    obtain ⟨k, hk, rfl, hd, hB⟩ := hrel
    by_cases hlk : k < n
    · obtain ⟨b1, o1, x0, x1, x2, x3, x4, x5, rfl, g1, hp, hc1⟩ := StAt.at HX.out hlk
      obtain ⟨d0, d1, d2, d3, d4, d5⟩ := hc1 wr hB.out
      have HY := Lib.hid (at6_new 49 wr (.int .i64 x0) (.int .i64 x1) (.int .i64 x2) (.int .i64 x3) (.int .i64 x4) (.int .i64 x5))
      obtain ⟨z0, z1, z2, z3, z4, z5⟩ := cells6 HY.out
      have HBN := Lib.hid (hB.out.alloc hB.out.size (.cells #[.int .i64 x0, .int .i64 x1, .int .i64 x2, .int .i64 x3, .int .i64 x4, .int .i64 x5] 49))
      cases heq : placeL l x0 == (k : Int) with
      | true =>
        have HD := Lib.hid (hd.out.trans (pl_go hp heq))
        have C := Lib.hid (fit41_any (k : Int) x0 x1 x2 x3 x4 x5 s (some ⟨b1, o1, none⟩) n c l bd true heq (wr.alloc (.cells #[.int .i64 x0, .int .i64 x1, .int .i64 x2, .int .i64 x3, .int .i64 x4, .int .i64 x5] 49)) (HX.out.keep HBN.out) (HDD.out.keep HBN.out))
        clear hp hd heq hc1 q0 q1
        go_wp2_with fail
        refine C.out.mono ?_
        rintro e w2 ⟨rfl, hb⟩
        have HB2 := Lib.hid (below_keep HBN.out hb HBN.out.size)
        clear hb
        go_wp2_with fail
        go_roundw
        case rel => exact ⟨k + 1, by omega, by go_num, HD, HB2⟩
        case measure => simp [intOf]; omega
      | false =>
        have HD : Hid (v = false) := hd.out.trans (pl_no hp heq)
        have C := Lib.hid (fit41_any (k : Int) x0 x1 x2 x3 x4 x5 s (some ⟨b1, o1, none⟩) n c l bd false heq (wr.alloc (.cells #[.int .i64 x0, .int .i64 x1, .int .i64 x2, .int .i64 x3, .int .i64 x4, .int .i64 x5] 49)) (HX.out.keep HBN.out) (HDD.out.keep HBN.out))
        clear hp hd heq hc1 q0 q1
        go_wp2_with fail
        refine C.out.mono ?_
        rintro e w2 ⟨rfl, hb⟩
        have HB2 := Lib.hid (below_keep HBN.out hb HBN.out.size)
        clear hb
        go_wp2_with fail
        go_ret
        exact ⟨ret_bool HD.out, HB2.out⟩
    · obtain rfl : k = n := by omega
      have HD : Hid (v = true) := hd.out.trans (pl_end (at_len HX.out hlk))
      clear hd
      go_wp2_with fail
      go_ret
      exact ⟨ret_bool HD.out, hB.out⟩

end Go.Proofs.YtdpgfnnhbfkacaaGreatDoor.Def
