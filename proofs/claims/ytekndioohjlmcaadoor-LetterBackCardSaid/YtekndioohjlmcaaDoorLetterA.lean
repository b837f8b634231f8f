/-
  A letter in memory; the contracts of num's Fit (both), reason, valid and the document's One: any letter; what was there stays as it was.
-/
import Derived.Test.YtekndioohjlmcaaDoorLetterPlain
import Derived.Test.YtekndioohjlmcaaDoorNumA
import Derived.Test.YtekndioohjlmcaaDoorKt5
import Derived.Test.YtekndioohjlmcaaDoorRw
import Derived.ChangeKeysEq
set_option linter.unusedVariables false
set_option linter.unusedSimpArgs false
set_option maxRecDepth 4000
namespace Go.Proofs.YtekndioohjlmcaaDoor.Letter
open Go.RowKit LeP
open Go.Proofs.YtekndioohjlmcaaDoor.Kt

def lcell (t : Lt) : List Value := [.int .i64 t.saga, .int .i64 t.step, .bool t.back, .int .i64 t.why, .int .i64 t.at_]
def ltV (t : Lt) : Value := .agg #[.int .i64 t.saga, .int .i64 t.step, .bool t.back, .int .i64 t.why, .int .i64 t.at_]
/-- Letters as elements of a slice. -/
def ltS : Rw.Sh Lt where
  c := lcell
  z := lt0
  zv := .agg #[.int .i64 0, .int .i64 0, .bool false, .int .i64 0, .int .i64 0]
  ts := 22
  te := 24
  k := 5
  bytes := 40
  pos := by decide
  small := by decide
  len := fun t => rfl
  one := fun t u hu => by
    simp only [lcell, List.mem_cons, List.mem_nil_iff, or_false] at hu
    rcases hu with rfl | rfl | rfl | rfl | rfl <;> rfl
  zcells := rfl
  und := Tryd.underlying22
  info := by kernel_rfl
/-- A slice of letters. -/
abbrev LtAt (w : World) (a : Option Addr) (len : Nat) (l : List Lt) : Prop := Rw.At ltS w a len l
theorem LtAt.at {w : World} {a : Option Addr} {len : Nat} {l : List Lt} (h : LtAt w a len l) {i : Nat} (hi : i < len) :
    ∃ b off x0 x1 x2 x3 x4, a = some ⟨b, off, none⟩ ∧ b < w.heap.size ∧ l.getD i lt0 = ⟨x0, x1, x2, x3, x4⟩ ∧ ∀ w', Below w.heap.size w w' →
      w'.cell? ⟨b, off + i * 5, none⟩ = some (.int .i64 x0) ∧ w'.cell? ⟨b, off + i * 5 + 1, none⟩ = some (.int .i64 x1) ∧ w'.cell? ⟨b, off + i * 5 + 2, none⟩ = some (.bool x2) ∧ w'.cell? ⟨b, off + i * 5 + 3, none⟩ = some (.int .i64 x3) ∧ w'.cell? ⟨b, off + i * 5 + 4, none⟩ = some (.int .i64 x4) := by
  obtain ⟨b, off, e, hlt, _, hc⟩ := Rw.At.at h hi rfl
  refine ⟨b, off, (l.getD i lt0).saga, (l.getD i lt0).step, (l.getD i lt0).back, (l.getD i lt0).why, (l.getD i lt0).at_, e, hlt, rfl, fun w' hb => ⟨?_, ?_, ?_, ?_, ?_⟩⟩
  · exact hc w' hb 0 _ rfl
  · exact hc w' hb 1 _ rfl
  · exact hc w' hb 2 _ rfl
  · exact hc w' hb 3 _ rfl
  · exact hc w' hb 4 _ rfl
theorem lt_split (t : Lt) : ∃ z0 z1 z2 z3 z4, t = ⟨z0, z1, z2, z3, z4⟩ := ⟨t.saga, t.step, t.back, t.why, t.at_, rfl⟩
/-- The results of a function whose first result stands in a cell. -/
theorem results_lt {fn : Func} {j k : Nat} (h : fn.results = #[.cell j 24, .tmp k]) (tmps : Array Value) (w : World) (b : Nat) (v0 v1 v2 v3 v4 : Value) (hp : tmps.getD j undef = .pointer (some ⟨b, 0, none⟩))
    (c : At5 24 w b v0 v1 v2 v3 v4) : (results fn tmps).run Tryd.prog w = .ok (.tuple #[.agg #[v0, v1, v2, v3, v4], tmps.getD k undef]) w := by
  have hp' : tmps[j]?.getD undef = .pointer (some ⟨b, 0, none⟩) := by rw [← hp]; simp
  obtain ⟨c0, c1, c2, c3, c4⟩ := cells5 c
  simp only [results, h]
  go_simp
/-- A letter's cells in a block of its own. -/
theorem own_cells {W : World} {k : Nat} {x0 x1 : Int} {x2 : Bool} {x3 x4 : Int} (h : At5 24 W k (.int .i64 x0) (.int .i64 x1) (.bool x2) (.int .i64 x3) (.int .i64 x4)) : ∀ (j : Nat) (u : Value), (ltS.c ⟨x0, x1, x2, x3, x4⟩)[j]? = some u → W.cell? ⟨k, j, none⟩ = some u := by
  intro j u hu
  rw [cell_of_heap h, ← hu]
  simp [ltS, lcell]
abbrev lv (x0 x1 : Int) (x2 : Bool) (x3 x4 : Int) : Value := .agg #[.int .i64 x0, .int .i64 x1, .bool x2, .int .i64 x3, .int .i64 x4]
/-- The model's comparison of two letters. -/
theorem eqin_lt (x0 x1 : Int) (x2 : Bool) (x3 x4 : Int) (y0 y1 : Int) (y2 : Bool) (y3 y4 : Int) (w : World) : (Op.equalIn 10000 24 (lv x0 x1 x2 x3 x4) (lv y0 y1 y2 y3 y4)).run Tryd.prog w = .ok (eqL ⟨x0, x1, x2, x3, x4⟩ ⟨y0, y1, y2, y3, y4⟩) w := by
  have hS : Tryd.prog.underlying 24 = some (.struct (Tryd.prog.fieldsOf 24)) := by kernel_rfl
  have hp : Tryd.prog.stoodInHeld 24 = false := by kernel_rfl
  have u3 := Tryd.underlying3
  have a3 := Tryd.isAgg3
  have z3 := Tryd.sizeOf3
  have u4 := Tryd.underlying4
  have a4 := Tryd.isAgg4
  have z4 := Tryd.sizeOf4
  rw [show (10000 : Nat) = 9999 + 1 from rfl, run_equalIn_agg w 9999 24 _ _ hS hp]
  simp only [Program.fieldsOf, Tryd.underlying24]
  go_simp
  unfold eqL

  by_cases h0 : x0 = y0
  · by_cases h1 : x1 = y1
    · by_cases h2 : x2 = y2
      · by_cases h3 : x3 = y3
        · by_cases h4 : x4 = y4 <;> simp [h0, h1, h2, h3, h4]
        · simp [h0, h1, h2, h3]
      · simp [h0, h1, h2]
    · simp [h0, h1]
  · simp [h0]

theorem neq_lt (x0 x1 : Int) (x2 : Bool) (x3 x4 : Int) (y0 y1 : Int) (y2 : Bool) (y3 y4 : Int) (w : World) : (binOp .neq 24 (lv x0 x1 x2 x3 x4) (lv y0 y1 y2 y3 y4)).run Tryd.prog w = .ok (.bool (!(eqL ⟨x0, x1, x2, x3, x4⟩ ⟨y0, y1, y2, y3, y4⟩))) w := by
  rw [run_neq_struct, eqin_lt]; rfl
theorem eql_lt (x0 x1 : Int) (x2 : Bool) (x3 x4 : Int) (y0 y1 : Int) (y2 : Bool) (y3 y4 : Int) (w : World) : (binOp .eql 24 (lv x0 x1 x2 x3 x4) (lv y0 y1 y2 y3 y4)).run Tryd.prog w = .ok (.bool (eqL ⟨x0, x1, x2, x3, x4⟩ ⟨y0, y1, y2, y3, y4⟩)) w := by
  rw [run_eql_struct, eqin_lt]; rfl
theorem guard_lt (p : BinOp) (x y : Operand) (x0 x1 : Int) (x2 : Bool) (x3 x4 : Int) (y0 y1 : Int) (y2 : Bool) (y3 y4 : Int) (w : World) : (eqGuard p 24 x y (lv x0 x1 x2 x3 x4) (lv y0 y1 y2 y3 y4)).run Tryd.prog w = .ok () w := run_eqGuard_agg w _ _ _ _ _ _ (by kernel_rfl)
/-- A row of letters of the call's own. -/
def RowP (w : World) (l : List Lt) (e : Ending) (w' : World) : Prop := ∃ v, e = .returned v ∧ w'.ownsRow w.heap.size 24 5 v l.length (Rw.cells ltS l) ∧ Below w.heap.size w w'
/-- A row that comes back is a slice of its letters. -/
theorem RowP.at {w w' : World} {l : List Lt} {e : Ending} {n : Nat} (h : RowP w l e w') (hn : l.length = n) (hs : n ≤ 1000000) :
    ∃ a c, e = .returned (.slice a n c) ∧ n ≤ c ∧ LtAt w' a n l ∧ Below w.heap.size w w' := by
  obtain ⟨v, rfl, hO, hb⟩ := h
  rw [hn] at hO
  obtain ⟨a, c, rfl, hc⟩ := Rw.owns_slice hO
  exact ⟨a, c, rfl, hc, Rw.own_at (S := ltS) hO hn (by omega), hb⟩
/-! ### amounts, reasons -/
theorem nfit_is (n : Int) (v : Bool) (hv : amtL n = v) (w : World) : Calls Tryd.prog 30 #[.int .i64 n] w fun e w' => e = .returned (.bool v) ∧ w = w' := by
  have h := Num.fit_any n w
  rw [show NumP.amt n = amtL n from rfl, hv] at h
  exact h
theorem nrfit_is (n : Int) (v : Bool) (hv : amtL n = v) (w : World) : Calls Tryd.prog 29 #[.int .i64 n] w fun e w' => e = .returned (.bool v) ∧ w = w' := by
  have h := Num.rfit_any n w
  rw [show NumP.amt n = amtL n from rfl, hv] at h
  exact h
/-- The octets of a list as a text. -/
def bs (l : List UInt8) : ByteArray := ⟨l.toArray⟩
theorem ret_str {s t : ByteArray} (h : s = t) : Ending.returned (.string s) = .returned (.string t) := by rw [h]
theorem reason_any (n : Int) (w : World) : Calls Tryd.prog 24 #[.int .i64 n] w fun e w' => e = .returned (.string (bs (whyL n))) ∧ w = w' := by
  by_cases h7 : n = 7
  · subst h7
    go_enter Tryd.func24, Tryd.ntmps24
    go_wp2_with fail
    go_ret
    exact ⟨rfl, rfl⟩
  by_cases h8 : n = 8
  · subst h8
    go_enter Tryd.func24, Tryd.ntmps24
    go_wp2_with fail
    go_ret
    exact ⟨rfl, rfl⟩
  have HR : Hid ((⟨#[]⟩ : ByteArray) = bs (whyL n)) := by show _ = _; unfold whyL; rw [if_neg h7, if_neg h8]; rfl
  have e7 : (n == 7) = false := beq_eq_false_iff_ne.2 h7
  have e8 : (n == 8) = false := beq_eq_false_iff_ne.2 h8
  clear h7 h8
  go_enter Tryd.func24, Tryd.ntmps24
  go_wp2_with fail
  go_ret
  exact ⟨ret_str HR.out, rfl⟩
theorem reason_is (n : Int) (s : ByteArray) (hs : bs (whyL n) = s) (w : World) : Calls Tryd.prog 24 #[.int .i64 n] w fun e w' => e = .returned (.string s) ∧ w = w' := by
  rw [← hs]; exact reason_any n w
theorem one_split (x0 x1 : Int) (x2 : Bool) (x3 x4 : Int) : oneL ⟨x0, x1, x2, x3, x4⟩ = (decide (1 ≤ x0) && (amtL x0 && (decide (0 ≤ x1) && (decide (x1 < 6) && ((decide (x3 = 7) || decide (x3 = 8)) && amtL x4))))) := by
  unfold oneL amtL
  by_cases h0 : 1 ≤ x0
  · simp [h0, show 0 ≤ x0 by omega]
  · simp [h0]

theorem valid_is (x0 x1 : Int) (x2 : Bool) (x3 x4 : Int) (v : Bool) (hv : oneL ⟨x0, x1, x2, x3, x4⟩ = v) (w : World) :
    Calls Tryd.prog 21 #[.agg #[.int .i64 x0, .int .i64 x1, .bool x2, .int .i64 x3, .int .i64 x4]] w fun e w' => e = .returned (.bool v) ∧ Below w.heap.size w w' := by

  rw [one_split] at hv
  by_cases h0 : 1 ≤ x0
  rotate_left
  · have HR : Hid (v = false) := by show _ = _; rw [← hv]; simp [h0]
    clear hv
    have HB0 := Lib.hid (bx5_new 24 w (.int .i64 x0) (.int .i64 x1) (.bool x2) (.int .i64 x3) (.int .i64 x4))
    obtain ⟨q0, q1, q2, q3, q4⟩ := cells5 HB0.out.box
    go_enter Tryd.func21, Tryd.ntmps21
    go_wp2_with fail
    go_ret
    exact ⟨ret_bool HR.out, HB0.out.bel⟩
  cases h1 : amtL x0 with
  | false =>
    rw [h1] at hv
    have HR : Hid (v = false) := by show _ = _; rw [← hv]; simp
    have K0 := Lib.hid (nfit_is x0 false h1)
    clear hv h1
    have HB0 := Lib.hid (bx5_new 24 w (.int .i64 x0) (.int .i64 x1) (.bool x2) (.int .i64 x3) (.int .i64 x4))
    obtain ⟨q0, q1, q2, q3, q4⟩ := cells5 HB0.out.box
    go_enter Tryd.func21, Tryd.ntmps21
    go_wp2_with fail
    refine (K0.out _).mono ?_
    rintro e w1 ⟨rfl, rfl⟩
    go_wp2_with fail
    go_ret
    exact ⟨ret_bool HR.out, HB0.out.bel⟩
  | true =>
  rw [h1, decide_eq_true h0] at hv
  have K0 := Lib.hid (nfit_is x0 true h1)
  clear h1
  by_cases h2 : 0 ≤ x1
  rotate_left
  · have HR : Hid (v = false) := by show _ = _; rw [← hv]; simp [h2]
    clear hv
    have HB0 := Lib.hid (bx5_new 24 w (.int .i64 x0) (.int .i64 x1) (.bool x2) (.int .i64 x3) (.int .i64 x4))
    obtain ⟨q0, q1, q2, q3, q4⟩ := cells5 HB0.out.box
    go_enter Tryd.func21, Tryd.ntmps21
    go_wp2_with fail
    refine (K0.out _).mono ?_
    rintro e w1 ⟨rfl, rfl⟩
    go_wp2_with fail
    go_ret
    exact ⟨ret_bool HR.out, HB0.out.bel⟩
  by_cases h3 : x1 < 6
  rotate_left
  · have HR : Hid (v = false) := by show _ = _; rw [← hv]; simp [h3]
    clear hv
    have HB0 := Lib.hid (bx5_new 24 w (.int .i64 x0) (.int .i64 x1) (.bool x2) (.int .i64 x3) (.int .i64 x4))
    obtain ⟨q0, q1, q2, q3, q4⟩ := cells5 HB0.out.box
    go_enter Tryd.func21, Tryd.ntmps21
    go_wp2_with fail
    refine (K0.out _).mono ?_
    rintro e w1 ⟨rfl, rfl⟩
    go_wp2_with fail
    go_ret
    exact ⟨ret_bool HR.out, HB0.out.bel⟩
  by_cases h7 : x3 = 7
  · have KR := Lib.hid (reason_is x3 _ (by rw [h7]; rfl : bs (whyL x3) = ⟨#[116, 114, 105, 101, 115]⟩))
    have HR : Hid (v = amtL x4) := by show _ = _; rw [← hv]; simp [h2, h3, h7]
    have K3 := Lib.hid (nfit_is x4 v HR.out.symm)
    clear hv h7
    have HB0 := Lib.hid (bx5_new 24 w (.int .i64 x0) (.int .i64 x1) (.bool x2) (.int .i64 x3) (.int .i64 x4))
    obtain ⟨q0, q1, q2, q3, q4⟩ := cells5 HB0.out.box
    go_enter Tryd.func21, Tryd.ntmps21
    go_wp2_with fail
    refine (K0.out _).mono ?_
    rintro e w1 ⟨rfl, rfl⟩
    go_wp2_with fail
    refine (KR.out _).mono ?_
    rintro e w1 ⟨rfl, rfl⟩
    go_wp2_with fail
    refine (K3.out _).mono ?_
    rintro e w1 ⟨rfl, rfl⟩
    go_wp2_with fail
    go_ret
    exact ⟨rfl, HB0.out.bel⟩
  by_cases h8 : x3 = 8
  · have KR := Lib.hid (reason_is x3 _ (by rw [h8]; rfl : bs (whyL x3) = ⟨#[112, 97, 114, 107, 101, 100]⟩))
    have HR : Hid (v = amtL x4) := by show _ = _; rw [← hv]; simp [h2, h3, h8]
    have K3 := Lib.hid (nfit_is x4 v HR.out.symm)
    clear hv h8
    have HB0 := Lib.hid (bx5_new 24 w (.int .i64 x0) (.int .i64 x1) (.bool x2) (.int .i64 x3) (.int .i64 x4))
    obtain ⟨q0, q1, q2, q3, q4⟩ := cells5 HB0.out.box
    go_enter Tryd.func21, Tryd.ntmps21
    go_wp2_with fail
    refine (K0.out _).mono ?_
    rintro e w1 ⟨rfl, rfl⟩
    go_wp2_with fail
    refine (KR.out _).mono ?_
    rintro e w1 ⟨rfl, rfl⟩
    go_wp2_with fail
    refine (K3.out _).mono ?_
    rintro e w1 ⟨rfl, rfl⟩
    go_wp2_with fail
    go_ret
    exact ⟨rfl, HB0.out.bel⟩
  have KR := Lib.hid (reason_is x3 _ (by unfold whyL; rw [if_neg h7, if_neg h8]; rfl : bs (whyL x3) = ⟨#[]⟩))
  have HR : Hid (v = false) := by show _ = _; rw [← hv]; simp [h7, h8]
  clear hv h7 h8
  have HB0 := Lib.hid (bx5_new 24 w (.int .i64 x0) (.int .i64 x1) (.bool x2) (.int .i64 x3) (.int .i64 x4))
  obtain ⟨q0, q1, q2, q3, q4⟩ := cells5 HB0.out.box
  go_enter Tryd.func21, Tryd.ntmps21
  go_wp2_with fail
  refine (K0.out _).mono ?_
  rintro e w1 ⟨rfl, rfl⟩
  go_wp2_with fail
  refine (KR.out _).mono ?_
  rintro e w1 ⟨rfl, rfl⟩
  go_wp2_with fail
  go_ret
  exact ⟨ret_bool HR.out, HB0.out.bel⟩

theorem rone_is (x0 x1 : Int) (x2 : Bool) (x3 x4 : Int) (v : Bool) (hv : oneL ⟨x0, x1, x2, x3, x4⟩ = v) (w : World) :
    Calls Tryd.prog 18 #[.agg #[.int .i64 x0, .int .i64 x1, .bool x2, .int .i64 x3, .int .i64 x4]] w fun e w' => e = .returned (.bool v) ∧ Below w.heap.size w w' := by

  unfold oneL at hv
  dsimp only at hv
  by_cases h0 : 1 ≤ x0
  rotate_left
  · have HR : Hid (v = false) := by show _ = _; rw [← hv]; simp [h0]
    clear hv
    have HB0 := Lib.hid (bx5_new 24 w (.int .i64 x0) (.int .i64 x1) (.bool x2) (.int .i64 x3) (.int .i64 x4))
    obtain ⟨q0, q1, q2, q3, q4⟩ := cells5 HB0.out.box
    go_enter Tryd.func18, Tryd.ntmps18
    go_wp2_with fail
    go_ret
    exact ⟨ret_bool HR.out, HB0.out.bel⟩
  by_cases h1 : x0 ≤ 1099511627776
  rotate_left
  · have HR : Hid (v = false) := by show _ = _; rw [← hv]; simp [h1]
    clear hv
    have HB0 := Lib.hid (bx5_new 24 w (.int .i64 x0) (.int .i64 x1) (.bool x2) (.int .i64 x3) (.int .i64 x4))
    obtain ⟨q0, q1, q2, q3, q4⟩ := cells5 HB0.out.box
    go_enter Tryd.func18, Tryd.ntmps18
    go_wp2_with fail
    go_ret
    exact ⟨ret_bool HR.out, HB0.out.bel⟩
  by_cases h2 : 0 ≤ x1
  rotate_left
  · have HR : Hid (v = false) := by show _ = _; rw [← hv]; simp [h2]
    clear hv
    have HB0 := Lib.hid (bx5_new 24 w (.int .i64 x0) (.int .i64 x1) (.bool x2) (.int .i64 x3) (.int .i64 x4))
    obtain ⟨q0, q1, q2, q3, q4⟩ := cells5 HB0.out.box
    go_enter Tryd.func18, Tryd.ntmps18
    go_wp2_with fail
    go_ret
    exact ⟨ret_bool HR.out, HB0.out.bel⟩
  by_cases h3 : x1 < 6
  rotate_left
  · have HR : Hid (v = false) := by show _ = _; rw [← hv]; simp [h3]
    clear hv
    have HB0 := Lib.hid (bx5_new 24 w (.int .i64 x0) (.int .i64 x1) (.bool x2) (.int .i64 x3) (.int .i64 x4))
    obtain ⟨q0, q1, q2, q3, q4⟩ := cells5 HB0.out.box
    go_enter Tryd.func18, Tryd.ntmps18
    go_wp2_with fail
    go_ret
    exact ⟨ret_bool HR.out, HB0.out.bel⟩
  by_cases h7 : x3 = 7
  · have HR : Hid (v = amtL x4) := by show _ = _; rw [← hv]; simp [h0, h1, h2, h3, h7]
    have K3 := Lib.hid (nrfit_is x4 v HR.out.symm)
    have e7 : (x3 == 7) = true := beq_iff_eq.2 h7
    clear hv h7
    have HB0 := Lib.hid (bx5_new 24 w (.int .i64 x0) (.int .i64 x1) (.bool x2) (.int .i64 x3) (.int .i64 x4))
    obtain ⟨q0, q1, q2, q3, q4⟩ := cells5 HB0.out.box
    go_enter Tryd.func18, Tryd.ntmps18
    go_wp2_with fail
    refine (K3.out _).mono ?_
    rintro e w1 ⟨rfl, rfl⟩
    go_wp2_with fail
    go_ret
    exact ⟨rfl, HB0.out.bel⟩
  by_cases h8 : x3 = 8
  · have HR : Hid (v = amtL x4) := by show _ = _; rw [← hv]; simp [h0, h1, h2, h3, h8]
    have K3 := Lib.hid (nrfit_is x4 v HR.out.symm)
    have e7 : (x3 == 7) = false := beq_eq_false_iff_ne.2 h7
    have e8 : (x3 == 8) = true := beq_iff_eq.2 h8
    clear hv h7 h8
    have HB0 := Lib.hid (bx5_new 24 w (.int .i64 x0) (.int .i64 x1) (.bool x2) (.int .i64 x3) (.int .i64 x4))
    obtain ⟨q0, q1, q2, q3, q4⟩ := cells5 HB0.out.box
    go_enter Tryd.func18, Tryd.ntmps18
    go_wp2_with fail
    refine (K3.out _).mono ?_
    rintro e w1 ⟨rfl, rfl⟩
    go_wp2_with fail
    go_ret
    exact ⟨rfl, HB0.out.bel⟩
  have e7 : (x3 == 7) = false := beq_eq_false_iff_ne.2 h7
  have e8 : (x3 == 8) = false := beq_eq_false_iff_ne.2 h8
  have HR : Hid (v = false) := by show _ = _; rw [← hv]; simp [h7, h8]
  clear hv h7 h8
  have HB0 := Lib.hid (bx5_new 24 w (.int .i64 x0) (.int .i64 x1) (.bool x2) (.int .i64 x3) (.int .i64 x4))
  obtain ⟨q0, q1, q2, q3, q4⟩ := cells5 HB0.out.box
  go_enter Tryd.func18, Tryd.ntmps18
  go_wp2_with fail
  go_ret
  exact ⟨ret_bool HR.out, HB0.out.bel⟩

end Go.Proofs.YtekndioohjlmcaaDoor.Letter
