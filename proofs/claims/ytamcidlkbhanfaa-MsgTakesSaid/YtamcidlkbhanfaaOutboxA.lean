/-
  An entry in memory; the contracts of number, Service (both), valid and the document's One: any entry; what was there stays as it was.
-/
import Derived.Test.YtamcidlkbhanfaaOutboxPlain
import Derived.Test.YtamcidlkbhanfaaNumA
import Derived.Test.YtamcidlkbhanfaaKt7
import Derived.Test.YtamcidlkbhanfaaRw
import Derived.ChangeKeysEq
set_option linter.unusedVariables false
set_option linter.unusedSimpArgs false
set_option maxRecDepth 4000
set_option maxRecDepth 4000
namespace Go.Proofs.Ytamcidlkbhanfaa.Outbox
open Go.RowKit OutP
open Go.Proofs.Ytamcidlkbhanfaa.Kt

def ecell (t : En) : List Value := [.int .i64 t.id, .int .i64 t.saga, .int .i64 t.step, .bool t.back, .int .i64 t.op, .int .i64 t.sum, .bool t.must]
def enV (t : En) : Value := .agg #[.int .i64 t.id, .int .i64 t.saga, .int .i64 t.step, .bool t.back, .int .i64 t.op, .int .i64 t.sum, .bool t.must]
/-- Entries as elements of a slice. -/
def enS : Rw.Sh En where
  c := ecell
  z := en0
  zv := .agg #[.int .i64 0, .int .i64 0, .int .i64 0, .bool false, .int .i64 0, .int .i64 0, .bool false]
  ts := 57
  te := 23
  k := 7
  bytes := 56
  pos := by decide
  small := by decide
  len := fun t => rfl
  one := fun t u hu => by
    simp only [ecell, List.mem_cons, List.mem_nil_iff, or_false] at hu
    rcases hu with rfl | rfl | rfl | rfl | rfl | rfl | rfl <;> rfl
  zcells := rfl
  und := Try.underlying57
  info := by kernel_rfl
/-- A slice of entries. -/
abbrev EnAt (w : World) (a : Option Addr) (len : Nat) (l : List En) : Prop := Rw.At enS w a len l
theorem EnAt.at {w : World} {a : Option Addr} {len : Nat} {l : List En} (h : EnAt w a len l) {i : Nat} (hi : i < len) :
    ∃ b off x0 x1 x2 x3 x4 x5 x6, a = some ⟨b, off, none⟩ ∧ b < w.heap.size ∧ l.getD i en0 = ⟨x0, x1, x2, x3, x4, x5, x6⟩ ∧ ∀ w', Below w.heap.size w w' →
      w'.cell? ⟨b, off + i * 7, none⟩ = some (.int .i64 x0) ∧ w'.cell? ⟨b, off + i * 7 + 1, none⟩ = some (.int .i64 x1) ∧ w'.cell? ⟨b, off + i * 7 + 2, none⟩ = some (.int .i64 x2) ∧
      w'.cell? ⟨b, off + i * 7 + 3, none⟩ = some (.bool x3) ∧ w'.cell? ⟨b, off + i * 7 + 4, none⟩ = some (.int .i64 x4) ∧ w'.cell? ⟨b, off + i * 7 + 5, none⟩ = some (.int .i64 x5) ∧ w'.cell? ⟨b, off + i * 7 + 6, none⟩ = some (.bool x6) := by
  obtain ⟨b, off, e, hlt, _, hc⟩ := Rw.At.at h hi rfl
  refine ⟨b, off, (l.getD i en0).id, (l.getD i en0).saga, (l.getD i en0).step, (l.getD i en0).back, (l.getD i en0).op, (l.getD i en0).sum, (l.getD i en0).must, e, hlt, rfl, fun w' hb => ⟨?_, ?_, ?_, ?_, ?_, ?_, ?_⟩⟩
  · exact hc w' hb 0 _ rfl
  · exact hc w' hb 1 _ rfl
  · exact hc w' hb 2 _ rfl
  · exact hc w' hb 3 _ rfl
  · exact hc w' hb 4 _ rfl
  · exact hc w' hb 5 _ rfl
  · exact hc w' hb 6 _ rfl
theorem en_split (t : En) : ∃ z0 z1 z2 z3 z4 z5 z6, t = ⟨z0, z1, z2, z3, z4, z5, z6⟩ := ⟨t.id, t.saga, t.step, t.back, t.op, t.sum, t.must, rfl⟩
/-- The results of a function whose first result stands in a cell. -/
theorem results_en {fn : Func} {j k : Nat} (h : fn.results = #[.cell j 23, .tmp k]) (tmps : Array Value) (w : World) (b : Nat) (v0 v1 v2 v3 v4 v5 v6 : Value) (hp : tmps.getD j undef = .pointer (some ⟨b, 0, none⟩))
    (c : At7 23 w b v0 v1 v2 v3 v4 v5 v6) : (results fn tmps).run Try.prog w = .ok (.tuple #[.agg #[v0, v1, v2, v3, v4, v5, v6], tmps.getD k undef]) w := by
  have hp' : tmps[j]?.getD undef = .pointer (some ⟨b, 0, none⟩) := by rw [← hp]; simp
  obtain ⟨c0, c1, c2, c3, c4, c5, c6⟩ := cells7 c
  simp only [results, h]
  go_simp
/-- The results of a function whose results both stand in cells. -/
theorem results_en2 {fn : Func} {j k : Nat} (h : fn.results = #[.cell j 23, .cell k 4]) (tmps : Array Value) (w : World) (b d : Nat) (v0 v1 v2 v3 v4 v5 v6 v : Value) (hp : tmps.getD j undef = .pointer (some ⟨b, 0, none⟩)) (hq : tmps.getD k undef = .pointer (some ⟨d, 0, none⟩))
    (c : At7 23 w b v0 v1 v2 v3 v4 v5 v6) (hd : w.cell? ⟨d, 0, none⟩ = some v) : (results fn tmps).run Try.prog w = .ok (.tuple #[.agg #[v0, v1, v2, v3, v4, v5, v6], v]) w := by
  have hp' : tmps[j]?.getD undef = .pointer (some ⟨b, 0, none⟩) := by rw [← hp]; simp
  have hq' : tmps[k]?.getD undef = .pointer (some ⟨d, 0, none⟩) := by rw [← hq]; simp
  obtain ⟨c0, c1, c2, c3, c4, c5, c6⟩ := cells7 c
  simp only [results, h]
  go_simp
/-- An entry's cells in a block of its own. -/
theorem own_cells {W : World} {k : Nat} {x0 x1 x2 : Int} {x3 : Bool} {x4 x5 : Int} {x6 : Bool} (h : At7 23 W k (.int .i64 x0) (.int .i64 x1) (.int .i64 x2) (.bool x3) (.int .i64 x4) (.int .i64 x5) (.bool x6)) : ∀ (j : Nat) (u : Value), (enS.c ⟨x0, x1, x2, x3, x4, x5, x6⟩)[j]? = some u → W.cell? ⟨k, j, none⟩ = some u := by
  intro j u hu
  rw [cell_of_heap h, ← hu]
  simp [enS, ecell]
abbrev ev (x0 x1 x2 : Int) (x3 : Bool) (x4 x5 : Int) (x6 : Bool) : Value := .agg #[.int .i64 x0, .int .i64 x1, .int .i64 x2, .bool x3, .int .i64 x4, .int .i64 x5, .bool x6]
/-- The model's comparison of two entries. -/
theorem eqin_en (x0 x1 x2 : Int) (x3 : Bool) (x4 x5 : Int) (x6 : Bool) (y0 y1 y2 : Int) (y3 : Bool) (y4 y5 : Int) (y6 : Bool) (w : World) : (Op.equalIn 10000 23 (ev x0 x1 x2 x3 x4 x5 x6) (ev y0 y1 y2 y3 y4 y5 y6)).run Try.prog w = .ok (eqE ⟨x0, x1, x2, x3, x4, x5, x6⟩ ⟨y0, y1, y2, y3, y4, y5, y6⟩) w := by
  have hS : Try.prog.underlying 23 = some (.struct (Try.prog.fieldsOf 23)) := by kernel_rfl
  have hp : Try.prog.stoodInHeld 23 = false := by kernel_rfl
  have u3 := Try.underlying3
  have a3 := Try.isAgg3
  have z3 := Try.sizeOf3
  have u4 := Try.underlying4
  have a4 := Try.isAgg4
  have z4 := Try.sizeOf4
  rw [show (10000 : Nat) = 9999 + 1 from rfl, run_equalIn_agg w 9999 23 _ _ hS hp]
  simp only [Program.fieldsOf, Try.underlying23]
  go_simp
  unfold eqE
  by_cases h0 : x0 = y0
  · by_cases h1 : x1 = y1
    · by_cases h2 : x2 = y2
      · by_cases h3 : x3 = y3
        · by_cases h4 : x4 = y4
          · by_cases h5 : x5 = y5
            · by_cases h6 : x6 = y6 <;> simp [h0, h1, h2, h3, h4, h5, h6]
            · simp [h0, h1, h2, h3, h4, h5]
          · simp [h0, h1, h2, h3, h4]
        · simp [h0, h1, h2, h3]
      · simp [h0, h1, h2]
    · simp [h0, h1]
  · simp [h0]
theorem neq_en (x0 x1 x2 : Int) (x3 : Bool) (x4 x5 : Int) (x6 : Bool) (y0 y1 y2 : Int) (y3 : Bool) (y4 y5 : Int) (y6 : Bool) (w : World) : (binOp .neq 23 (ev x0 x1 x2 x3 x4 x5 x6) (ev y0 y1 y2 y3 y4 y5 y6)).run Try.prog w = .ok (.bool (!(eqE ⟨x0, x1, x2, x3, x4, x5, x6⟩ ⟨y0, y1, y2, y3, y4, y5, y6⟩))) w := by
  rw [run_neq_struct, eqin_en]; rfl
theorem eql_en (x0 x1 x2 : Int) (x3 : Bool) (x4 x5 : Int) (x6 : Bool) (y0 y1 y2 : Int) (y3 : Bool) (y4 y5 : Int) (y6 : Bool) (w : World) : (binOp .eql 23 (ev x0 x1 x2 x3 x4 x5 x6) (ev y0 y1 y2 y3 y4 y5 y6)).run Try.prog w = .ok (.bool (eqE ⟨x0, x1, x2, x3, x4, x5, x6⟩ ⟨y0, y1, y2, y3, y4, y5, y6⟩)) w := by
  rw [run_eql_struct, eqin_en]; rfl
theorem guard_en (p : BinOp) (x y : Operand) (x0 x1 x2 : Int) (x3 : Bool) (x4 x5 : Int) (x6 : Bool) (y0 y1 y2 : Int) (y3 : Bool) (y4 y5 : Int) (y6 : Bool) (w : World) : (eqGuard p 23 x y (ev x0 x1 x2 x3 x4 x5 x6) (ev y0 y1 y2 y3 y4 y5 y6)).run Try.prog w = .ok () w := run_eqGuard_agg w _ _ _ _ _ _ (by kernel_rfl)
theorem eqE_self (t : En) : eqE t t = true := eqE_iff.2 rfl
/-- A row of entries of the call's own. -/
def RowP (w : World) (l : List En) (e : Ending) (w' : World) : Prop := ∃ v, e = .returned v ∧ w'.ownsRow w.heap.size 23 7 v l.length (Rw.cells enS l) ∧ Below w.heap.size w w'
/-- A row that comes back is a slice of its entries. -/
theorem RowP.at {w w' : World} {l : List En} {e : Ending} {n : Nat} (h : RowP w l e w') (hn : l.length = n) (hs : n ≤ 1000000) :
    ∃ a c, e = .returned (.slice a n c) ∧ n ≤ c ∧ EnAt w' a n l ∧ w'.ownsRow w.heap.size 23 7 (.slice a n c) n (Rw.cells enS l) ∧ Below w.heap.size w w' := by
  obtain ⟨v, rfl, hO, hb⟩ := h
  rw [hn] at hO
  obtain ⟨a, c, rfl, hc⟩ := Rw.owns_slice hO
  exact ⟨a, c, rfl, hc, Rw.own_at (S := enS) hO hn (by omega), hO, hb⟩
/-! ### numbers, services -/
theorem nfit_is (n : Int) (v : Bool) (hv : amtE n = v) (w : World) : Calls Try.prog 62 #[.int .i64 n] w fun e w' => e = .returned (.bool v) ∧ w = w' := by
  have h := Num.fit_any n w
  rw [show NumP.amt n = amtE n from rfl, hv] at h
  exact h
theorem nrfit_is (n : Int) (v : Bool) (hv : amtE n = v) (w : World) : Calls Try.prog 52 #[.int .i64 n] w fun e w' => e = .returned (.bool v) ∧ w = w' := by
  have h := Num.rfit_any n w
  rw [show NumP.amt n = amtE n from rfl, hv] at h
  exact h
def numE (n : Int) : Bool := decide (1 ≤ n) && amtE n
theorem number_is (n : Int) (v : Bool) (hv : numE n = v) (w : World) : Calls Try.prog 61 #[.int .i64 n] w fun e w' => e = .returned (.bool v) ∧ w = w' := by
  subst hv
  by_cases h : 1 ≤ n
  · obtain ⟨b, hb⟩ : ∃ b, amtE n = b := ⟨_, rfl⟩
    have HR : Hid (numE n = b) := by show _ = _; unfold numE; rw [decide_eq_true h, hb]; rfl
    have K := Lib.hid (nfit_is n b hb)
    clear hb
    go_enter Try.func61, Try.ntmps61
    go_wp2_with fail
    refine (K.out _).mono ?_
    rintro e w1 ⟨rfl, rfl⟩
    go_wp2_with fail
    go_ret
    exact ⟨ret_bool HR.out, rfl⟩
  · have HR : Hid (numE n = false) := by show _ = _; unfold numE; rw [decide_eq_false h]; rfl
    go_enter Try.func61, Try.ntmps61
    go_wp2_with fail
    go_ret
    exact ⟨ret_bool HR.out, rfl⟩
theorem serviceV_range (n : Int) : serviceV n = 0 ∨ serviceV n = 1 ∨ serviceV n = 2 := by
  unfold serviceV; split
  · exact .inr (.inl rfl)
  · split
    · exact .inr (.inr rfl)
    · exact .inl rfl

theorem service_any (n : Int) (w : World) : Calls Try.prog 49 #[.int .i64 n] w fun e w' => e = .returned (.int .i64 (serviceV n)) ∧ w = w' := by
  by_cases h2 : n = 2
  · subst h2
    go_enter Try.func49, Try.ntmps49
    go_wp2_with fail
    go_ret
    exact ⟨rfl, rfl⟩
  by_cases h6 : n = 6
  · subst h6
    go_enter Try.func49, Try.ntmps49
    go_wp2_with fail
    go_ret
    exact ⟨rfl, rfl⟩
  by_cases h4 : n = 4
  · subst h4
    go_enter Try.func49, Try.ntmps49
    go_wp2_with fail
    go_ret
    exact ⟨rfl, rfl⟩
  have HR : Hid (serviceV n = 0) := by show _ = _; unfold serviceV; rw [if_neg (by omega), if_neg h4]
  have e2 : (n == 2) = false := beq_eq_false_iff_ne.2 h2
  have e6 : (n == 6) = false := beq_eq_false_iff_ne.2 h6
  have e4 : (n == 4) = false := beq_eq_false_iff_ne.2 h4
  clear h2 h6 h4
  go_enter Try.func49, Try.ntmps49
  go_wp2_with fail
  go_ret
  exact ⟨ret_int HR.out, rfl⟩

theorem rservice_any (n : Int) (w : World) : Calls Try.prog 36 #[.int .i64 n] w fun e w' => e = .returned (.int .i64 (serviceV n)) ∧ w = w' := by
  by_cases h2 : n = 2
  · subst h2
    go_enter Try.func36, Try.ntmps36
    go_wp2_with fail
    go_ret
    exact ⟨rfl, rfl⟩
  by_cases h6 : n = 6
  · subst h6
    go_enter Try.func36, Try.ntmps36
    go_wp2_with fail
    go_ret
    exact ⟨rfl, rfl⟩
  by_cases h4 : n = 4
  · subst h4
    go_enter Try.func36, Try.ntmps36
    go_wp2_with fail
    go_ret
    exact ⟨rfl, rfl⟩
  have HR : Hid (serviceV n = 0) := by show _ = _; unfold serviceV; rw [if_neg (by omega), if_neg h4]
  have e2 : (n == 2) = false := beq_eq_false_iff_ne.2 h2
  have e6 : (n == 6) = false := beq_eq_false_iff_ne.2 h6
  have e4 : (n == 4) = false := beq_eq_false_iff_ne.2 h4
  clear h2 h6 h4
  go_enter Try.func36, Try.ntmps36
  go_wp2_with fail
  go_ret
  exact ⟨ret_int HR.out, rfl⟩

theorem service_is (n s : Int) (hs : serviceV n = s) (w : World) : Calls Try.prog 49 #[.int .i64 n] w fun e w' => e = .returned (.int .i64 s) ∧ w = w' := by
  rw [← hs]; exact service_any n w
theorem rservice_is (n s : Int) (hs : serviceV n = s) (w : World) : Calls Try.prog 36 #[.int .i64 n] w fun e w' => e = .returned (.int .i64 s) ∧ w = w' := by
  rw [← hs]; exact rservice_any n w
theorem one_split (x0 x1 x2 : Int) (x3 : Bool) (x4 x5 : Int) (x6 : Bool) : oneE ⟨x0, x1, x2, x3, x4, x5, x6⟩ = (numE x0 && (numE x1 && (decide (0 ≤ x2) && (decide (x2 < 6) && (decide (serviceV x4 ≠ 0) && amtE x5))))) := by
  unfold oneE numE amtE
  by_cases h0 : 1 ≤ x0
  · by_cases h1 : x0 ≤ 1099511627776
    · by_cases h2 : 1 ≤ x1
      · by_cases h3 : x1 ≤ 1099511627776
        · simp [h0, h1, h2, h3, show 0 ≤ x0 by omega, show 0 ≤ x1 by omega]
        · simp [h3]
      · simp [h2]
    · simp [h1]
  · simp [h0]

theorem valid_is (x0 x1 x2 : Int) (x3 : Bool) (x4 x5 : Int) (x6 : Bool) (v : Bool) (hv : oneE ⟨x0, x1, x2, x3, x4, x5, x6⟩ = v) (w : World) :
    Calls Try.prog 50 #[.agg #[.int .i64 x0, .int .i64 x1, .int .i64 x2, .bool x3, .int .i64 x4, .int .i64 x5, .bool x6]] w fun e w' => e = .returned (.bool v) ∧ Below w.heap.size w w' := by

  rw [one_split] at hv
  cases h0 : numE x0 with
  | false =>
    rw [h0] at hv
    have HR : Hid (v = false) := by show _ = _; rw [← hv]; simp
    have K0 := Lib.hid (number_is x0 false h0)
    clear hv h0
    have HB0 := Lib.hid (bx7_new 23 w (.int .i64 x0) (.int .i64 x1) (.int .i64 x2) (.bool x3) (.int .i64 x4) (.int .i64 x5) (.bool x6))
    go_enter Try.func50, Try.ntmps50
    go_wp2_with fail
    refine (K0.out _).mono ?_
    rintro e w1 ⟨rfl, rfl⟩
    obtain ⟨q0, q1, q2, q3, q4, q5, q6⟩ := cells7 HB0.out.box
    go_wp2_with fail
    go_ret
    exact ⟨ret_bool HR.out, HB0.out.bel⟩
  | true =>
  rw [h0] at hv
  have K0 := Lib.hid (number_is x0 true h0)
  clear h0
  cases h1 : numE x1 with
  | false =>
    rw [h1] at hv
    have HR : Hid (v = false) := by show _ = _; rw [← hv]; simp
    have K1 := Lib.hid (number_is x1 false h1)
    clear hv h1
    have HB0 := Lib.hid (bx7_new 23 w (.int .i64 x0) (.int .i64 x1) (.int .i64 x2) (.bool x3) (.int .i64 x4) (.int .i64 x5) (.bool x6))
    go_enter Try.func50, Try.ntmps50
    go_wp2_with fail
    refine (K0.out _).mono ?_
    rintro e w1 ⟨rfl, rfl⟩
    obtain ⟨q0, q1, q2, q3, q4, q5, q6⟩ := cells7 HB0.out.box
    go_wp2_with fail
    refine (K1.out _).mono ?_
    rintro e w1 ⟨rfl, rfl⟩
    go_wp2_with fail
    go_ret
    exact ⟨ret_bool HR.out, HB0.out.bel⟩
  | true =>
  rw [h1] at hv
  have K1 := Lib.hid (number_is x1 true h1)
  clear h1
  by_cases h2 : 0 ≤ x2
  rotate_left
  · have HR : Hid (v = false) := by show _ = _; rw [← hv]; simp [h2]
    clear hv
    have HB0 := Lib.hid (bx7_new 23 w (.int .i64 x0) (.int .i64 x1) (.int .i64 x2) (.bool x3) (.int .i64 x4) (.int .i64 x5) (.bool x6))
    go_enter Try.func50, Try.ntmps50
    go_wp2_with fail
    refine (K0.out _).mono ?_
    rintro e w1 ⟨rfl, rfl⟩
    obtain ⟨q0, q1, q2, q3, q4, q5, q6⟩ := cells7 HB0.out.box
    go_wp2_with fail
    refine (K1.out _).mono ?_
    rintro e w1 ⟨rfl, rfl⟩
    go_wp2_with fail
    go_ret
    exact ⟨ret_bool HR.out, HB0.out.bel⟩
  by_cases h3 : x2 < 6
  rotate_left
  · have HR : Hid (v = false) := by show _ = _; rw [← hv]; simp [h3]
    clear hv
    have HB0 := Lib.hid (bx7_new 23 w (.int .i64 x0) (.int .i64 x1) (.int .i64 x2) (.bool x3) (.int .i64 x4) (.int .i64 x5) (.bool x6))
    go_enter Try.func50, Try.ntmps50
    go_wp2_with fail
    refine (K0.out _).mono ?_
    rintro e w1 ⟨rfl, rfl⟩
    obtain ⟨q0, q1, q2, q3, q4, q5, q6⟩ := cells7 HB0.out.box
    go_wp2_with fail
    refine (K1.out _).mono ?_
    rintro e w1 ⟨rfl, rfl⟩
    go_wp2_with fail
    go_ret
    exact ⟨ret_bool HR.out, HB0.out.bel⟩
  obtain ⟨s, hs⟩ : ∃ s, serviceV x4 = s := ⟨_, rfl⟩
  have K2 := Lib.hid (service_is x4 s hs)
  rw [hs, decide_eq_true h2, decide_eq_true h3] at hv
  clear hs
  by_cases h4 : s = 0
  · have HR : Hid (v = false) := by show _ = _; rw [← hv]; simp [h4]
    have e4 : (s != 0) = false := by simp [h4]
    clear hv h4
    have HB0 := Lib.hid (bx7_new 23 w (.int .i64 x0) (.int .i64 x1) (.int .i64 x2) (.bool x3) (.int .i64 x4) (.int .i64 x5) (.bool x6))
    go_enter Try.func50, Try.ntmps50
    go_wp2_with fail
    refine (K0.out _).mono ?_
    rintro e w1 ⟨rfl, rfl⟩
    obtain ⟨q0, q1, q2, q3, q4, q5, q6⟩ := cells7 HB0.out.box
    go_wp2_with fail
    refine (K1.out _).mono ?_
    rintro e w1 ⟨rfl, rfl⟩
    go_wp2_with fail
    refine (K2.out _).mono ?_
    rintro e w1 ⟨rfl, rfl⟩
    go_wp2_with fail
    go_ret
    exact ⟨ret_bool HR.out, HB0.out.bel⟩
  have HR : Hid (v = amtE x5) := by show _ = _; rw [← hv]; simp [h4]
  have e4 : (s != 0) = true := by simp [h4]
  have K3 := Lib.hid (nfit_is x5 v HR.out.symm)
  clear hv h4
  have HB0 := Lib.hid (bx7_new 23 w (.int .i64 x0) (.int .i64 x1) (.int .i64 x2) (.bool x3) (.int .i64 x4) (.int .i64 x5) (.bool x6))
  go_enter Try.func50, Try.ntmps50
  go_wp2_with fail
  refine (K0.out _).mono ?_
  rintro e w1 ⟨rfl, rfl⟩
  obtain ⟨q0, q1, q2, q3, q4, q5, q6⟩ := cells7 HB0.out.box
  go_wp2_with fail
  refine (K1.out _).mono ?_
  rintro e w1 ⟨rfl, rfl⟩
  go_wp2_with fail
  refine (K2.out _).mono ?_
  rintro e w1 ⟨rfl, rfl⟩
  go_wp2_with fail
  refine (K3.out _).mono ?_
  rintro e w1 ⟨rfl, rfl⟩
  go_wp2_with fail
  go_ret
  exact ⟨rfl, HB0.out.bel⟩

theorem rone_is (x0 x1 x2 : Int) (x3 : Bool) (x4 x5 : Int) (x6 : Bool) (v : Bool) (hv : oneE ⟨x0, x1, x2, x3, x4, x5, x6⟩ = v) (w : World) :
    Calls Try.prog 35 #[.agg #[.int .i64 x0, .int .i64 x1, .int .i64 x2, .bool x3, .int .i64 x4, .int .i64 x5, .bool x6]] w fun e w' => e = .returned (.bool v) ∧ Below w.heap.size w w' := by

  unfold oneE at hv
  dsimp only at hv
  by_cases h0 : 1 ≤ x0
  rotate_left
  · have HR : Hid (v = false) := by show _ = _; rw [← hv]; simp [h0]
    clear hv
    have HB0 := Lib.hid (bx7_new 23 w (.int .i64 x0) (.int .i64 x1) (.int .i64 x2) (.bool x3) (.int .i64 x4) (.int .i64 x5) (.bool x6))
    go_enter Try.func35, Try.ntmps35
    go_wp2_with fail
    go_ret
    exact ⟨ret_bool HR.out, HB0.out.bel⟩
  by_cases h1 : x0 ≤ 1099511627776
  rotate_left
  · have HR : Hid (v = false) := by show _ = _; rw [← hv]; simp [h1]
    clear hv
    have HB0 := Lib.hid (bx7_new 23 w (.int .i64 x0) (.int .i64 x1) (.int .i64 x2) (.bool x3) (.int .i64 x4) (.int .i64 x5) (.bool x6))
    go_enter Try.func35, Try.ntmps35
    go_wp2_with fail
    go_ret
    exact ⟨ret_bool HR.out, HB0.out.bel⟩
  by_cases h2 : 1 ≤ x1
  rotate_left
  · have HR : Hid (v = false) := by show _ = _; rw [← hv]; simp [h2]
    clear hv
    have HB0 := Lib.hid (bx7_new 23 w (.int .i64 x0) (.int .i64 x1) (.int .i64 x2) (.bool x3) (.int .i64 x4) (.int .i64 x5) (.bool x6))
    go_enter Try.func35, Try.ntmps35
    go_wp2_with fail
    go_ret
    exact ⟨ret_bool HR.out, HB0.out.bel⟩
  by_cases h3 : x1 ≤ 1099511627776
  rotate_left
  · have HR : Hid (v = false) := by show _ = _; rw [← hv]; simp [h3]
    clear hv
    have HB0 := Lib.hid (bx7_new 23 w (.int .i64 x0) (.int .i64 x1) (.int .i64 x2) (.bool x3) (.int .i64 x4) (.int .i64 x5) (.bool x6))
    go_enter Try.func35, Try.ntmps35
    go_wp2_with fail
    go_ret
    exact ⟨ret_bool HR.out, HB0.out.bel⟩
  by_cases h4 : 0 ≤ x2
  rotate_left
  · have HR : Hid (v = false) := by show _ = _; rw [← hv]; simp [h4]
    clear hv
    have HB0 := Lib.hid (bx7_new 23 w (.int .i64 x0) (.int .i64 x1) (.int .i64 x2) (.bool x3) (.int .i64 x4) (.int .i64 x5) (.bool x6))
    go_enter Try.func35, Try.ntmps35
    go_wp2_with fail
    go_ret
    exact ⟨ret_bool HR.out, HB0.out.bel⟩
  by_cases h5 : x2 < 6
  rotate_left
  · have HR : Hid (v = false) := by show _ = _; rw [← hv]; simp [h5]
    clear hv
    have HB0 := Lib.hid (bx7_new 23 w (.int .i64 x0) (.int .i64 x1) (.int .i64 x2) (.bool x3) (.int .i64 x4) (.int .i64 x5) (.bool x6))
    go_enter Try.func35, Try.ntmps35
    go_wp2_with fail
    go_ret
    exact ⟨ret_bool HR.out, HB0.out.bel⟩
  obtain ⟨s, hs⟩ : ∃ s, serviceV x4 = s := ⟨_, rfl⟩
  have K2 := Lib.hid (rservice_is x4 s hs)
  rw [hs, decide_eq_true h0, decide_eq_true h1, decide_eq_true h2, decide_eq_true h3, decide_eq_true h4, decide_eq_true h5] at hv
  clear hs
  by_cases h6 : s = 0
  · have HR : Hid (v = false) := by show _ = _; rw [← hv]; simp [h6]
    have e4 : (s != 0) = false := by simp [h6]
    clear hv h6
    have HB0 := Lib.hid (bx7_new 23 w (.int .i64 x0) (.int .i64 x1) (.int .i64 x2) (.bool x3) (.int .i64 x4) (.int .i64 x5) (.bool x6))
    go_enter Try.func35, Try.ntmps35
    go_wp2_with fail
    refine (K2.out _).mono ?_
    rintro e w1 ⟨rfl, rfl⟩
    obtain ⟨q0, q1, q2, q3, q4, q5, q6⟩ := cells7 HB0.out.box
    go_wp2_with fail
    go_ret
    exact ⟨ret_bool HR.out, HB0.out.bel⟩
  have HR : Hid (v = amtE x5) := by show _ = _; rw [← hv]; simp [h6]
  have e4 : (s != 0) = true := by simp [h6]
  have K3 := Lib.hid (nrfit_is x5 v HR.out.symm)
  clear hv h6
  have HB0 := Lib.hid (bx7_new 23 w (.int .i64 x0) (.int .i64 x1) (.int .i64 x2) (.bool x3) (.int .i64 x4) (.int .i64 x5) (.bool x6))
  go_enter Try.func35, Try.ntmps35
  go_wp2_with fail
  refine (K2.out _).mono ?_
  rintro e w1 ⟨rfl, rfl⟩
  obtain ⟨q0, q1, q2, q3, q4, q5, q6⟩ := cells7 HB0.out.box
  go_wp2_with fail
  refine (K3.out _).mono ?_
  rintro e w1 ⟨rfl, rfl⟩
  go_wp2_with fail
  go_ret
  exact ⟨rfl, HB0.out.bel⟩

end Go.Proofs.Ytamcidlkbhanfaa.Outbox
