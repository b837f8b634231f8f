/-
  A step in memory; the contracts of Service, Outside, Delay (both), Must, the document's words: any step; what was there stays as it was.
-/
import Derived.Test.YtdpgfnnhbfkacaaDoorStepPlain
import Derived.Test.YtdpgfnnhbfkacaaDoorBackA
import Derived.Test.YtdpgfnnhbfkacaaDoorKt6
import Derived.Test.YtdpgfnnhbfkacaaDoorRw
import Derived.ChangeKeysEq
set_option linter.unusedVariables false
set_option linter.unusedSimpArgs false
set_option maxRecDepth 4000
set_option maxRecDepth 4000
namespace Go.Proofs.YtdpgfnnhbfkacaaDoor.Step
open Go.RowKit StP
open Go.Proofs.YtdpgfnnhbfkacaaDoor.Kt

abbrev sv (x0 x1 x2 x3 x4 x5 : Int) : Value := .agg #[.int .i64 x0, .int .i64 x1, .int .i64 x2, .int .i64 x3, .int .i64 x4, .int .i64 x5]
def stV (t : St) : Value := sv t.op t.cls t.tries t.base t.cap t.wait
theorem st_split (t : St) : ∃ z0 z1 z2 z3 z4 z5, t = ⟨z0, z1, z2, z3, z4, z5⟩ := ⟨t.op, t.cls, t.tries, t.base, t.cap, t.wait, rfl⟩
/-- The results of a function whose first result stands in a cell. -/
theorem results_st {fn : Func} {j k : Nat} (h : fn.results = #[.cell j 29, .tmp k]) (tmps : Array Value) (w : World) (b : Nat) (v0 v1 v2 v3 v4 v5 : Value) (hp : tmps.getD j undef = .pointer (some ⟨b, 0, none⟩))
    (c : At6 29 w b v0 v1 v2 v3 v4 v5) : (results fn tmps).run Tryd.prog w = .ok (.tuple #[.agg #[v0, v1, v2, v3, v4, v5], tmps.getD k undef]) w := by
  have hp' : tmps[j]?.getD undef = .pointer (some ⟨b, 0, none⟩) := by rw [← hp]; simp
  obtain ⟨c0, c1, c2, c3, c4, c5⟩ := cells6 c
  simp only [results, h]
  go_simp
/-- The model's comparison of two steps. -/
theorem eqin_st (x0 x1 x2 x3 x4 x5 : Int) (y0 y1 y2 y3 y4 y5 : Int) (w : World) : (Op.equalIn 10000 29 (sv x0 x1 x2 x3 x4 x5) (sv y0 y1 y2 y3 y4 y5)).run Tryd.prog w = .ok (eqS ⟨x0, x1, x2, x3, x4, x5⟩ ⟨y0, y1, y2, y3, y4, y5⟩) w := by
  have hS : Tryd.prog.underlying 29 = some (.struct (Tryd.prog.fieldsOf 29)) := by kernel_rfl
  have hp : Tryd.prog.stoodInHeld 29 = false := by kernel_rfl
  have u3 := Tryd.underlying3
  have a3 := Tryd.isAgg3
  have z3 := Tryd.sizeOf3
  rw [show (10000 : Nat) = 9999 + 1 from rfl, run_equalIn_agg w 9999 29 _ _ hS hp]
  simp only [Program.fieldsOf, Tryd.underlying29]
  go_simp
  unfold eqS

  by_cases h0 : x0 = y0
  · by_cases h1 : x1 = y1
    · by_cases h2 : x2 = y2
      · by_cases h3 : x3 = y3
        · by_cases h4 : x4 = y4
          · by_cases h5 : x5 = y5 <;> simp [h0, h1, h2, h3, h4, h5]
          · simp [h0, h1, h2, h3, h4]
        · simp [h0, h1, h2, h3]
      · simp [h0, h1, h2]
    · simp [h0, h1]
  · simp [h0]

theorem neq_st (x0 x1 x2 x3 x4 x5 : Int) (y0 y1 y2 y3 y4 y5 : Int) (w : World) : (binOp .neq 29 (sv x0 x1 x2 x3 x4 x5) (sv y0 y1 y2 y3 y4 y5)).run Tryd.prog w = .ok (.bool (!(eqS ⟨x0, x1, x2, x3, x4, x5⟩ ⟨y0, y1, y2, y3, y4, y5⟩))) w := by
  rw [run_neq_struct, eqin_st]; rfl
theorem eql_st (x0 x1 x2 x3 x4 x5 : Int) (y0 y1 y2 y3 y4 y5 : Int) (w : World) : (binOp .eql 29 (sv x0 x1 x2 x3 x4 x5) (sv y0 y1 y2 y3 y4 y5)).run Tryd.prog w = .ok (.bool (eqS ⟨x0, x1, x2, x3, x4, x5⟩ ⟨y0, y1, y2, y3, y4, y5⟩)) w := by
  rw [run_eql_struct, eqin_st]; rfl
theorem guard_st (p : BinOp) (x y : Operand) (x0 x1 x2 x3 x4 x5 : Int) (y0 y1 y2 y3 y4 y5 : Int) (w : World) : (eqGuard p 29 x y (sv x0 x1 x2 x3 x4 x5) (sv y0 y1 y2 y3 y4 y5)).run Tryd.prog w = .ok () w := run_eqGuard_agg w _ _ _ _ _ _ (by kernel_rfl)
/-- The octets of a list as a text. -/
def bs (l : List UInt8) : ByteArray := ⟨l.toArray⟩
theorem ret_str {s t : ByteArray} (h : s = t) : Ending.returned (.string s) = .returned (.string t) := by rw [h]
theorem bs_data (s : ByteArray) : bs s.data.toList = s := by cases s; simp [bs]
theorem data_bs (l : List UInt8) : (bs l).data.toList = l := by simp [bs]
def serviceV (op : Int) : Int := if op = 2 ∨ op = 6 then 1 else if op = 4 then 2 else 0

def outsideV (n : Int) : Bool := !(serviceV n == 0)
def routsideV (n : Int) : Bool := !(serviceV n == 0)
theorem must_is (x0 x1 x2 x3 x4 x5 : Int) (v : Bool) (hv : (x1 == 3) = v) (w : World) : Calls Tryd.prog 55 #[.agg #[.int .i64 x0, .int .i64 x1, .int .i64 x2, .int .i64 x3, .int .i64 x4, .int .i64 x5]] w fun e w' => e = .returned (.bool v) ∧ Below w.heap.size w w' := by
  have HR : Hid (v = (x1 == 3)) := hv.symm
  clear hv
  have HB0 := Lib.hid (bx6_new 29 w (.int .i64 x0) (.int .i64 x1) (.int .i64 x2) (.int .i64 x3) (.int .i64 x4) (.int .i64 x5))
  obtain ⟨q0, q1, q2, q3, q4, q5⟩ := cells6 HB0.out.box
  go_enter Tryd.func55, Tryd.ntmps55
  go_wp2_with fail
  go_ret
  exact ⟨ret_bool HR.out, HB0.out.bel⟩

end Go.Proofs.YtdpgfnnhbfkacaaDoor.Step
