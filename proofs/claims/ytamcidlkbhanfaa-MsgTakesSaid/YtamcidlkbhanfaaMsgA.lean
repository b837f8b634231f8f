/-
  Replies and envelopes as values and in cells; the contracts of number, service and both FitReplys: any; what was there stays as it was.
-/
import Derived.Test.YtamcidlkbhanfaaMsgPlain
import Derived.Test.YtamcidlkbhanfaaOutboxA
import Derived.Test.YtamcidlkbhanfaaKt17
import Derived.ChangeKeysEq
set_option linter.unusedVariables false
set_option linter.unusedSimpArgs false
set_option maxRecDepth 4000
namespace Go.Proofs.Ytamcidlkbhanfaa.Msg
open Go.RowKit MsgP
open Go.Proofs.Ytamcidlkbhanfaa.Kt

open Outbox (ev)
abbrev rv (r0 : Int) (r1 : Int) (r2 : Int) (r3 : Int) (r4 : Bool) (r5 : Int) (r6 : Int) : Value := .agg #[.int .i64 r0, .int .i64 r1, .int .i64 r2, .int .i64 r3, .bool r4, .int .i64 r5, .int .i64 r6]
abbrev vv (n0 : Int) (n1 : Bool) (n2 : Int) (x0 : Int) (x1 : Int) (x2 : Int) (x3 : Bool) (x4 : Int) (x5 : Int) (x6 : Bool) (r0 : Int) (r1 : Int) (r2 : Int) (r3 : Int) (r4 : Bool) (r5 : Int) (r6 : Int) : Value := .agg #[.int .i64 n0, .bool n1, .int .i64 n2, .int .i64 x0, .int .i64 x1, .int .i64 x2, .bool x3, .int .i64 x4, .int .i64 x5, .bool x6, .int .i64 r0, .int .i64 r1, .int .i64 r2, .int .i64 r3, .bool r4, .int .i64 r5, .int .i64 r6]
theorem rp_split (t : Rp) : ∃ r0 r1 r2 r3 r4 r5 r6, t = ⟨r0, r1, r2, r3, r4, r5, r6⟩ := ⟨t.service, t.id, t.saga, t.step, t.back, t.msg, t.verdict, rfl⟩
theorem ev_split (t : Ev) : ∃ n0 n1 n2 x0 x1 x2 x3 x4 x5 x6 r0 r1 r2 r3 r4 r5 r6, t = ⟨n0, n1, n2, ⟨x0, x1, x2, x3, x4, x5, x6⟩, ⟨r0, r1, r2, r3, r4, r5, r6⟩⟩ := ⟨t.num, t.ask, t.service, t.entry.id, t.entry.saga, t.entry.step, t.entry.back, t.entry.op, t.entry.sum, t.entry.must, t.reply.service, t.reply.id, t.reply.saga, t.reply.step, t.reply.back, t.reply.msg, t.reply.verdict, rfl⟩
/-- The result of a function whose one result stands in a cell. -/
theorem results_e {fn : Func} {j : Nat} (h : fn.results = #[.cell j 23]) (tmps : Array Value) (w : World) (b : Nat) (v0 v1 v2 v3 v4 v5 v6 : Value) (hp : tmps.getD j undef = .pointer (some ⟨b, 0, none⟩))
    (c : At7 23 w b v0 v1 v2 v3 v4 v5 v6) : (results fn tmps).run Try.prog w = .ok (.agg #[v0, v1, v2, v3, v4, v5, v6]) w := by
  have hp' : tmps[j]?.getD undef = .pointer (some ⟨b, 0, none⟩) := by rw [← hp]; simp
  obtain ⟨c0, c1, c2, c3, c4, c5, c6⟩ := cells7 c
  simp only [results, h]
  go_simp
/-- The result of a function whose one result stands in a cell. -/
theorem results_r {fn : Func} {j : Nat} (h : fn.results = #[.cell j 25]) (tmps : Array Value) (w : World) (b : Nat) (v0 v1 v2 v3 v4 v5 v6 : Value) (hp : tmps.getD j undef = .pointer (some ⟨b, 0, none⟩))
    (c : At7 25 w b v0 v1 v2 v3 v4 v5 v6) : (results fn tmps).run Try.prog w = .ok (.agg #[v0, v1, v2, v3, v4, v5, v6]) w := by
  have hp' : tmps[j]?.getD undef = .pointer (some ⟨b, 0, none⟩) := by rw [← hp]; simp
  obtain ⟨c0, c1, c2, c3, c4, c5, c6⟩ := cells7 c
  simp only [results, h]
  go_simp
/-- The results of a function whose first result stands in a cell. -/
theorem results_v {fn : Func} {j k : Nat} (h : fn.results = #[.cell j 27, .tmp k]) (tmps : Array Value) (w : World) (b : Nat) (v0 v1 v2 v3 v4 v5 v6 v7 v8 v9 v10 v11 v12 v13 v14 v15 v16 : Value) (hp : tmps.getD j undef = .pointer (some ⟨b, 0, none⟩))
    (c : At17 27 w b v0 v1 v2 v3 v4 v5 v6 v7 v8 v9 v10 v11 v12 v13 v14 v15 v16) : (results fn tmps).run Try.prog w = .ok (.tuple #[.agg #[v0, v1, v2, v3, v4, v5, v6, v7, v8, v9, v10, v11, v12, v13, v14, v15, v16], tmps.getD k undef]) w := by
  have hp' : tmps[j]?.getD undef = .pointer (some ⟨b, 0, none⟩) := by rw [← hp]; simp
  obtain ⟨c0, c1, c2, c3, c4, c5, c6, c7, c8, c9, c10, c11, c12, c13, c14, c15, c16⟩ := cells17 c
  simp only [results, h]
  go_simp
theorem eqin_e9 (x0 : Int) (x1 : Int) (x2 : Int) (x3 : Bool) (x4 : Int) (x5 : Int) (x6 : Bool) (y0 : Int) (y1 : Int) (y2 : Int) (y3 : Bool) (y4 : Int) (y5 : Int) (y6 : Bool) (w : World) : (Op.equalIn 9999 23 (.agg #[.int .i64 x0, .int .i64 x1, .int .i64 x2, .bool x3, .int .i64 x4, .int .i64 x5, .bool x6]) (.agg #[.int .i64 y0, .int .i64 y1, .int .i64 y2, .bool y3, .int .i64 y4, .int .i64 y5, .bool y6])).run Try.prog w = .ok (MsgP.eqE ⟨x0, x1, x2, x3, x4, x5, x6⟩ ⟨y0, y1, y2, y3, y4, y5, y6⟩) w := by
  have hS : Try.prog.underlying 23 = some (.struct (Try.prog.fieldsOf 23)) := by kernel_rfl
  have hp : Try.prog.stoodInHeld 23 = false := by kernel_rfl
  have u3 := Try.underlying3
  have a3 := Try.isAgg3
  have z3 := Try.sizeOf3
  have u4 := Try.underlying4
  have a4 := Try.isAgg4
  have z4 := Try.sizeOf4
  rw [show (9999 : Nat) = 9998 + 1 from rfl, run_equalIn_agg w 9998 23 _ _ hS hp]
  simp only [Program.fieldsOf, Try.underlying23]
  go_simp
  unfold MsgP.eqE
  by_cases h0 : x0 = y0
  · by_cases h1 : x1 = y1
    · by_cases h2 : x2 = y2
      · by_cases h3 : x3 = y3
        · by_cases h4 : x4 = y4
          · by_cases h5 : x5 = y5
            · by_cases h6 : x6 = y6 <;> simp [h0, h1, h2, h3, h4, h5, h6]
            · simp [h0, h1, h2, h3, h4, h5]
          · simp [h0, h1, h2, h3, h4]
        · simp [h0, h1, h2, h3]
      · simp [h0, h1, h2]
    · simp [h0, h1]
  · simp [h0]

theorem eqin_r (x0 : Int) (x1 : Int) (x2 : Int) (x3 : Int) (x4 : Bool) (x5 : Int) (x6 : Int) (y0 : Int) (y1 : Int) (y2 : Int) (y3 : Int) (y4 : Bool) (y5 : Int) (y6 : Int) (w : World) : (Op.equalIn 10000 25 (.agg #[.int .i64 x0, .int .i64 x1, .int .i64 x2, .int .i64 x3, .bool x4, .int .i64 x5, .int .i64 x6]) (.agg #[.int .i64 y0, .int .i64 y1, .int .i64 y2, .int .i64 y3, .bool y4, .int .i64 y5, .int .i64 y6])).run Try.prog w = .ok (eqR ⟨x0, x1, x2, x3, x4, x5, x6⟩ ⟨y0, y1, y2, y3, y4, y5, y6⟩) w := by
  have hS : Try.prog.underlying 25 = some (.struct (Try.prog.fieldsOf 25)) := by kernel_rfl
  have hp : Try.prog.stoodInHeld 25 = false := by kernel_rfl
  have u3 := Try.underlying3
  have a3 := Try.isAgg3
  have z3 := Try.sizeOf3
  have u4 := Try.underlying4
  have a4 := Try.isAgg4
  have z4 := Try.sizeOf4
  rw [show (10000 : Nat) = 9999 + 1 from rfl, run_equalIn_agg w 9999 25 _ _ hS hp]
  simp only [Program.fieldsOf, Try.underlying25]
  go_simp
  unfold eqR
  by_cases h0 : x0 = y0
  · by_cases h1 : x1 = y1
    · by_cases h2 : x2 = y2
      · by_cases h3 : x3 = y3
        · by_cases h4 : x4 = y4
          · by_cases h5 : x5 = y5
            · by_cases h6 : x6 = y6 <;> simp [h0, h1, h2, h3, h4, h5, h6]
            · simp [h0, h1, h2, h3, h4, h5]
          · simp [h0, h1, h2, h3, h4]
        · simp [h0, h1, h2, h3]
      · simp [h0, h1, h2]
    · simp [h0, h1]
  · simp [h0]

theorem eqin_r9 (x0 : Int) (x1 : Int) (x2 : Int) (x3 : Int) (x4 : Bool) (x5 : Int) (x6 : Int) (y0 : Int) (y1 : Int) (y2 : Int) (y3 : Int) (y4 : Bool) (y5 : Int) (y6 : Int) (w : World) : (Op.equalIn 9999 25 (.agg #[.int .i64 x0, .int .i64 x1, .int .i64 x2, .int .i64 x3, .bool x4, .int .i64 x5, .int .i64 x6]) (.agg #[.int .i64 y0, .int .i64 y1, .int .i64 y2, .int .i64 y3, .bool y4, .int .i64 y5, .int .i64 y6])).run Try.prog w = .ok (eqR ⟨x0, x1, x2, x3, x4, x5, x6⟩ ⟨y0, y1, y2, y3, y4, y5, y6⟩) w := by
  have hS : Try.prog.underlying 25 = some (.struct (Try.prog.fieldsOf 25)) := by kernel_rfl
  have hp : Try.prog.stoodInHeld 25 = false := by kernel_rfl
  have u3 := Try.underlying3
  have a3 := Try.isAgg3
  have z3 := Try.sizeOf3
  have u4 := Try.underlying4
  have a4 := Try.isAgg4
  have z4 := Try.sizeOf4
  rw [show (9999 : Nat) = 9998 + 1 from rfl, run_equalIn_agg w 9998 25 _ _ hS hp]
  simp only [Program.fieldsOf, Try.underlying25]
  go_simp
  unfold eqR
  by_cases h0 : x0 = y0
  · by_cases h1 : x1 = y1
    · by_cases h2 : x2 = y2
      · by_cases h3 : x3 = y3
        · by_cases h4 : x4 = y4
          · by_cases h5 : x5 = y5
            · by_cases h6 : x6 = y6 <;> simp [h0, h1, h2, h3, h4, h5, h6]
            · simp [h0, h1, h2, h3, h4, h5]
          · simp [h0, h1, h2, h3, h4]
        · simp [h0, h1, h2, h3]
      · simp [h0, h1, h2]
    · simp [h0, h1]
  · simp [h0]

def eqV (a b : Ev) : Bool := a.num == b.num && (a.ask == b.ask && (a.service == b.service && (MsgP.eqE a.entry b.entry && eqR a.reply b.reply)))
theorem eqV_iff {a b : Ev} : eqV a b = true ↔ a = b := by
  obtain ⟨n, k, s, e, r⟩ := a
  obtain ⟨n', k', s', e', r'⟩ := b
  unfold eqV
  simp only [Bool.and_eq_true, beq_iff_eq, Ev.mk.injEq, eqE_iff, eqR_iff]
theorem eqin_v (n0 : Int) (n1 : Bool) (n2 : Int) (x0 : Int) (x1 : Int) (x2 : Int) (x3 : Bool) (x4 : Int) (x5 : Int) (x6 : Bool) (r0 : Int) (r1 : Int) (r2 : Int) (r3 : Int) (r4 : Bool) (r5 : Int) (r6 : Int) (m0 : Int) (m1 : Bool) (m2 : Int) (y0 : Int) (y1 : Int) (y2 : Int) (y3 : Bool) (y4 : Int) (y5 : Int) (y6 : Bool) (s0 : Int) (s1 : Int) (s2 : Int) (s3 : Int) (s4 : Bool) (s5 : Int) (s6 : Int) (w : World) : (Op.equalIn 10000 27 (.agg #[.int .i64 n0, .bool n1, .int .i64 n2, .int .i64 x0, .int .i64 x1, .int .i64 x2, .bool x3, .int .i64 x4, .int .i64 x5, .bool x6, .int .i64 r0, .int .i64 r1, .int .i64 r2, .int .i64 r3, .bool r4, .int .i64 r5, .int .i64 r6]) (.agg #[.int .i64 m0, .bool m1, .int .i64 m2, .int .i64 y0, .int .i64 y1, .int .i64 y2, .bool y3, .int .i64 y4, .int .i64 y5, .bool y6, .int .i64 s0, .int .i64 s1, .int .i64 s2, .int .i64 s3, .bool s4, .int .i64 s5, .int .i64 s6])).run Try.prog w = .ok (eqV ⟨n0, n1, n2, ⟨x0, x1, x2, x3, x4, x5, x6⟩, ⟨r0, r1, r2, r3, r4, r5, r6⟩⟩ ⟨m0, m1, m2, ⟨y0, y1, y2, y3, y4, y5, y6⟩, ⟨s0, s1, s2, s3, s4, s5, s6⟩⟩) w := by
  have hS : Try.prog.underlying 27 = some (.struct (Try.prog.fieldsOf 27)) := by kernel_rfl
  have hp : Try.prog.stoodInHeld 27 = false := by kernel_rfl
  have u3 := Try.underlying3
  have a3 := Try.isAgg3
  have z3 := Try.sizeOf3
  have u4 := Try.underlying4
  have a4 := Try.isAgg4
  have z4 := Try.sizeOf4
  have a5 := Try.isAgg23
  have z5 := Try.sizeOf23
  have a6 := Try.isAgg25
  have z6 := Try.sizeOf25
  have G1 := fun (W : World) => eqin_e9 x0 x1 x2 x3 x4 x5 x6 y0 y1 y2 y3 y4 y5 y6 W
  have G2 := fun (W : World) => eqin_r9 r0 r1 r2 r3 r4 r5 r6 s0 s1 s2 s3 s4 s5 s6 W
  unfold eqV
  obtain ⟨be, hbe⟩ : ∃ be, MsgP.eqE ⟨x0, x1, x2, x3, x4, x5, x6⟩ ⟨y0, y1, y2, y3, y4, y5, y6⟩ = be := ⟨_, rfl⟩
  obtain ⟨br, hbr⟩ : ∃ br, eqR ⟨r0, r1, r2, r3, r4, r5, r6⟩ ⟨s0, s1, s2, s3, s4, s5, s6⟩ = br := ⟨_, rfl⟩
  simp only [hbe, hbr] at G1 G2 ⊢
  rw [show (10000 : Nat) = 9999 + 1 from rfl, run_equalIn_agg w 9999 27 _ _ hS hp]
  simp only [Program.fieldsOf, Try.underlying27]
  go_simp
  by_cases h0 : n0 = m0
  · by_cases h1 : n1 = m1
    · by_cases h2 : n2 = m2
      · cases be <;> cases br <;> simp_all
      · simp [h0, h1, h2]
    · simp [h0, h1]
  · simp [h0]
theorem neq_r (x0 : Int) (x1 : Int) (x2 : Int) (x3 : Int) (x4 : Bool) (x5 : Int) (x6 : Int) (y0 : Int) (y1 : Int) (y2 : Int) (y3 : Int) (y4 : Bool) (y5 : Int) (y6 : Int) (w : World) : (binOp .neq 25 (.agg #[.int .i64 x0, .int .i64 x1, .int .i64 x2, .int .i64 x3, .bool x4, .int .i64 x5, .int .i64 x6]) (.agg #[.int .i64 y0, .int .i64 y1, .int .i64 y2, .int .i64 y3, .bool y4, .int .i64 y5, .int .i64 y6])).run Try.prog w = .ok (.bool (!(eqR ⟨x0, x1, x2, x3, x4, x5, x6⟩ ⟨y0, y1, y2, y3, y4, y5, y6⟩))) w := by
  rw [run_neq_struct, eqin_r]; rfl
theorem eql_r (x0 : Int) (x1 : Int) (x2 : Int) (x3 : Int) (x4 : Bool) (x5 : Int) (x6 : Int) (y0 : Int) (y1 : Int) (y2 : Int) (y3 : Int) (y4 : Bool) (y5 : Int) (y6 : Int) (w : World) : (binOp .eql 25 (.agg #[.int .i64 x0, .int .i64 x1, .int .i64 x2, .int .i64 x3, .bool x4, .int .i64 x5, .int .i64 x6]) (.agg #[.int .i64 y0, .int .i64 y1, .int .i64 y2, .int .i64 y3, .bool y4, .int .i64 y5, .int .i64 y6])).run Try.prog w = .ok (.bool (eqR ⟨x0, x1, x2, x3, x4, x5, x6⟩ ⟨y0, y1, y2, y3, y4, y5, y6⟩)) w := by
  rw [run_eql_struct, eqin_r]; rfl
theorem guard_r (p : BinOp) (x y : Operand) (u v : Array Value) (w : World) : (eqGuard p 25 x y (.agg u) (.agg v)).run Try.prog w = .ok () w := run_eqGuard_agg w _ _ _ _ _ _ (by kernel_rfl)
theorem neq_v (n0 : Int) (n1 : Bool) (n2 : Int) (x0 : Int) (x1 : Int) (x2 : Int) (x3 : Bool) (x4 : Int) (x5 : Int) (x6 : Bool) (r0 : Int) (r1 : Int) (r2 : Int) (r3 : Int) (r4 : Bool) (r5 : Int) (r6 : Int) (m0 : Int) (m1 : Bool) (m2 : Int) (y0 : Int) (y1 : Int) (y2 : Int) (y3 : Bool) (y4 : Int) (y5 : Int) (y6 : Bool) (s0 : Int) (s1 : Int) (s2 : Int) (s3 : Int) (s4 : Bool) (s5 : Int) (s6 : Int) (w : World) : (binOp .neq 27 (.agg #[.int .i64 n0, .bool n1, .int .i64 n2, .int .i64 x0, .int .i64 x1, .int .i64 x2, .bool x3, .int .i64 x4, .int .i64 x5, .bool x6, .int .i64 r0, .int .i64 r1, .int .i64 r2, .int .i64 r3, .bool r4, .int .i64 r5, .int .i64 r6]) (.agg #[.int .i64 m0, .bool m1, .int .i64 m2, .int .i64 y0, .int .i64 y1, .int .i64 y2, .bool y3, .int .i64 y4, .int .i64 y5, .bool y6, .int .i64 s0, .int .i64 s1, .int .i64 s2, .int .i64 s3, .bool s4, .int .i64 s5, .int .i64 s6])).run Try.prog w = .ok (.bool (!(eqV ⟨n0, n1, n2, ⟨x0, x1, x2, x3, x4, x5, x6⟩, ⟨r0, r1, r2, r3, r4, r5, r6⟩⟩ ⟨m0, m1, m2, ⟨y0, y1, y2, y3, y4, y5, y6⟩, ⟨s0, s1, s2, s3, s4, s5, s6⟩⟩))) w := by
  rw [run_neq_struct, eqin_v]; rfl
theorem eql_v (n0 : Int) (n1 : Bool) (n2 : Int) (x0 : Int) (x1 : Int) (x2 : Int) (x3 : Bool) (x4 : Int) (x5 : Int) (x6 : Bool) (r0 : Int) (r1 : Int) (r2 : Int) (r3 : Int) (r4 : Bool) (r5 : Int) (r6 : Int) (m0 : Int) (m1 : Bool) (m2 : Int) (y0 : Int) (y1 : Int) (y2 : Int) (y3 : Bool) (y4 : Int) (y5 : Int) (y6 : Bool) (s0 : Int) (s1 : Int) (s2 : Int) (s3 : Int) (s4 : Bool) (s5 : Int) (s6 : Int) (w : World) : (binOp .eql 27 (.agg #[.int .i64 n0, .bool n1, .int .i64 n2, .int .i64 x0, .int .i64 x1, .int .i64 x2, .bool x3, .int .i64 x4, .int .i64 x5, .bool x6, .int .i64 r0, .int .i64 r1, .int .i64 r2, .int .i64 r3, .bool r4, .int .i64 r5, .int .i64 r6]) (.agg #[.int .i64 m0, .bool m1, .int .i64 m2, .int .i64 y0, .int .i64 y1, .int .i64 y2, .bool y3, .int .i64 y4, .int .i64 y5, .bool y6, .int .i64 s0, .int .i64 s1, .int .i64 s2, .int .i64 s3, .bool s4, .int .i64 s5, .int .i64 s6])).run Try.prog w = .ok (.bool (eqV ⟨n0, n1, n2, ⟨x0, x1, x2, x3, x4, x5, x6⟩, ⟨r0, r1, r2, r3, r4, r5, r6⟩⟩ ⟨m0, m1, m2, ⟨y0, y1, y2, y3, y4, y5, y6⟩, ⟨s0, s1, s2, s3, s4, s5, s6⟩⟩)) w := by
  rw [run_eql_struct, eqin_v]; rfl
theorem guard_v (p : BinOp) (x y : Operand) (u v : Array Value) (w : World) : (eqGuard p 27 x y (.agg u) (.agg v)).run Try.prog w = .ok () w := run_eqGuard_agg w _ _ _ _ _ _ (by kernel_rfl)
theorem guard_e (p : BinOp) (x y : Operand) (u v : Array Value) (w : World) : (eqGuard p 23 x y (.agg u) (.agg v)).run Try.prog w = .ok () w := run_eqGuard_agg w _ _ _ _ _ _ (by kernel_rfl)
theorem eqE_out (a b : OutP.En) : OutP.eqE a b = MsgP.eqE a b := rfl
theorem eqE_self (t : OutP.En) : MsgP.eqE t t = true := eqE_iff.2 rfl
theorem eqR_self (t : Rp) : eqR t t = true := eqR_iff.2 rfl
theorem eqV_self (t : Ev) : eqV t t = true := eqV_iff.2 rfl
def numV (n : Int) : Bool := decide (1 ≤ n) && decide (n ≤ 1099511627776)
theorem number_is (n : Int) (v : Bool) (hv : numV n = v) (w : World) : Calls Try.prog 32 #[.int .i64 n] w fun e w' => e = .returned (.bool v) ∧ w = w' := by
  subst hv
  by_cases h : 1 ≤ n
  · by_cases h2 : n ≤ 1099511627776
    · have HR : Hid (numV n = true) := by show _ = _; unfold numV; rw [decide_eq_true h, decide_eq_true h2]; rfl
      go_enter Try.func32, Try.ntmps32
      go_wp2_with fail
      go_ret
      exact ⟨ret_bool HR.out, rfl⟩
    · have HR : Hid (numV n = false) := by show _ = _; unfold numV; rw [decide_eq_false h2, Bool.and_false]
      go_enter Try.func32, Try.ntmps32
      go_wp2_with fail
      go_ret
      exact ⟨ret_bool HR.out, rfl⟩
  · have HR : Hid (numV n = false) := by show _ = _; unfold numV; rw [decide_eq_false h]; rfl
    go_enter Try.func32, Try.ntmps32
    go_wp2_with fail
    go_ret
    exact ⟨ret_bool HR.out, rfl⟩
theorem fitR_split (r0 : Int) (r1 : Int) (r2 : Int) (r3 : Int) (r4 : Bool) (r5 : Int) (r6 : Int) : fitR ⟨r0, r1, r2, r3, r4, r5, r6⟩ = ((decide (r0 = 1) || decide (r0 = 2)) && (numV r1 && (numV r2 && (decide (0 ≤ r3) && (decide (r3 < 6) && (numV r5 && (decide (1 ≤ r6) && decide (r6 ≤ 3)))))))) := by
  unfold fitR numV
  rw [Bool.eq_iff_iff]
  simp only [Bool.and_eq_true, Bool.or_eq_true, decide_eq_true_eq]
  constructor <;> (intro h; omega)
set_option maxHeartbeats 4000000 in
theorem fitr_is (r0 : Int) (r1 : Int) (r2 : Int) (r3 : Int) (r4 : Bool) (r5 : Int) (r6 : Int) (v : Bool) (hv : fitR ⟨r0, r1, r2, r3, r4, r5, r6⟩ = v) (w : World) : Calls Try.prog 10 #[rv r0 r1 r2 r3 r4 r5 r6] w fun e w' => e = .returned (.bool v) ∧ Below w.heap.size w w' := by

  rw [fitR_split] at hv
  by_cases g1 : r0 = 1
  · subst g1
    cases h0 : numV r1 with
    | false =>
      have HR : Hid (v = false) := by show _ = _; rw [← hv]; simp [h0]
      have K0 := Lib.hid (number_is r1 false h0)
      clear hv h0
      have HB0 := Lib.hid (bx7_new 25 w (.int .i64 1) (.int .i64 r1) (.int .i64 r2) (.int .i64 r3) (.bool r4) (.int .i64 r5) (.int .i64 r6))
      go_enter Try.func10, Try.ntmps10
      go_wp2_with fail
      refine (K0.out _).mono ?_
      rintro e w1 ⟨rfl, rfl⟩
      obtain ⟨q0, q1, q2, q3, q4, q5, q6⟩ := cells7 HB0.out.box
      go_wp2_with fail
      go_ret
      exact ⟨ret_bool HR.out, HB0.out.bel⟩
    | true =>
    have K0 := Lib.hid (number_is r1 true h0)
    cases h1 : numV r2 with
    | false =>
      have HR : Hid (v = false) := by show _ = _; rw [← hv]; simp [h1]
      have K1 := Lib.hid (number_is r2 false h1)
      clear hv h1
      have HB0 := Lib.hid (bx7_new 25 w (.int .i64 1) (.int .i64 r1) (.int .i64 r2) (.int .i64 r3) (.bool r4) (.int .i64 r5) (.int .i64 r6))
      go_enter Try.func10, Try.ntmps10
      go_wp2_with fail
      refine (K0.out _).mono ?_
      rintro e w1 ⟨rfl, rfl⟩
      obtain ⟨q0, q1, q2, q3, q4, q5, q6⟩ := cells7 HB0.out.box
      go_wp2_with fail
      refine (K1.out _).mono ?_
      rintro e w1 ⟨rfl, rfl⟩
      go_wp2_with fail
      go_ret
      exact ⟨ret_bool HR.out, HB0.out.bel⟩
    | true =>
    have K1 := Lib.hid (number_is r2 true h1)
    by_cases h2 : 0 ≤ r3
    rotate_left
    · have HR : Hid (v = false) := by show _ = _; rw [← hv]; simp [h2]
      clear hv
      have HB0 := Lib.hid (bx7_new 25 w (.int .i64 1) (.int .i64 r1) (.int .i64 r2) (.int .i64 r3) (.bool r4) (.int .i64 r5) (.int .i64 r6))
      go_enter Try.func10, Try.ntmps10
      go_wp2_with fail
      refine (K0.out _).mono ?_
      rintro e w1 ⟨rfl, rfl⟩
      obtain ⟨q0, q1, q2, q3, q4, q5, q6⟩ := cells7 HB0.out.box
      go_wp2_with fail
      refine (K1.out _).mono ?_
      rintro e w1 ⟨rfl, rfl⟩
      go_wp2_with fail
      go_ret
      exact ⟨ret_bool HR.out, HB0.out.bel⟩
    by_cases h3 : r3 < 6
    rotate_left
    · have HR : Hid (v = false) := by show _ = _; rw [← hv]; simp [h3]
      clear hv
      have HB0 := Lib.hid (bx7_new 25 w (.int .i64 1) (.int .i64 r1) (.int .i64 r2) (.int .i64 r3) (.bool r4) (.int .i64 r5) (.int .i64 r6))
      go_enter Try.func10, Try.ntmps10
      go_wp2_with fail
      refine (K0.out _).mono ?_
      rintro e w1 ⟨rfl, rfl⟩
      obtain ⟨q0, q1, q2, q3, q4, q5, q6⟩ := cells7 HB0.out.box
      go_wp2_with fail
      refine (K1.out _).mono ?_
      rintro e w1 ⟨rfl, rfl⟩
      go_wp2_with fail
      go_ret
      exact ⟨ret_bool HR.out, HB0.out.bel⟩
    cases h4 : numV r5 with
    | false =>
      have HR : Hid (v = false) := by show _ = _; rw [← hv]; simp [h4]
      have K4 := Lib.hid (number_is r5 false h4)
      clear hv h4
      have HB0 := Lib.hid (bx7_new 25 w (.int .i64 1) (.int .i64 r1) (.int .i64 r2) (.int .i64 r3) (.bool r4) (.int .i64 r5) (.int .i64 r6))
      go_enter Try.func10, Try.ntmps10
      go_wp2_with fail
      refine (K0.out _).mono ?_
      rintro e w1 ⟨rfl, rfl⟩
      obtain ⟨q0, q1, q2, q3, q4, q5, q6⟩ := cells7 HB0.out.box
      go_wp2_with fail
      refine (K1.out _).mono ?_
      rintro e w1 ⟨rfl, rfl⟩
      go_wp2_with fail
      refine (K4.out _).mono ?_
      rintro e w1 ⟨rfl, rfl⟩
      go_wp2_with fail
      go_ret
      exact ⟨ret_bool HR.out, HB0.out.bel⟩
    | true =>
    have K4 := Lib.hid (number_is r5 true h4)
    by_cases h5 : 1 ≤ r6
    rotate_left
    · have HR : Hid (v = false) := by show _ = _; rw [← hv]; simp [h5]
      clear hv
      have HB0 := Lib.hid (bx7_new 25 w (.int .i64 1) (.int .i64 r1) (.int .i64 r2) (.int .i64 r3) (.bool r4) (.int .i64 r5) (.int .i64 r6))
      go_enter Try.func10, Try.ntmps10
      go_wp2_with fail
      refine (K0.out _).mono ?_
      rintro e w1 ⟨rfl, rfl⟩
      obtain ⟨q0, q1, q2, q3, q4, q5, q6⟩ := cells7 HB0.out.box
      go_wp2_with fail
      refine (K1.out _).mono ?_
      rintro e w1 ⟨rfl, rfl⟩
      go_wp2_with fail
      refine (K4.out _).mono ?_
      rintro e w1 ⟨rfl, rfl⟩
      go_wp2_with fail
      go_ret
      exact ⟨ret_bool HR.out, HB0.out.bel⟩
    have HR : Hid (v = decide (r6 ≤ 3)) := by show _ = _; rw [← hv]; simp [*]
    clear hv
    have HB0 := Lib.hid (bx7_new 25 w (.int .i64 1) (.int .i64 r1) (.int .i64 r2) (.int .i64 r3) (.bool r4) (.int .i64 r5) (.int .i64 r6))
    go_enter Try.func10, Try.ntmps10
    go_wp2_with fail
    refine (K0.out _).mono ?_
    rintro e w1 ⟨rfl, rfl⟩
    obtain ⟨q0, q1, q2, q3, q4, q5, q6⟩ := cells7 HB0.out.box
    go_wp2_with fail
    refine (K1.out _).mono ?_
    rintro e w1 ⟨rfl, rfl⟩
    go_wp2_with fail
    refine (K4.out _).mono ?_
    rintro e w1 ⟨rfl, rfl⟩
    go_wp2_with fail
    go_ret
    exact ⟨ret_bool HR.out, HB0.out.bel⟩
  by_cases g2 : r0 = 2
  · subst g2
    cases h0 : numV r1 with
    | false =>
      have HR : Hid (v = false) := by show _ = _; rw [← hv]; simp [h0]
      have K0 := Lib.hid (number_is r1 false h0)
      clear hv h0
      have HB0 := Lib.hid (bx7_new 25 w (.int .i64 2) (.int .i64 r1) (.int .i64 r2) (.int .i64 r3) (.bool r4) (.int .i64 r5) (.int .i64 r6))
      go_enter Try.func10, Try.ntmps10
      go_wp2_with fail
      refine (K0.out _).mono ?_
      rintro e w1 ⟨rfl, rfl⟩
      obtain ⟨q0, q1, q2, q3, q4, q5, q6⟩ := cells7 HB0.out.box
      go_wp2_with fail
      go_ret
      exact ⟨ret_bool HR.out, HB0.out.bel⟩
    | true =>
    have K0 := Lib.hid (number_is r1 true h0)
    cases h1 : numV r2 with
    | false =>
      have HR : Hid (v = false) := by show _ = _; rw [← hv]; simp [h1]
      have K1 := Lib.hid (number_is r2 false h1)
      clear hv h1
      have HB0 := Lib.hid (bx7_new 25 w (.int .i64 2) (.int .i64 r1) (.int .i64 r2) (.int .i64 r3) (.bool r4) (.int .i64 r5) (.int .i64 r6))
      go_enter Try.func10, Try.ntmps10
      go_wp2_with fail
      refine (K0.out _).mono ?_
      rintro e w1 ⟨rfl, rfl⟩
      obtain ⟨q0, q1, q2, q3, q4, q5, q6⟩ := cells7 HB0.out.box
      go_wp2_with fail
      refine (K1.out _).mono ?_
      rintro e w1 ⟨rfl, rfl⟩
      go_wp2_with fail
      go_ret
      exact ⟨ret_bool HR.out, HB0.out.bel⟩
    | true =>
    have K1 := Lib.hid (number_is r2 true h1)
    by_cases h2 : 0 ≤ r3
    rotate_left
    · have HR : Hid (v = false) := by show _ = _; rw [← hv]; simp [h2]
      clear hv
      have HB0 := Lib.hid (bx7_new 25 w (.int .i64 2) (.int .i64 r1) (.int .i64 r2) (.int .i64 r3) (.bool r4) (.int .i64 r5) (.int .i64 r6))
      go_enter Try.func10, Try.ntmps10
      go_wp2_with fail
      refine (K0.out _).mono ?_
      rintro e w1 ⟨rfl, rfl⟩
      obtain ⟨q0, q1, q2, q3, q4, q5, q6⟩ := cells7 HB0.out.box
      go_wp2_with fail
      refine (K1.out _).mono ?_
      rintro e w1 ⟨rfl, rfl⟩
      go_wp2_with fail
      go_ret
      exact ⟨ret_bool HR.out, HB0.out.bel⟩
    by_cases h3 : r3 < 6
    rotate_left
    · have HR : Hid (v = false) := by show _ = _; rw [← hv]; simp [h3]
      clear hv
      have HB0 := Lib.hid (bx7_new 25 w (.int .i64 2) (.int .i64 r1) (.int .i64 r2) (.int .i64 r3) (.bool r4) (.int .i64 r5) (.int .i64 r6))
      go_enter Try.func10, Try.ntmps10
      go_wp2_with fail
      refine (K0.out _).mono ?_
      rintro e w1 ⟨rfl, rfl⟩
      obtain ⟨q0, q1, q2, q3, q4, q5, q6⟩ := cells7 HB0.out.box
      go_wp2_with fail
      refine (K1.out _).mono ?_
      rintro e w1 ⟨rfl, rfl⟩
      go_wp2_with fail
      go_ret
      exact ⟨ret_bool HR.out, HB0.out.bel⟩
    cases h4 : numV r5 with
    | false =>
      have HR : Hid (v = false) := by show _ = _; rw [← hv]; simp [h4]
      have K4 := Lib.hid (number_is r5 false h4)
      clear hv h4
      have HB0 := Lib.hid (bx7_new 25 w (.int .i64 2) (.int .i64 r1) (.int .i64 r2) (.int .i64 r3) (.bool r4) (.int .i64 r5) (.int .i64 r6))
      go_enter Try.func10, Try.ntmps10
      go_wp2_with fail
      refine (K0.out _).mono ?_
      rintro e w1 ⟨rfl, rfl⟩
      obtain ⟨q0, q1, q2, q3, q4, q5, q6⟩ := cells7 HB0.out.box
      go_wp2_with fail
      refine (K1.out _).mono ?_
      rintro e w1 ⟨rfl, rfl⟩
      go_wp2_with fail
      refine (K4.out _).mono ?_
      rintro e w1 ⟨rfl, rfl⟩
      go_wp2_with fail
      go_ret
      exact ⟨ret_bool HR.out, HB0.out.bel⟩
    | true =>
    have K4 := Lib.hid (number_is r5 true h4)
    by_cases h5 : 1 ≤ r6
    rotate_left
    · have HR : Hid (v = false) := by show _ = _; rw [← hv]; simp [h5]
      clear hv
      have HB0 := Lib.hid (bx7_new 25 w (.int .i64 2) (.int .i64 r1) (.int .i64 r2) (.int .i64 r3) (.bool r4) (.int .i64 r5) (.int .i64 r6))
      go_enter Try.func10, Try.ntmps10
      go_wp2_with fail
      refine (K0.out _).mono ?_
      rintro e w1 ⟨rfl, rfl⟩
      obtain ⟨q0, q1, q2, q3, q4, q5, q6⟩ := cells7 HB0.out.box
      go_wp2_with fail
      refine (K1.out _).mono ?_
      rintro e w1 ⟨rfl, rfl⟩
      go_wp2_with fail
      refine (K4.out _).mono ?_
      rintro e w1 ⟨rfl, rfl⟩
      go_wp2_with fail
      go_ret
      exact ⟨ret_bool HR.out, HB0.out.bel⟩
    have HR : Hid (v = decide (r6 ≤ 3)) := by show _ = _; rw [← hv]; simp [*]
    clear hv
    have HB0 := Lib.hid (bx7_new 25 w (.int .i64 2) (.int .i64 r1) (.int .i64 r2) (.int .i64 r3) (.bool r4) (.int .i64 r5) (.int .i64 r6))
    go_enter Try.func10, Try.ntmps10
    go_wp2_with fail
    refine (K0.out _).mono ?_
    rintro e w1 ⟨rfl, rfl⟩
    obtain ⟨q0, q1, q2, q3, q4, q5, q6⟩ := cells7 HB0.out.box
    go_wp2_with fail
    refine (K1.out _).mono ?_
    rintro e w1 ⟨rfl, rfl⟩
    go_wp2_with fail
    refine (K4.out _).mono ?_
    rintro e w1 ⟨rfl, rfl⟩
    go_wp2_with fail
    go_ret
    exact ⟨ret_bool HR.out, HB0.out.bel⟩
  have HR : Hid (v = false) := by show _ = _; rw [← hv]; simp [g1, g2]
  have e1 : (r0 == 1) = false := beq_eq_false_iff_ne.2 g1
  have e2 : (r0 == 2) = false := beq_eq_false_iff_ne.2 g2
  clear hv g1 g2
  have HB0 := Lib.hid (bx7_new 25 w (.int .i64 r0) (.int .i64 r1) (.int .i64 r2) (.int .i64 r3) (.bool r4) (.int .i64 r5) (.int .i64 r6))
  go_enter Try.func10, Try.ntmps10
  go_wp2_with fail
  go_ret
  exact ⟨ret_bool HR.out, HB0.out.bel⟩

set_option maxHeartbeats 4000000 in
theorem rfitr_is (r0 : Int) (r1 : Int) (r2 : Int) (r3 : Int) (r4 : Bool) (r5 : Int) (r6 : Int) (v : Bool) (hv : fitR ⟨r0, r1, r2, r3, r4, r5, r6⟩ = v) (w : World) : Calls Try.prog 11 #[rv r0 r1 r2 r3 r4 r5 r6] w fun e w' => e = .returned (.bool v) ∧ Below w.heap.size w w' := by

  unfold fitR at hv
  dsimp only at hv
  by_cases g1 : r0 = 1
  · subst g1
    by_cases h0 : 1 ≤ r1
    rotate_left
    · have HR : Hid (v = false) := by show _ = _; rw [← hv]; simp [h0]
      clear hv
      have HB0 := Lib.hid (bx7_new 25 w (.int .i64 1) (.int .i64 r1) (.int .i64 r2) (.int .i64 r3) (.bool r4) (.int .i64 r5) (.int .i64 r6))
      go_enter Try.func11, Try.ntmps11
      go_wp2_with fail
      go_ret
      exact ⟨ret_bool HR.out, HB0.out.bel⟩
    by_cases h1 : r1 ≤ 1099511627776
    rotate_left
    · have HR : Hid (v = false) := by show _ = _; rw [← hv]; simp [h1]
      clear hv
      have HB0 := Lib.hid (bx7_new 25 w (.int .i64 1) (.int .i64 r1) (.int .i64 r2) (.int .i64 r3) (.bool r4) (.int .i64 r5) (.int .i64 r6))
      go_enter Try.func11, Try.ntmps11
      go_wp2_with fail
      go_ret
      exact ⟨ret_bool HR.out, HB0.out.bel⟩
    by_cases h2 : 1 ≤ r2
    rotate_left
    · have HR : Hid (v = false) := by show _ = _; rw [← hv]; simp [h2]
      clear hv
      have HB0 := Lib.hid (bx7_new 25 w (.int .i64 1) (.int .i64 r1) (.int .i64 r2) (.int .i64 r3) (.bool r4) (.int .i64 r5) (.int .i64 r6))
      go_enter Try.func11, Try.ntmps11
      go_wp2_with fail
      go_ret
      exact ⟨ret_bool HR.out, HB0.out.bel⟩
    by_cases h3 : r2 ≤ 1099511627776
    rotate_left
    · have HR : Hid (v = false) := by show _ = _; rw [← hv]; simp [h3]
      clear hv
      have HB0 := Lib.hid (bx7_new 25 w (.int .i64 1) (.int .i64 r1) (.int .i64 r2) (.int .i64 r3) (.bool r4) (.int .i64 r5) (.int .i64 r6))
      go_enter Try.func11, Try.ntmps11
      go_wp2_with fail
      go_ret
      exact ⟨ret_bool HR.out, HB0.out.bel⟩
    by_cases h4 : 1 ≤ r5
    rotate_left
    · have HR : Hid (v = false) := by show _ = _; rw [← hv]; simp [h4]
      clear hv
      have HB0 := Lib.hid (bx7_new 25 w (.int .i64 1) (.int .i64 r1) (.int .i64 r2) (.int .i64 r3) (.bool r4) (.int .i64 r5) (.int .i64 r6))
      go_enter Try.func11, Try.ntmps11
      go_wp2_with fail
      go_ret
      exact ⟨ret_bool HR.out, HB0.out.bel⟩
    by_cases h5 : r5 ≤ 1099511627776
    rotate_left
    · have HR : Hid (v = false) := by show _ = _; rw [← hv]; simp [h5]
      clear hv
      have HB0 := Lib.hid (bx7_new 25 w (.int .i64 1) (.int .i64 r1) (.int .i64 r2) (.int .i64 r3) (.bool r4) (.int .i64 r5) (.int .i64 r6))
      go_enter Try.func11, Try.ntmps11
      go_wp2_with fail
      go_ret
      exact ⟨ret_bool HR.out, HB0.out.bel⟩
    by_cases h6 : 0 ≤ r3
    rotate_left
    · have HR : Hid (v = false) := by show _ = _; rw [← hv]; simp [h6]
      clear hv
      have HB0 := Lib.hid (bx7_new 25 w (.int .i64 1) (.int .i64 r1) (.int .i64 r2) (.int .i64 r3) (.bool r4) (.int .i64 r5) (.int .i64 r6))
      go_enter Try.func11, Try.ntmps11
      go_wp2_with fail
      go_ret
      exact ⟨ret_bool HR.out, HB0.out.bel⟩
    by_cases h7 : r3 < 6
    rotate_left
    · have HR : Hid (v = false) := by show _ = _; rw [← hv]; simp [h7]
      clear hv
      have HB0 := Lib.hid (bx7_new 25 w (.int .i64 1) (.int .i64 r1) (.int .i64 r2) (.int .i64 r3) (.bool r4) (.int .i64 r5) (.int .i64 r6))
      go_enter Try.func11, Try.ntmps11
      go_wp2_with fail
      go_ret
      exact ⟨ret_bool HR.out, HB0.out.bel⟩
    by_cases h8 : 1 ≤ r6
    rotate_left
    · have HR : Hid (v = false) := by show _ = _; rw [← hv]; simp [h8]
      clear hv
      have HB0 := Lib.hid (bx7_new 25 w (.int .i64 1) (.int .i64 r1) (.int .i64 r2) (.int .i64 r3) (.bool r4) (.int .i64 r5) (.int .i64 r6))
      go_enter Try.func11, Try.ntmps11
      go_wp2_with fail
      go_ret
      exact ⟨ret_bool HR.out, HB0.out.bel⟩
    have HR : Hid (v = decide (r6 ≤ 3)) := by show _ = _; rw [← hv]; simp [*]
    clear hv
    have HB0 := Lib.hid (bx7_new 25 w (.int .i64 1) (.int .i64 r1) (.int .i64 r2) (.int .i64 r3) (.bool r4) (.int .i64 r5) (.int .i64 r6))
    go_enter Try.func11, Try.ntmps11
    go_wp2_with fail
    go_ret
    exact ⟨ret_bool HR.out, HB0.out.bel⟩
  by_cases g2 : r0 = 2
  · subst g2
    by_cases h0 : 1 ≤ r1
    rotate_left
    · have HR : Hid (v = false) := by show _ = _; rw [← hv]; simp [h0]
      clear hv
      have HB0 := Lib.hid (bx7_new 25 w (.int .i64 2) (.int .i64 r1) (.int .i64 r2) (.int .i64 r3) (.bool r4) (.int .i64 r5) (.int .i64 r6))
      go_enter Try.func11, Try.ntmps11
      go_wp2_with fail
      go_ret
      exact ⟨ret_bool HR.out, HB0.out.bel⟩
    by_cases h1 : r1 ≤ 1099511627776
    rotate_left
    · have HR : Hid (v = false) := by show _ = _; rw [← hv]; simp [h1]
      clear hv
      have HB0 := Lib.hid (bx7_new 25 w (.int .i64 2) (.int .i64 r1) (.int .i64 r2) (.int .i64 r3) (.bool r4) (.int .i64 r5) (.int .i64 r6))
      go_enter Try.func11, Try.ntmps11
      go_wp2_with fail
      go_ret
      exact ⟨ret_bool HR.out, HB0.out.bel⟩
    by_cases h2 : 1 ≤ r2
    rotate_left
    · have HR : Hid (v = false) := by show _ = _; rw [← hv]; simp [h2]
      clear hv
      have HB0 := Lib.hid (bx7_new 25 w (.int .i64 2) (.int .i64 r1) (.int .i64 r2) (.int .i64 r3) (.bool r4) (.int .i64 r5) (.int .i64 r6))
      go_enter Try.func11, Try.ntmps11
      go_wp2_with fail
      go_ret
      exact ⟨ret_bool HR.out, HB0.out.bel⟩
    by_cases h3 : r2 ≤ 1099511627776
    rotate_left
    · have HR : Hid (v = false) := by show _ = _; rw [← hv]; simp [h3]
      clear hv
      have HB0 := Lib.hid (bx7_new 25 w (.int .i64 2) (.int .i64 r1) (.int .i64 r2) (.int .i64 r3) (.bool r4) (.int .i64 r5) (.int .i64 r6))
      go_enter Try.func11, Try.ntmps11
      go_wp2_with fail
      go_ret
      exact ⟨ret_bool HR.out, HB0.out.bel⟩
    by_cases h4 : 1 ≤ r5
    rotate_left
    · have HR : Hid (v = false) := by show _ = _; rw [← hv]; simp [h4]
      clear hv
      have HB0 := Lib.hid (bx7_new 25 w (.int .i64 2) (.int .i64 r1) (.int .i64 r2) (.int .i64 r3) (.bool r4) (.int .i64 r5) (.int .i64 r6))
      go_enter Try.func11, Try.ntmps11
      go_wp2_with fail
      go_ret
      exact ⟨ret_bool HR.out, HB0.out.bel⟩
    by_cases h5 : r5 ≤ 1099511627776
    rotate_left
    · have HR : Hid (v = false) := by show _ = _; rw [← hv]; simp [h5]
      clear hv
      have HB0 := Lib.hid (bx7_new 25 w (.int .i64 2) (.int .i64 r1) (.int .i64 r2) (.int .i64 r3) (.bool r4) (.int .i64 r5) (.int .i64 r6))
      go_enter Try.func11, Try.ntmps11
      go_wp2_with fail
      go_ret
      exact ⟨ret_bool HR.out, HB0.out.bel⟩
    by_cases h6 : 0 ≤ r3
    rotate_left
    · have HR : Hid (v = false) := by show _ = _; rw [← hv]; simp [h6]
      clear hv
      have HB0 := Lib.hid (bx7_new 25 w (.int .i64 2) (.int .i64 r1) (.int .i64 r2) (.int .i64 r3) (.bool r4) (.int .i64 r5) (.int .i64 r6))
      go_enter Try.func11, Try.ntmps11
      go_wp2_with fail
      go_ret
      exact ⟨ret_bool HR.out, HB0.out.bel⟩
    by_cases h7 : r3 < 6
    rotate_left
    · have HR : Hid (v = false) := by show _ = _; rw [← hv]; simp [h7]
      clear hv
      have HB0 := Lib.hid (bx7_new 25 w (.int .i64 2) (.int .i64 r1) (.int .i64 r2) (.int .i64 r3) (.bool r4) (.int .i64 r5) (.int .i64 r6))
      go_enter Try.func11, Try.ntmps11
      go_wp2_with fail
      go_ret
      exact ⟨ret_bool HR.out, HB0.out.bel⟩
    by_cases h8 : 1 ≤ r6
    rotate_left
    · have HR : Hid (v = false) := by show _ = _; rw [← hv]; simp [h8]
      clear hv
      have HB0 := Lib.hid (bx7_new 25 w (.int .i64 2) (.int .i64 r1) (.int .i64 r2) (.int .i64 r3) (.bool r4) (.int .i64 r5) (.int .i64 r6))
      go_enter Try.func11, Try.ntmps11
      go_wp2_with fail
      go_ret
      exact ⟨ret_bool HR.out, HB0.out.bel⟩
    have HR : Hid (v = decide (r6 ≤ 3)) := by show _ = _; rw [← hv]; simp [*]
    clear hv
    have HB0 := Lib.hid (bx7_new 25 w (.int .i64 2) (.int .i64 r1) (.int .i64 r2) (.int .i64 r3) (.bool r4) (.int .i64 r5) (.int .i64 r6))
    go_enter Try.func11, Try.ntmps11
    go_wp2_with fail
    go_ret
    exact ⟨ret_bool HR.out, HB0.out.bel⟩
  have HR : Hid (v = false) := by show _ = _; rw [← hv]; simp [g1, g2]
  have e1 : (r0 == 1) = false := beq_eq_false_iff_ne.2 g1
  have e2 : (r0 == 2) = false := beq_eq_false_iff_ne.2 g2
  clear hv g1 g2
  have HB0 := Lib.hid (bx7_new 25 w (.int .i64 r0) (.int .i64 r1) (.int .i64 r2) (.int .i64 r3) (.bool r4) (.int .i64 r5) (.int .i64 r6))
  go_enter Try.func11, Try.ntmps11
  go_wp2_with fail
  go_ret
  exact ⟨ret_bool HR.out, HB0.out.bel⟩

def svcV (t : Ev) : Int := if t.ask then OutP.serviceV t.entry.op else t.reply.service
theorem service_is (n0 : Int) (n1 : Bool) (n2 : Int) (x0 : Int) (x1 : Int) (x2 : Int) (x3 : Bool) (x4 : Int) (x5 : Int) (x6 : Bool) (r0 : Int) (r1 : Int) (r2 : Int) (r3 : Int) (r4 : Bool) (r5 : Int) (r6 : Int) (s : Int) (hs : svcV ⟨n0, n1, n2, ⟨x0, x1, x2, x3, x4, x5, x6⟩, ⟨r0, r1, r2, r3, r4, r5, r6⟩⟩ = s) (w : World) : Calls Try.prog 33 #[vv n0 n1 n2 x0 x1 x2 x3 x4 x5 x6 r0 r1 r2 r3 r4 r5 r6] w fun e w' => e = .returned (.int .i64 s) ∧ Below w.heap.size w w' := by
  unfold svcV at hs
  dsimp only at hs
  have HB0 := Lib.hid (bx17_new 27 w (.int .i64 n0) (.bool n1) (.int .i64 n2) (.int .i64 x0) (.int .i64 x1) (.int .i64 x2) (.bool x3) (.int .i64 x4) (.int .i64 x5) (.bool x6) (.int .i64 r0) (.int .i64 r1) (.int .i64 r2) (.int .i64 r3) (.bool r4) (.int .i64 r5) (.int .i64 r6))
  cases n1 with
  | true =>
    have K := Lib.hid (Outbox.service_is x4 s hs)
    clear hs
    go_enter Try.func33, Try.ntmps33
    go_wp2_with fail
    refine (K.out _).mono ?_
    rintro e w1 ⟨rfl, rfl⟩
    go_wp2_with fail
    go_ret
    exact ⟨rfl, HB0.out.bel⟩
  | false =>
    subst hs
    go_enter Try.func33, Try.ntmps33
    go_wp2_with fail
    go_ret
    exact ⟨rfl, HB0.out.bel⟩
end Go.Proofs.Ytamcidlkbhanfaa.Msg
