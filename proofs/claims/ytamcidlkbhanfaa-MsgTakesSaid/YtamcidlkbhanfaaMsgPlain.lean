/-
  Plain facts of msg: replies, envelopes and their octets, written and read; numbers and octets alone, nothing of the program.
-/
import Derived.Test.YtamcidlkbhanfaaOutboxPlain
import Derived.Test.YtamcidlkbhanfaaWirePlain
set_option linter.unusedVariables false
namespace Go.Proofs.Ytamcidlkbhanfaa
namespace MsgP
open WireP (enc encs flag ok num nl nb rdInt rdFlag left done)
open OutP (En en0 oneE serviceV)
abbrev Rd := WireP.St

/-- A number of 64 bits. -/
def I64 (n : Int) : Prop := -9223372036854775808 ≤ n ∧ n ≤ 9223372036854775807
/-- A reply. -/
structure Rp where
  service : Int
  id : Int
  saga : Int
  step : Int
  back : Bool
  msg : Int
  verdict : Int
def rp0 : Rp := ⟨0, 0, 0, 0, false, 0, 0⟩
def fitR (r : Rp) : Bool := (decide (r.service = 1) || decide (r.service = 2)) && (decide (1 ≤ r.id) && (decide (r.id ≤ 1099511627776) && (decide (1 ≤ r.saga) && (decide (r.saga ≤ 1099511627776) && (decide (1 ≤ r.msg) && (decide (r.msg ≤ 1099511627776) && (decide (0 ≤ r.step) && (decide (r.step < 6) && (decide (1 ≤ r.verdict) && decide (r.verdict ≤ 3))))))))))
/-- An envelope. -/
structure Ev where
  num : Int
  ask : Bool
  service : Int
  entry : En
  reply : Rp
def ev0 : Ev := ⟨0, false, 0, en0, rp0⟩
def eqE (x y : En) : Bool := x.id == y.id && (x.saga == y.saga && (x.step == y.step && (x.back == y.back && (x.op == y.op && (x.sum == y.sum && x.must == y.must)))))
def eqR (x y : Rp) : Bool := x.service == y.service && (x.id == y.id && (x.saga == y.saga && (x.step == y.step && (x.back == y.back && (x.msg == y.msg && x.verdict == y.verdict)))))
theorem eqE_iff {x y : En} : eqE x y = true ↔ x = y := by
  obtain ⟨a, b, c, d, e, f, g⟩ := x
  obtain ⟨a', b', c', d', e', f', g'⟩ := y
  unfold eqE
  simp only [Bool.and_eq_true, beq_iff_eq, OutP.En.mk.injEq]
theorem eqR_iff {x y : Rp} : eqR x y = true ↔ x = y := by
  obtain ⟨a, b, c, d, e, f, g⟩ := x
  obtain ⟨a', b', c', d', e', f', g'⟩ := y
  unfold eqR
  simp only [Bool.and_eq_true, beq_iff_eq, Rp.mk.injEq]
def fitV (x : Ev) : Bool := decide (1 ≤ x.num) && (decide (x.num ≤ 1099511627776) && (if x.ask then oneE x.entry && (decide (x.service = serviceV x.entry.op) && eqR x.reply rp0) else fitR x.reply && (decide (x.service = x.reply.service) && eqE x.entry en0)))
structure E64 (x : En) : Prop where
  id : I64 x.id
  saga : I64 x.saga
  step : I64 x.step
  op : I64 x.op
  sum : I64 x.sum
structure R64 (x : Rp) : Prop where
  service : I64 x.service
  id : I64 x.id
  saga : I64 x.saga
  step : I64 x.step
  msg : I64 x.msg
  verdict : I64 x.verdict
theorem e64_of {x : En} (h : oneE x = true) : E64 x := by
  unfold OutP.oneE OutP.amtE OutP.serviceV at h
  simp only [Bool.and_eq_true, decide_eq_true_eq] at h
  obtain ⟨h1, h2, h3, h4, h5, h6, h7, h8, h9⟩ := h
  refine ⟨⟨by omega, by omega⟩, ⟨by omega, by omega⟩, ⟨by omega, by omega⟩, ?_, ⟨by omega, by omega⟩⟩
  have : x.op = 2 ∨ x.op = 6 ∨ x.op = 4 := by
    by_cases a : x.op = 2 ∨ x.op = 6
    · omega
    · rw [if_neg a] at h7
      by_cases b : x.op = 4
      · omega
      · rw [if_neg b] at h7; exact absurd rfl h7
  exact ⟨by omega, by omega⟩
theorem r64_of {x : Rp} (h : fitR x = true) : R64 x := by
  unfold fitR at h
  simp only [Bool.and_eq_true, Bool.or_eq_true, decide_eq_true_eq] at h
  obtain ⟨h0, h1, h2, h3, h4, h5, h6, h7, h8, h9, ha⟩ := h
  exact ⟨⟨by omega, by omega⟩, ⟨by omega, by omega⟩, ⟨by omega, by omega⟩, ⟨by omega, by omega⟩, ⟨by omega, by omega⟩, ⟨by omega, by omega⟩⟩
/-! ### numbers and flags, read -/
def wide (st : Rd) : Int × Rd := rdInt (-9223372036854775808) 9223372036854775807 st
theorem wide_enc {n : Int} (h : I64 n) (r : List UInt8) : wide (some (enc n ++ r)) = (n, some r) := by
  show ite _ _ _ = _
  rw [if_pos ⟨WireP.ok_enc h.1 h.2 r, by rw [WireP.num_enc h.1 h.2]; exact h⟩, WireP.num_enc h.1 h.2, WireP.drop_enc h.1 h.2]
theorem flag_back (v : Bool) (r : List UInt8) : rdFlag (some (flag v ++ r)) = (v, some r) := by
  cases v <;> rfl
/-- What begins with a number begins with its encoding. -/
theorem enc_front {l : List UInt8} (h : ok l = true) : l = enc (num l) ++ l.drop (1 + nl l) := by
  have ⟨h0, h1, h2, h3⟩ := WireP.ok_iff.1 h
  have hl : ok (l.take (1 + nl l)) = true ∧ nl (l.take (1 + nl l)) = nl l ∧ nb (l.take (1 + nl l)) = nb l := by
    have e1 : nl (l.take (1 + nl l)) = nl l := by
      cases l with
      | nil => exact absurd rfl h0
      | cons c r => rw [Nat.add_comm, List.take_succ_cons]; rfl
    have e2 : nb (l.take (1 + nl l)) = nb l := by
      unfold WireP.nb
      rw [e1, List.drop_take, List.take_take, show min (nl l) (1 + nl l - 1) = nl l by omega]
    refine ⟨WireP.ok_iff.2 ⟨?_, by rw [e1]; exact h1, ?_, by rw [e2]; exact h3⟩, e1, e2⟩
    · intro e
      have := congrArg List.length e
      rw [List.length_take, List.length_nil] at this
      omega
    · rw [e1, List.length_take]; omega
  have hd : (l.take (1 + nl l)).drop (1 + nl (l.take (1 + nl l))) = [] := by
    rw [hl.2.1]
    exact List.drop_of_length_le (by rw [List.length_take]; omega)
  have hn : num (l.take (1 + nl l)) = num l := by unfold WireP.num; rw [hl.2.2]
  have := WireP.enc_num hl.1 hd
  rw [hn] at this
  rw [this, List.take_append_drop]
theorem wide_some {st : Rd} {n : Int} {r : List UInt8} (h : wide st = (n, some r)) : ∃ l, st = some l ∧ l = enc n ++ r ∧ I64 n := by
  cases st with
  | none => cases h
  | some l =>
    change ite _ _ _ = _ at h
    split at h
    case isTrue hc =>
      cases h
      exact ⟨l, rfl, enc_front hc.1, WireP.num_bounds hc.1⟩
    case isFalse => cases h
theorem flag_some {st : Rd} {v : Bool} {r : List UInt8} (h : rdFlag st = (v, some r)) : ∃ l, st = some l ∧ l = flag v ++ r := by
  cases st with
  | none => cases h
  | some l =>
    change ite _ _ _ = _ at h
    split at h
    case isTrue hc =>
      cases h
      refine ⟨l, rfl, ?_⟩
      cases l with
      | nil => exact absurd rfl hc.1
      | cons c q =>
        have h1 : c.toNat ≤ 1 := hc.2
        show c :: q = flag (decide (c.toNat = 1)) ++ q
        rcases (by omega : c.toNat = 0 ∨ c.toNat = 1) with e | e
        · have : c = 0 := UInt8.toNat_inj.1 e
          subst this; rfl
        · have : c = 1 := UInt8.toNat_inj.1 e
          subst this; rfl
    case isFalse => cases h
theorem wide_none : wide none = (0, none) := rfl
theorem flag_none : rdFlag none = (false, none) := rfl

def putE (x : En) : List UInt8 := enc x.id ++ (enc x.saga ++ (enc x.step ++ (flag x.back ++ (enc x.op ++ (enc x.sum ++ (flag x.must))))))
/-- En: seven fields, one behind the other. -/
def rdE (st : Rd) : En × Rd :=
  let a0 := wide st
  let a1 := wide a0.2
  let a2 := wide a1.2
  let a3 := rdFlag a2.2
  let a4 := wide a3.2
  let a5 := wide a4.2
  let a6 := rdFlag a5.2
  (⟨a0.1, a1.1, a2.1, a3.1, a4.1, a5.1, a6.1⟩, a6.2)
def takeE (st : Rd) : En := if (rdE st).2.isNone then en0 else (rdE st).1
theorem rdE_put {x : En} (h : E64 x) (r : List UInt8) : rdE (some (putE x ++ r)) = (x, some r) := by
  have e : putE x ++ r = enc x.id ++ (enc x.saga ++ (enc x.step ++ (flag x.back ++ (enc x.op ++ (enc x.sum ++ (flag x.must ++ r)))))) := by unfold putE; simp
  unfold rdE
  rw [e]
  simp only [wide_enc h.id, wide_enc h.saga, wide_enc h.step, wide_enc h.op, wide_enc h.sum, flag_back]
theorem rdE_none : rdE none = (en0, none) := rfl
theorem rdE_some {st : Rd} {x : En} {r : List UInt8} (h : rdE st = (x, some r)) : ∃ l, st = some l ∧ l = putE x ++ r ∧ E64 x := by
  unfold rdE at h
  simp only [Prod.mk.injEq] at h
  obtain ⟨hx, hr⟩ := h
  obtain ⟨v0, s0, e0⟩ : ∃ v s, wide st = (v, s) := ⟨_, _, rfl⟩
  rw [e0] at hx hr
  simp only at hx hr
  obtain ⟨v1, s1, e1⟩ : ∃ v s, wide s0 = (v, s) := ⟨_, _, rfl⟩
  rw [e1] at hx hr
  simp only at hx hr
  obtain ⟨v2, s2, e2⟩ : ∃ v s, wide s1 = (v, s) := ⟨_, _, rfl⟩
  rw [e2] at hx hr
  simp only at hx hr
  obtain ⟨v3, s3, e3⟩ : ∃ v s, rdFlag s2 = (v, s) := ⟨_, _, rfl⟩
  rw [e3] at hx hr
  simp only at hx hr
  obtain ⟨v4, s4, e4⟩ : ∃ v s, wide s3 = (v, s) := ⟨_, _, rfl⟩
  rw [e4] at hx hr
  simp only at hx hr
  obtain ⟨v5, s5, e5⟩ : ∃ v s, wide s4 = (v, s) := ⟨_, _, rfl⟩
  rw [e5] at hx hr
  simp only at hx hr
  obtain ⟨v6, s6, e6⟩ : ∃ v s, rdFlag s5 = (v, s) := ⟨_, _, rfl⟩
  rw [e6] at hx hr
  simp only at hx hr
  subst hr
  obtain ⟨l6, q6, p6⟩ := flag_some e6
  subst q6
  obtain ⟨l5, q5, p5, b5⟩ := wide_some e5
  subst q5
  obtain ⟨l4, q4, p4, b4⟩ := wide_some e4
  subst q4
  obtain ⟨l3, q3, p3⟩ := flag_some e3
  subst q3
  obtain ⟨l2, q2, p2, b2⟩ := wide_some e2
  subst q2
  obtain ⟨l1, q1, p1, b1⟩ := wide_some e1
  subst q1
  obtain ⟨l0, q0, p0, b0⟩ := wide_some e0
  subst hx
  refine ⟨l0, q0, ?_, ⟨b0, b1, b2, b4, b5⟩⟩
  unfold putE
  rw [p0, p1, p2, p3, p4, p5, p6]
  simp only [List.append_assoc]

def putR (x : Rp) : List UInt8 := enc x.service ++ (enc x.id ++ (enc x.saga ++ (enc x.step ++ (flag x.back ++ (enc x.msg ++ (enc x.verdict))))))
/-- Rp: seven fields, one behind the other. -/
def rdR (st : Rd) : Rp × Rd :=
  let a0 := wide st
  let a1 := wide a0.2
  let a2 := wide a1.2
  let a3 := wide a2.2
  let a4 := rdFlag a3.2
  let a5 := wide a4.2
  let a6 := wide a5.2
  (⟨a0.1, a1.1, a2.1, a3.1, a4.1, a5.1, a6.1⟩, a6.2)
def takeR (st : Rd) : Rp := if (rdR st).2.isNone then rp0 else (rdR st).1
theorem rdR_put {x : Rp} (h : R64 x) (r : List UInt8) : rdR (some (putR x ++ r)) = (x, some r) := by
  have e : putR x ++ r = enc x.service ++ (enc x.id ++ (enc x.saga ++ (enc x.step ++ (flag x.back ++ (enc x.msg ++ (enc x.verdict ++ r)))))) := by unfold putR; simp
  unfold rdR
  rw [e]
  simp only [wide_enc h.service, wide_enc h.id, wide_enc h.saga, wide_enc h.step, wide_enc h.msg, wide_enc h.verdict, flag_back]
theorem rdR_none : rdR none = (rp0, none) := rfl
theorem rdR_some {st : Rd} {x : Rp} {r : List UInt8} (h : rdR st = (x, some r)) : ∃ l, st = some l ∧ l = putR x ++ r ∧ R64 x := by
  unfold rdR at h
  simp only [Prod.mk.injEq] at h
  obtain ⟨hx, hr⟩ := h
  obtain ⟨v0, s0, e0⟩ : ∃ v s, wide st = (v, s) := ⟨_, _, rfl⟩
  rw [e0] at hx hr
  simp only at hx hr
  obtain ⟨v1, s1, e1⟩ : ∃ v s, wide s0 = (v, s) := ⟨_, _, rfl⟩
  rw [e1] at hx hr
  simp only at hx hr
  obtain ⟨v2, s2, e2⟩ : ∃ v s, wide s1 = (v, s) := ⟨_, _, rfl⟩
  rw [e2] at hx hr
  simp only at hx hr
  obtain ⟨v3, s3, e3⟩ : ∃ v s, wide s2 = (v, s) := ⟨_, _, rfl⟩
  rw [e3] at hx hr
  simp only at hx hr
  obtain ⟨v4, s4, e4⟩ : ∃ v s, rdFlag s3 = (v, s) := ⟨_, _, rfl⟩
  rw [e4] at hx hr
  simp only at hx hr
  obtain ⟨v5, s5, e5⟩ : ∃ v s, wide s4 = (v, s) := ⟨_, _, rfl⟩
  rw [e5] at hx hr
  simp only at hx hr
  obtain ⟨v6, s6, e6⟩ : ∃ v s, wide s5 = (v, s) := ⟨_, _, rfl⟩
  rw [e6] at hx hr
  simp only at hx hr
  subst hr
  obtain ⟨l6, q6, p6, b6⟩ := wide_some e6
  subst q6
  obtain ⟨l5, q5, p5, b5⟩ := wide_some e5
  subst q5
  obtain ⟨l4, q4, p4⟩ := flag_some e4
  subst q4
  obtain ⟨l3, q3, p3, b3⟩ := wide_some e3
  subst q3
  obtain ⟨l2, q2, p2, b2⟩ := wide_some e2
  subst q2
  obtain ⟨l1, q1, p1, b1⟩ := wide_some e1
  subst q1
  obtain ⟨l0, q0, p0, b0⟩ := wide_some e0
  subst hx
  refine ⟨l0, q0, ?_, ⟨b0, b1, b2, b3, b5, b6⟩⟩
  unfold putR
  rw [p0, p1, p2, p3, p4, p5, p6]
  simp only [List.append_assoc]

theorem takeE_some {st : Rd} {x : En} {r : List UInt8} (h : rdE st = (x, some r)) : takeE st = x := by unfold takeE; rw [h]; rfl
theorem takeR_some {st : Rd} {x : Rp} {r : List UInt8} (h : rdR st = (x, some r)) : takeR st = x := by unfold takeR; rw [h]; rfl
theorem rdE_bad {st : Rd} {x : En} (h : rdE st = (x, none)) : takeE st = en0 := by unfold takeE; rw [h]; rfl
theorem rdR_bad {st : Rd} {x : Rp} (h : rdR st = (x, none)) : takeR st = rp0 := by unfold takeR; rw [h]; rfl
/-! ### envelopes -/
def putV (x : Ev) : List UInt8 := enc 1 ++ (enc x.num ++ (flag x.ask ++ (if x.ask then putE x.entry else putR x.reply)))
def textV (x : Ev) : Option (List UInt8) := if fitV x = true then some (putV x) else none
/-- The document's way: version, number, and what is asked or answered; and where the reader stands behind it. -/
def rdV (s : List UInt8) : Int × Ev × Rd :=
  let a := wide (some s)
  let b := wide a.2
  let c := rdFlag b.2
  if c.1 = true then (a.1, ⟨b.1, true, serviceV (takeE c.2).op, takeE c.2, rp0⟩, (rdE c.2).2)
  else (a.1, ⟨b.1, false, (takeR c.2).service, en0, takeR c.2⟩, (rdR c.2).2)
def takeV (s : List UInt8) : Option Ev := if (rdV s).1 = 1 ∧ done (rdV s).2.2 = true ∧ fitV (rdV s).2.1 = true then some (rdV s).2.1 else none
structure FitV (x : Ev) : Prop where
  num0 : 1 ≤ x.num
  num1 : x.num ≤ 1099511627776
  asked : x.ask = true → oneE x.entry = true ∧ x.service = serviceV x.entry.op ∧ x.reply = rp0
  told : x.ask = false → fitR x.reply = true ∧ x.service = x.reply.service ∧ x.entry = en0
theorem fitV_iff {x : Ev} : fitV x = true ↔ FitV x := by
  unfold fitV
  simp only [Bool.and_eq_true, decide_eq_true_eq]
  cases ha : x.ask with
  | true =>
    simp only [if_true, Bool.and_eq_true, decide_eq_true_eq, eqR_iff]
    exact ⟨fun ⟨a, b, c⟩ => ⟨a, b, fun _ => c, fun h => (by rw [ha] at h; cases h)⟩, fun h => ⟨h.num0, h.num1, h.asked ha⟩⟩
  | false =>
    simp only [Bool.false_eq_true, if_false, Bool.and_eq_true, decide_eq_true_eq, eqE_iff]
    exact ⟨fun ⟨a, b, c⟩ => ⟨a, b, fun h => (by rw [ha] at h; cases h), fun _ => c⟩, fun h => ⟨h.num0, h.num1, h.told ha⟩⟩
theorem rdV_put {x : Ev} (h : fitV x = true) (r : List UInt8) : rdV (putV x ++ r) = (1, x, some r) := by
  have f := fitV_iff.1 h
  have h0 := f.num0; have h1 := f.num1
  have e : putV x ++ r = enc 1 ++ (enc x.num ++ (flag x.ask ++ ((if x.ask then putE x.entry else putR x.reply) ++ r))) := by unfold putV; simp
  unfold rdV
  rw [e]
  simp only [wide_enc (show I64 1 from ⟨by decide, by decide⟩), wide_enc (show I64 x.num from ⟨by omega, by omega⟩), flag_back]
  obtain ⟨n, ask, sv, en, rp⟩ := x
  cases ask with
  | true =>
    obtain ⟨g1, g2, g3⟩ := f.asked rfl
    simp only at g1 g2 g3
    simp only [if_true]
    rw [takeE_some (rdE_put (e64_of g1) r), rdE_put (e64_of g1) r, g2, g3]
  | false =>
    obtain ⟨g1, g2, g3⟩ := f.told rfl
    simp only at g1 g2 g3
    simp only [Bool.false_eq_true, if_false]
    rw [takeR_some (rdR_put (r64_of g1) r), rdR_put (r64_of g1) r, g2, g3]
theorem take_back {x : Ev} (h : fitV x = true) : takeV (putV x) = some x := by
  have := rdV_put h []
  rw [List.append_nil] at this
  unfold takeV
  rw [this]
  simp only
  rw [if_pos ⟨trivial, rfl, h⟩]
/-- With more behind it, it is none. -/
theorem take_more {x : Ev} (h : fitV x = true) {r : List UInt8} (hr : r ≠ []) : takeV (putV x ++ r) = none := by
  unfold takeV
  rw [rdV_put h r]
  simp only
  rw [if_neg]
  rintro ⟨_, hd, _⟩
  unfold WireP.done at hd
  have := of_decide_eq_true hd
  cases this
  exact hr rfl
theorem take_some {s : List UInt8} {x : Ev} (h : takeV s = some x) : fitV x = true ∧ putV x = s := by
  unfold takeV at h
  split at h
  case isFalse => cases h
  case isTrue hc =>
    obtain ⟨h1, hd, hf⟩ := hc
    have hx := Option.some.inj h
    rw [hx] at hf
    refine ⟨hf, ?_⟩
    have hd2 : (rdV s).2.2 = some [] := of_decide_eq_true hd
    unfold rdV at h1 hd2 hx
    simp only at h1 hd2 hx
    obtain ⟨v1, s1, e1⟩ : ∃ v t, wide (some s) = (v, t) := ⟨_, _, rfl⟩
    rw [e1] at h1 hd2 hx
    simp only at h1 hd2 hx
    obtain ⟨v2, s2, e2⟩ : ∃ v t, wide s1 = (v, t) := ⟨_, _, rfl⟩
    rw [e2] at h1 hd2 hx
    simp only at h1 hd2 hx
    obtain ⟨v3, s3, e3⟩ : ∃ v t, rdFlag s2 = (v, t) := ⟨_, _, rfl⟩
    rw [e3] at h1 hd2 hx
    simp only at h1 hd2 hx
    have close : ∀ {p : List UInt8}, s3 = some p → putV x = enc 1 ++ (enc v2 ++ (flag v3 ++ p)) → v1 = 1 → putV x = s := by
      intro p hp hput hv
      subst hp
      obtain ⟨l2, q2, p2⟩ := flag_some e3
      subst q2
      obtain ⟨l1, q1, p1, _⟩ := wide_some e2
      subst q1
      obtain ⟨l0, q0, p0, _⟩ := wide_some e1
      cases q0
      rw [hput, p0, p1, p2, hv]
    cases v3 with
    | true =>
      simp only [if_true] at h1 hd2 hx
      obtain ⟨y, t, ey⟩ : ∃ y t, rdE s3 = (y, t) := ⟨_, _, rfl⟩
      rw [ey] at hd2
      simp only at hd2
      subst hd2
      obtain ⟨p, hp, hpe, _⟩ := rdE_some ey
      rw [takeE_some ey] at hx
      refine close hp ?_ h1
      rw [← hx, hpe]
      unfold putV
      simp
    | false =>
      simp only [Bool.false_eq_true, if_false] at h1 hd2 hx
      obtain ⟨y, t, ey⟩ : ∃ y t, rdR s3 = (y, t) := ⟨_, _, rfl⟩
      rw [ey] at hd2
      simp only at hd2
      subst hd2
      obtain ⟨p, hp, hpe, _⟩ := rdR_some ey
      rw [takeR_some ey] at hx
      refine close hp ?_ h1
      rw [← hx, hpe]
      unfold putV
      simp
theorem put_ne (x : Ev) : putV x ≠ [] := by unfold putV WireP.enc; simp
/-- With an octet less, it is none. -/
theorem take_less {x : Ev} (h : fitV x = true) : takeV (putV x).dropLast = none := by
  cases ht : takeV (putV x).dropLast with
  | none => rfl
  | some y =>
    obtain ⟨hy, hp⟩ := take_some ht
    have h1 := take_back h
    rw [← List.dropLast_concat_getLast (put_ne x), ← hp, take_more hy (by simp)] at h1
    cases h1
/-- Whatever answers the fit envelope whose octets they are, or none, answers this. -/
theorem take_unique {s : List UInt8} {r : Option Ev} (h1 : ∀ x, r = some x → fitV x = true ∧ putV x = s) (h2 : r = none → ∀ x, fitV x = true → putV x ≠ s) : r = takeV s := by
  cases r with
  | none =>
    cases hr : takeV s with
    | none => rfl
    | some x => exact absurd (take_some hr).2 (h2 rfl x (take_some hr).1)
  | some x =>
    obtain ⟨a, b⟩ := h1 x rfl
    rw [← b, take_back a]
theorem take_nil : takeV [] = none := rfl
end MsgP
end Go.Proofs.Ytamcidlkbhanfaa
