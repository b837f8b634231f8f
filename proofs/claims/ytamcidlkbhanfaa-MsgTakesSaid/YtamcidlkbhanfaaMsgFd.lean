/-
  Fields one behind the other, written and read: numbers and flags (no program).
-/
import Derived.Test.YtamcidlkbhanfaaMsgPlain
set_option linter.unusedVariables false
namespace Go.Proofs.Ytamcidlkbhanfaa
namespace MsgP
open WireP (enc flag rdFlag)

inductive Fld
  | num (n : Int)
  | flag (v : Bool)
def Fld.kind : Fld → Bool | .num _ => false | .flag _ => true
def fd0 : Bool → Fld | false => .num 0 | true => .flag false
def fput : Fld → List UInt8 | .num n => enc n | .flag v => flag v
def fputs (l : List Fld) : List UInt8 := (l.map fput).flatten
theorem fputs_step {l : List Fld} {k : Nat} {f : Fld} (h : l[k]? = some f) : fputs (l.take (k + 1)) = fputs (l.take k) ++ fput f := by
  obtain ⟨hk, hf⟩ := List.getElem?_eq_some_iff.1 h
  unfold fputs
  rw [List.take_succ_eq_append_getElem hk, hf, List.map_append, List.flatten_append]
  simp
def fE (x : OutP.En) : List Fld := [.num x.id, .num x.saga, .num x.step, .flag x.back, .num x.op, .num x.sum, .flag x.must]
def fR (x : Rp) : List Fld := [.num x.service, .num x.id, .num x.saga, .num x.step, .flag x.back, .num x.msg, .num x.verdict]
theorem fputs_E (x : OutP.En) : fputs (fE x) = putE x := by simp [fputs, fE, fput, putE]
theorem fputs_R (x : Rp) : fputs (fR x) = putR x := by simp [fputs, fR, fput, putR]
/-- Numbers of 64 bits. -/
def F64 (l : List Fld) : Prop := ∀ n, Fld.num n ∈ l → I64 n
theorem f64_E {x : OutP.En} (h : E64 x) : F64 (fE x) := by
  intro n hn
  simp only [fE, List.mem_cons, Fld.num.injEq, List.mem_nil_iff, or_false, reduceCtorEq, false_or] at hn
  rcases hn with rfl | rfl | rfl | rfl | rfl
  · exact h.id
  · exact h.saga
  · exact h.step
  · exact h.op
  · exact h.sum
theorem f64_R {x : Rp} (h : R64 x) : F64 (fR x) := by
  intro n hn
  simp only [fR, List.mem_cons, Fld.num.injEq, List.mem_nil_iff, or_false, reduceCtorEq, false_or] at hn
  rcases hn with rfl | rfl | rfl | rfl | rfl | rfl
  · exact h.service
  · exact h.id
  · exact h.saga
  · exact h.step
  · exact h.msg
  · exact h.verdict
theorem fput_len {f : Fld} (h : ∀ n, f = .num n → I64 n) : (fput f).length ≤ 9 := by
  cases f with
  | num n => exact WireP.enc_len (h n rfl).1 (h n rfl).2
  | flag v => cases v <;> decide
theorem fputs_len {l : List Fld} (h : F64 l) : (fputs l).length ≤ 9 * l.length := by
  induction l with
  | nil => exact Nat.le_refl 0
  | cons f r ih =>
    have h1 := fput_len (f := f) (fun n e => h n (by rw [← e]; exact List.mem_cons_self))
    have h2 := ih (fun n hn => h n (List.mem_cons_of_mem _ hn))
    unfold fputs at h2 ⊢
    rw [List.map_cons, List.flatten_cons, List.length_append, List.length_cons]
    omega
theorem fputs_take_len {l : List Fld} (h : F64 l) (hl : l.length ≤ 100) (k : Nat) : (fputs (l.take k)).length ≤ 900 := by
  have := fputs_len (l := l.take k) (fun n hn => h n (List.mem_of_mem_take hn))
  rw [List.length_take] at this
  have h2 : 9 * min k l.length ≤ 9 * l.length := Nat.mul_le_mul_left 9 (Nat.min_le_right _ _)
  omega
/-! ### read -/
def fget (k : Bool) (st : Rd) : Fld × Rd := if k then (.flag (rdFlag st).1, (rdFlag st).2) else (.num (wide st).1, (wide st).2)
def fgets : List Bool → Rd → List Fld × Rd
  | [], st => ([], st)
  | k :: ks, st => ((fget k st).1 :: (fgets ks (fget k st).2).1, (fgets ks (fget k st).2).2)
def kE : List Bool := [false, false, false, true, false, false, true]
def kR : List Bool := [false, false, false, false, true, false, false]
theorem fgets_E (st : Rd) : fgets kE st = (fE (rdE st).1, (rdE st).2) := rfl
theorem fgets_R (st : Rd) : fgets kR st = (fR (rdR st).1, (rdR st).2) := rfl
theorem fgets_len (ks : List Bool) : ∀ st, (fgets ks st).1.length = ks.length := by
  induction ks with
  | nil => intro st; rfl
  | cons k ks ih => intro st; show ((fgets ks (fget k st).2).1.length + 1) = _; rw [ih]; rfl
/-- What has been read once i fields are. -/
structure Got (ks : List Bool) (st0 : Rd) (i : Nat) (done : List Fld) (st : Rd) : Prop where
  len : done.length = i
  here : i ≤ ks.length
  all : fgets ks st0 = (done ++ (fgets (ks.drop i) st).1, (fgets (ks.drop i) st).2)
theorem Got.start (ks : List Bool) (st : Rd) : Got ks st 0 [] st := ⟨rfl, Nat.zero_le _, by simp⟩
theorem Got.step {ks : List Bool} {st0 st st' : Rd} {i : Nat} {done : List Fld} {k : Bool} {f : Fld} (h : Got ks st0 i done st) (hk : ks[i]? = some k) (hf : fget k st = (f, st')) : Got ks st0 (i + 1) (done ++ [f]) st' := by
  obtain ⟨hi, hv⟩ := List.getElem?_eq_some_iff.1 hk
  refine ⟨by rw [List.length_append, h.len]; rfl, hi, ?_⟩
  rw [h.all, List.drop_eq_getElem_cons hi, hv]
  have e : fgets (k :: ks.drop (i + 1)) st = (f :: (fgets (ks.drop (i + 1)) st').1, (fgets (ks.drop (i + 1)) st').2) := by
    show ((fget k st).1 :: (fgets _ (fget k st).2).1, (fgets _ (fget k st).2).2) = _
    rw [hf]
  rw [e, List.append_assoc]
  rfl
theorem Got.done {ks : List Bool} {st0 st : Rd} {done : List Fld} (h : Got ks st0 ks.length done st) : fgets ks st0 = (done, st) := by
  rw [h.all, List.drop_length]
  show (done ++ [], st) = _
  rw [List.append_nil]
end MsgP
end Go.Proofs.Ytamcidlkbhanfaa
