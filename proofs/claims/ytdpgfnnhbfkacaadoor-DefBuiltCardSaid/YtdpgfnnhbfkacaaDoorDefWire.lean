/-
  Plain facts of def: definitions as octets, written and read; lists, numbers and octets alone, nothing of the program.
-/
import Derived.Test.YtdpgfnnhbfkacaaDoorDefRead
set_option linter.unusedVariables false
namespace Go.Proofs.YtdpgfnnhbfkacaaDoor
open NumP
namespace DefP
open WireP (rdInt rdText rdList lenOk enc text ok num nl left done encs)

/-- A number of 64 bits. -/
def I64 (n : Int) : Prop := -9223372036854775808 ≤ n ∧ n ≤ 9223372036854775807
structure S64 (x : Step) : Prop where
  op : I64 x.op
  cls : I64 x.cls
  tries : I64 x.tries
  base : I64 x.base
  cap : I64 x.cap
  wait : I64 x.wait
theorem s64_of {x : Step} (h : StP.fitS x = true) : S64 x := by
  have f := StP.fitS_of h
  have h0 := f.op0; have h1 := f.op1; have h2 := f.cls0; have h3 := f.cls1; have h4 := f.tries0; have h5 := f.tries1; have h6 := f.base0; have h7 := f.base1; have h8 := f.cap0; have h9 := f.cap1; have h10 := f.wait0; have h11 := f.wait1
  refine ⟨⟨by omega, by omega⟩, ⟨by omega, by omega⟩, ⟨by omega, by omega⟩, ⟨by omega, by omega⟩, ⟨by omega, by omega⟩, ⟨by omega, by omega⟩⟩
def six (x : Step) : List Int := [x.op, x.cls, x.tries, x.base, x.cap, x.wait]
def one (x : Step) : List UInt8 := encs (six x)
def putD (d : Df) : List UInt8 := text d.name.data.toList ++ (enc (d.steps.length : Int) ++ d.steps.flatMap one)
/-- What is written of a definition ahead of its k-th step. -/
def pk (d : Df) (k : Nat) : List UInt8 := text d.name.data.toList ++ enc (d.steps.length : Int) ++ (d.steps.take k).flatMap one
theorem putD_pk (d : Df) : putD d = pk d d.steps.length := by unfold putD pk; rw [List.take_length, List.append_assoc]
theorem pk_zero (d : Df) : pk d 0 = text d.name.data.toList ++ enc (d.steps.length : Int) := by simp [pk]
theorem pk_step {d : Df} {k : Nat} {x : Step} (h : d.steps[k]? = some x) : pk d (k + 1) = pk d k ++ one x := by
  have hk : k < d.steps.length := (List.getElem?_eq_some_iff.1 h).1
  unfold pk
  rw [List.take_succ_eq_append_getElem hk, (List.getElem?_eq_some_iff.1 h).2, List.flatMap_append, List.flatMap_cons, List.flatMap_nil, List.append_nil]
  simp only [List.append_assoc]
theorem one_len {x : Step} (h : S64 x) : (one x).length ≤ 54 := by
  have := WireP.encs_len (six x) (by
    intro n hn
    unfold six at hn
    simp only [List.mem_cons, List.mem_nil_iff, or_false] at hn
    rcases hn with rfl | rfl | rfl | rfl | rfl | rfl
    · exact h.op
    · exact h.cls
    · exact h.tries
    · exact h.base
    · exact h.cap
    · exact h.wait)
  exact this
theorem ones_len {l : List Step} (h : ∀ x ∈ l, S64 x) : (l.flatMap one).length ≤ 54 * l.length := by
  induction l with
  | nil => simp
  | cons x r ih =>
    have h1 := ih fun y hy => h y (List.mem_cons_of_mem _ hy)
    have h2 := one_len (h x (by simp))
    rw [List.flatMap_cons, List.length_append, List.length_cons]
    omega
/-! ### definitions read from a reader -/
def wide (st : Rd) : Int × Rd := rdInt (-9223372036854775808) 9223372036854775807 st
/-- Six numbers, one behind the other. -/
def rdSix (st : Rd) : Step × Rd :=
  let a := wide st
  let b := wide a.2
  let c := wide b.2
  let d := wide c.2
  let e := wide d.2
  let f := wide e.2
  (⟨a.1, b.1, c.1, d.1, e.1, f.1⟩, f.2)
def takeUp : Nat → List Step → Rd → List Step × Rd
  | 0, acc, st => (acc, st)
  | n + 1, acc, st => takeUp n (acc ++ [(rdSix st).1]) (rdSix st).2
/-- What is read, and the reader behind it. -/
def takeA (st : Rd) : Df × Rd :=
  (⟨⟨(rdText 48 st).1.toArray⟩, (takeUp (rdList 6 (rdText 48 st).2).1.toNat [] (rdList 6 (rdText 48 st).2).2).1⟩, (takeUp (rdList 6 (rdText 48 st).2).1.toNat [] (rdList 6 (rdText 48 st).2).2).2)
def takeD (st : Rd) : Df := if (takeA st).2.isNone then df0 else (takeA st).1
theorem takeUp_step {n : Nat} {acc : List Step} {st st2 : Rd} {x : Step} (h : rdSix st = (x, st2)) : takeUp (n + 1) acc st = takeUp n (acc ++ [x]) st2 := by rw [takeUp, h]
theorem takeUp_len : ∀ (n : Nat) (acc : List Step) (st : Rd), (takeUp n acc st).1.length = acc.length + n
  | 0, acc, st => rfl
  | n + 1, acc, st => by rw [takeUp, takeUp_len n]; simp; omega
theorem rdInt_enc {n : Int} (h : I64 n) (r : List UInt8) : wide (some (enc n ++ r)) = (n, some r) := by
  show ite _ _ _ = _
  rw [if_pos ⟨WireP.ok_enc h.1 h.2 r, by rw [WireP.num_enc h.1 h.2]; exact h⟩, WireP.num_enc h.1 h.2, WireP.drop_enc h.1 h.2]
theorem rdSix_one {x : Step} (h : S64 x) (r : List UInt8) : rdSix (some (one x ++ r)) = (x, some r) := by
  have e : one x ++ r = enc x.op ++ (enc x.cls ++ (enc x.tries ++ (enc x.base ++ (enc x.cap ++ (enc x.wait ++ r))))) := by
    unfold one six encs
    simp
  unfold rdSix
  rw [e]
  simp only [rdInt_enc h.op, rdInt_enc h.cls, rdInt_enc h.tries, rdInt_enc h.base, rdInt_enc h.cap, rdInt_enc h.wait]
theorem takeUp_put : ∀ (l acc : List Step) (r : List UInt8), (∀ x ∈ l, S64 x) → takeUp l.length acc (some (l.flatMap one ++ r)) = (acc ++ l, some r)
  | [], acc, r, _ => by simp [takeUp]
  | x :: m, acc, r, h => by
    rw [List.flatMap_cons, List.append_assoc, List.length_cons, takeUp_step (rdSix_one (h x (by simp)) _), takeUp_put m _ r fun y hy => h y (List.mem_cons_of_mem _ hy)]
    simp
theorem enc_pos (n : Int) : 1 ≤ (enc n).length := by unfold enc; simp
theorem rdText_enc {s : List UInt8} (hs : s.length ≤ 48) (r : List UInt8) : rdText 48 (some (text s ++ r)) = (s, some r) := by
  have h0 : -9223372036854775808 ≤ ((s.length : Nat) : Int) := by omega
  have h1 : ((s.length : Nat) : Int) ≤ 9223372036854775807 := by omega
  have e : text s ++ r = enc (s.length : Int) ++ (s ++ r) := by unfold text; rw [List.append_assoc]
  rw [e]
  have hd := WireP.drop_enc h0 h1 (s ++ r)
  have hlen := congrArg List.length hd
  rw [List.length_drop] at hlen
  have hl2 : (s ++ r).length = s.length + r.length := List.length_append
  have hk : lenOk 48 (enc (s.length : Int) ++ (s ++ r)) := by
    refine ⟨WireP.ok_enc h0 h1 _, ?_, ?_, ?_⟩
    · rw [WireP.num_enc h0 h1]; omega
    · rw [WireP.num_enc h0 h1]; omega
    · rw [WireP.num_enc h0 h1, hlen]; omega
  show ite _ _ _ = _
  rw [if_pos hk, WireP.num_enc h0 h1, Int.toNat_natCast, hd, ← List.drop_drop (i := s.length) (j := 1 + nl (enc (s.length : Int) ++ (s ++ r))), hd]
  simp
theorem rdList_enc {n : Nat} (hn : n ≤ 6) (r : List UInt8) (hr : n ≤ r.length) : rdList 6 (some (enc (n : Int) ++ r)) = ((n : Int), some r) := by
  have h0 : -9223372036854775808 ≤ ((n : Nat) : Int) := by omega
  have h1 : ((n : Nat) : Int) ≤ 9223372036854775807 := by omega
  have hd := WireP.drop_enc h0 h1 r
  have hlen := congrArg List.length hd
  rw [List.length_drop] at hlen
  have hk : lenOk 6 (enc (n : Int) ++ r) := by
    refine ⟨WireP.ok_enc h0 h1 _, ?_, ?_, ?_⟩
    · rw [WireP.num_enc h0 h1]; omega
    · rw [WireP.num_enc h0 h1]; omega
    · rw [WireP.num_enc h0 h1, hlen]; omega
  show ite _ _ _ = _
  rw [if_pos hk, WireP.num_enc h0 h1, hd]
theorem ones_pos (l : List Step) : l.length ≤ (l.flatMap one).length := by
  induction l with
  | nil => simp
  | cons x r ih =>
    rw [List.flatMap_cons, List.length_append, List.length_cons]
    have h1 : 1 ≤ (one x).length := by
      have := enc_pos x.op
      unfold one six encs
      rw [List.flatMap_cons, List.length_append]
      omega
    omega
theorem take_put {d : Df} (hn : d.name.data.toList.length ≤ 48) (hl : d.steps.length ≤ 6) (hs : ∀ x ∈ d.steps, S64 x) (r : List UInt8) : takeA (some (putD d ++ r)) = (d, some r) := by
  unfold takeA putD
  rw [List.append_assoc, List.append_assoc, rdText_enc hn, rdList_enc hl _ (by have := ones_pos d.steps; rw [List.length_append]; omega)]
  simp only [Int.toNat_natCast]
  rw [takeUp_put d.steps [] r hs, bytes_of]
  simp
theorem take_fit {d : Df} (h : fitD d = true) : takeA (some (putD d)) = (d, some []) ∧ takeD (some (putD d)) = d := by
  have hd := fitD_iff.1 h
  have h1 := take_put (d := d) (nm_len hd.1) (fitL_len hd.2).2 (fun x hx => s64_of (fitL_steps hd.2 x hx)) []
  rw [List.append_nil] at h1
  refine ⟨h1, ?_⟩
  unfold takeD
  rw [h1]
  rfl
theorem rdList_bounds (st : Rd) : 0 ≤ (rdList 6 st).1 ∧ (rdList 6 st).1 ≤ 6 := by
  cases st with
  | none => exact ⟨by decide, by decide⟩
  | some l =>
    show 0 ≤ (ite _ _ _ : Int × Rd).1 ∧ (ite _ _ _ : Int × Rd).1 ≤ 6
    split
    · rename_i h; exact ⟨h.2.1, h.2.2.1⟩
    · exact ⟨by decide, by decide⟩
/-! ### bad readers stay bad -/
theorem wide_none : wide none = (0, none) := rfl
theorem rdSix_none : rdSix none = (StP.st0, none) := rfl
theorem takeUp_none : ∀ (n : Nat) (acc : List Step), (takeUp n acc none).2 = none
  | 0, _ => rfl
  | n + 1, acc => by rw [takeUp, rdSix_none]; exact takeUp_none n _
end DefP
end Go.Proofs.YtdpgfnnhbfkacaaDoor
