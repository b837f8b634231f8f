/-
  Plain facts of lines as octets: written and read; lists, bytes and numbers alone, nothing of the program.
-/
import Derived.Test.YtpaemofjeadhcaaGreatDoorLinesPlain
import Derived.Test.YtpaemofjeadhcaaGreatDoorWirePlain
set_option linter.unusedVariables false
namespace Go.Proofs.YtpaemofjeadhcaaGreatDoor
namespace LinesP
open WireP (St rdInt rdText rdList lenOk enc text ok num nl left done)

def one (x : Ln) : List UInt8 := text x.1.data.toList ++ enc x.2
def putV (l : List Ln) : List UInt8 := enc (l.length : Int) ++ l.flatMap one
def pk (l : List Ln) (k : Nat) : List UInt8 := enc (l.length : Int) ++ (l.take k).flatMap one
theorem putV_pk (l : List Ln) : putV l = pk l l.length := by unfold putV pk; rw [List.take_length]
theorem pk_zero (l : List Ln) : pk l 0 = enc (l.length : Int) := by simp [pk]
theorem pk_step {l : List Ln} {k : Nat} (hk : k < l.length) : pk l (k + 1) = pk l k ++ text (l.getD k ln0).1.data.toList ++ enc (l.getD k ln0).2 := by
  have e : l.getD k ln0 = l[k] := by simp [List.getD, hk]
  unfold pk
  rw [List.take_succ_eq_append_getElem hk, e, List.flatMap_append, List.flatMap_cons, List.flatMap_nil, List.append_nil]
  unfold one
  simp only [List.append_assoc]
theorem wtext_len {s : List UInt8} (hs : s.length ≤ 300) : (text s).length ≤ 309 := by
  unfold text
  rw [List.length_append]
  have := WireP.enc_len (n := ((s.length : Nat) : Int)) (by omega) (by omega)
  omega
theorem pk_size {l : List Ln} (hs : ∀ x ∈ l, x.1.size ≤ 300 ∧ -9223372036854775808 ≤ x.2 ∧ x.2 ≤ 9223372036854775807) (h8 : l.length ≤ 8) (k : Nat) : (pk l k).length ≤ 2600 := by
  have key : ∀ m : List Ln, (∀ x ∈ m, x.1.size ≤ 300 ∧ -9223372036854775808 ≤ x.2 ∧ x.2 ≤ 9223372036854775807) → (m.flatMap one).length ≤ 318 * m.length := by
    intro m
    induction m with
    | nil => intro _; simp
    | cons y r ih =>
      intro hy
      have h1 := ih fun x hx => hy x (List.mem_cons_of_mem _ hx)
      have h2 := hy y (List.mem_cons_self ..)
      have h3 := wtext_len (s := y.1.data.toList) (by rw [Array.length_toList]; exact h2.1)
      have h4 := WireP.enc_len h2.2.1 h2.2.2
      rw [List.flatMap_cons, List.length_append, List.length_cons]
      unfold one
      rw [List.length_append]
      unfold one at h1
      omega
  have h1 := key (l.take k) fun x hx => hs x (List.mem_of_mem_take hx)
  have h2 := WireP.enc_len (n := ((l.length : Nat) : Int)) (by omega) (by omega)
  have h3 : (l.take k).length ≤ 8 := by rw [List.length_take]; omega
  unfold pk
  rw [List.length_append]
  omega
/-! ### lines read from a reader -/
def takeUp : Nat → List Ln → St → List Ln × St
  | 0, acc, st => (acc, st)
  | n + 1, acc, st => takeUp n (acc ++ [(⟨(rdText 48 st).1.toArray⟩, (rdInt (-9223372036854775808) 9223372036854775807 (rdText 48 st).2).1)]) (rdInt (-9223372036854775808) 9223372036854775807 (rdText 48 st).2).2
def takeA (st : St) : List Ln × St := takeUp (rdList 4 st).1.toNat [] (rdList 4 st).2
def takeV (st : St) : List Ln := if (takeA st).2.isNone then [] else (takeA st).1
theorem takeUp_step {n : Nat} {acc : List Ln} {st st1 st2 : St} {z : ByteArray} {m : Int} (h1 : rdText 48 st = (z.data.toList, st1)) (h2 : rdInt (-9223372036854775808) 9223372036854775807 st1 = (m, st2)) : takeUp (n + 1) acc st = takeUp n (acc ++ [(z, m)]) st2 := by
  rw [takeUp, h1]
  simp only
  rw [h2]
theorem rdList_bounds (st : St) : 0 ≤ (rdList 4 st).1 ∧ (rdList 4 st).1 ≤ 4 := by
  cases st with
  | none => exact ⟨by decide, by decide⟩
  | some l =>
    unfold rdList
    by_cases h : lenOk 4 l
    · simp only [h, if_true]; exact ⟨h.2.1, h.2.2.1⟩
    · simp only [h, if_false]; exact ⟨by decide, by decide⟩
theorem rdText_len (st : St) : (rdText 48 st).1.length ≤ 48 := by
  cases st with
  | none => simp [rdText]
  | some l =>
    unfold rdText
    by_cases h : lenOk 48 l
    · simp only [h, if_true]
      have := h.2.2.1
      rw [List.length_take]
      omega
    · simp [h]
theorem bad_st (st : St) : st.isNone = (decide (left st = 0) && !done st) := by
  cases st with
  | none => rfl
  | some l =>
    cases l with
    | nil => rfl
    | cons x r => simp [left]
/-! ### there and back -/
theorem enc_pos (n : Int) : 1 ≤ (enc n).length := by unfold WireP.enc; simp
theorem rdInt_enc {n : Int} (h0 : -9223372036854775808 ≤ n) (h1 : n ≤ 9223372036854775807) (r : List UInt8) : rdInt (-9223372036854775808) 9223372036854775807 (some (enc n ++ r)) = (n, some r) := by
  show ite _ _ _ = _
  rw [if_pos ⟨WireP.ok_enc h0 h1 r, by rw [WireP.num_enc h0 h1]; exact h0, by rw [WireP.num_enc h0 h1]; exact h1⟩, WireP.num_enc h0 h1, WireP.drop_enc h0 h1]
theorem rdText_enc {s : List UInt8} (hs : s.length ≤ 48) (r : List UInt8) : rdText 48 (some (text s ++ r)) = (s, some r) := by
  have h0 : -9223372036854775808 ≤ ((s.length : Nat) : Int) := by omega
  have h1 : ((s.length : Nat) : Int) ≤ 9223372036854775807 := by omega
  have e : text s ++ r = enc (s.length : Int) ++ (s ++ r) := by unfold text; rw [List.append_assoc]
  have hd := WireP.drop_enc h0 h1 (s ++ r)
  have hlen : (enc (s.length : Int) ++ (s ++ r)).length - (1 + nl (enc (s.length : Int) ++ (s ++ r))) = s.length + r.length := by
    have := congrArg List.length hd
    rw [List.length_drop] at this
    rw [this, List.length_append]
  rw [e]
  have hk : lenOk 48 (enc (s.length : Int) ++ (s ++ r)) := by
    refine ⟨WireP.ok_enc h0 h1 _, ?_, ?_, ?_⟩
    · rw [WireP.num_enc h0 h1]; omega
    · rw [WireP.num_enc h0 h1]; omega
    · rw [WireP.num_enc h0 h1, hlen]; omega
  show ite _ _ _ = _
  rw [if_pos hk, WireP.num_enc h0 h1, Int.toNat_natCast, hd, ← List.drop_drop (i := s.length) (j := 1 + nl (enc (s.length : Int) ++ (s ++ r))), hd]
  simp
theorem rdList_enc {n : Nat} (hn : n ≤ 4) (r : List UInt8) (hr : n ≤ r.length) : rdList 4 (some (enc (n : Int) ++ r)) = ((n : Int), some r) := by
  have h0 : -9223372036854775808 ≤ ((n : Nat) : Int) := by omega
  have h1 : ((n : Nat) : Int) ≤ 9223372036854775807 := by omega
  have hd := WireP.drop_enc h0 h1 r
  have hlen := congrArg List.length hd
  rw [List.length_drop] at hlen
  have hk : lenOk 4 (enc (n : Int) ++ r) := by
    refine ⟨WireP.ok_enc h0 h1 _, ?_, ?_, ?_⟩
    · rw [WireP.num_enc h0 h1]; omega
    · rw [WireP.num_enc h0 h1]; omega
    · rw [WireP.num_enc h0 h1, hlen]; omega
  show ite _ _ _ = _
  rw [if_pos hk, WireP.num_enc h0 h1, hd]
theorem one_pos (l : List Ln) : l.length ≤ (l.flatMap one).length := by
  induction l with
  | nil => simp
  | cons x r ih =>
    rw [List.flatMap_cons, List.length_append, List.length_cons]
    have := enc_pos x.2
    unfold one
    rw [List.length_append]
    unfold one at ih
    omega
theorem takeUp_put : ∀ (l acc : List Ln), (∀ x ∈ l, nm x.1 = true ∧ qty x.2 = true) → takeUp l.length acc (some (l.flatMap one)) = (acc ++ l, some [])
  | [], acc, _ => by simp [takeUp]
  | x :: r, acc, h => by
    have hx := h x (by simp)
    have hq := qty_iff.1 hx.2
    have e : (x :: r).flatMap one = text x.1.data.toList ++ (enc x.2 ++ r.flatMap one) := by
      rw [List.flatMap_cons]; unfold one; rw [List.append_assoc]
    rw [e, List.length_cons, takeUp_step (z := x.1) (rdText_enc (nm_len hx.1) _) (rdInt_enc (by omega) (by omega) _), takeUp_put r _ fun y hy => h y (List.mem_cons_of_mem _ hy)]
    simp
theorem take_put {l : List Ln} (h : fitL l = true) : takeA (some (putV l)) = (l, some []) := by
  unfold takeA putV
  rw [rdList_enc (fitL_len h) _ (one_pos l)]
  simp only [Int.toNat_natCast]
  rw [takeUp_put l [] (fitL_mem h)]
  simp
end LinesP
end Go.Proofs.YtpaemofjeadhcaaGreatDoor
