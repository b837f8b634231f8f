/-
  Plain facts: numbers come back from their digits, and what is read as a number is its digits. Lists of bytes and numbers alone, nothing of the program.
-/
import Derived.Test.YtcdinaoenhonbaaDoorNumDig
set_option maxRecDepth 4000
namespace Go.Proofs.YtcdinaoenhonbaaDoor
namespace NumP

theorem allDig_append : ∀ (l r : List UInt8), allDig (l ++ r) = (allDig l && allDig r)
  | [], r => by simp [allDig]
  | c :: l, r => by simp [allDig, allDig_append l r, Bool.and_assoc]
theorem valUp_append : ∀ (l r : List UInt8) (n : Int), valUp n (l ++ r) = (valUp n l).bind fun m => valUp m r
  | [], r, n => by simp [valUp]
  | c :: l, r, n => by
    rw [List.cons_append, valUp, valUp]
    split
    · rfl
    · exact valUp_append l r _
theorem digit_nat (u : Nat) (h : u < 10) : (UInt8.ofNat (48 + u)).toNat = 48 + u := by
  rw [UInt8.toNat_ofNat']
  omega
theorem digit_back {c : UInt8} (h : 48 ≤ c.toNat) : UInt8.ofNat (48 + (c.toNat - 48)) = c := by
  rw [show 48 + (c.toNat - 48) = c.toNat from by omega]
  exact UInt8.ofNat_toNat
theorem dec_small {u : Nat} (h : u < 10) : Lib.decDigits u = [UInt8.ofNat (48 + u)] := Lib.decDigits_one h
theorem dec_dig : ∀ (k u : Nat), u < k → allDig (Lib.decDigits u) = true
  | 0, u, h => by omega
  | k + 1, u, h => by
    by_cases h1 : u < 10
    · rw [dec_small h1]
      simp only [allDig, Bool.and_true]
      exact isDig_yes (by rw [digit_nat u h1]; omega) (by rw [digit_nat u h1]; omega)
    · rw [dec_step (by omega), allDig_append, dec_dig k (u / 10) (by omega)]
      have h2 : u % 10 < 10 := Nat.mod_lt _ (by omega)
      simp only [allDig, Bool.and_true, Bool.true_and]
      exact isDig_yes (by rw [digit_nat _ h2]; omega) (by rw [digit_nat _ h2]; omega)
/-- The first digit of a number that is not 0 is not '0'. -/
theorem dec_head : ∀ (k u : Nat), u < k → 1 ≤ u → ∃ c r, Lib.decDigits u = c :: r ∧ 49 ≤ c.toNat
  | 0, u, h, _ => by omega
  | k + 1, u, h, h0 => by
    by_cases h1 : u < 10
    · exact ⟨_, [], dec_small h1, by rw [digit_nat u h1]; omega⟩
    · obtain ⟨c, r, e, hc⟩ := dec_head k (u / 10) (by omega) (by omega)
      exact ⟨c, r ++ [UInt8.ofNat (48 + u % 10)], by rw [dec_step (by omega), e]; rfl, hc⟩
theorem dec_zero : Lib.decDigits 0 = [48] := by rw [dec_small (by omega)]; rfl
theorem dec_not_zero {u : Nat} (h : 1 ≤ u) : Lib.decDigits u ≠ [48] := by
  obtain ⟨c, r, e, hc⟩ := dec_head (u + 1) u (by omega) h
  intro e2
  rw [e] at e2
  simp only [List.cons.injEq] at e2
  obtain ⟨rfl, _⟩ := e2
  simp at hc
theorem dec_plain (u : Nat) : plainB (Lib.decDigits u) = true := by
  by_cases h : 1 ≤ u
  · obtain ⟨c, r, e, hc⟩ := dec_head (u + 1) u (by omega) h
    have hd := dec_dig (u + 1) u (by omega)
    rw [e] at hd ⊢
    rw [plainB_rest (c := c) (by simp) rfl (.inr (by omega))]
    exact hd
  · obtain rfl : u = 0 := by omega
    rw [dec_zero]; rfl
theorem dec_val : ∀ (k u : Nat), u < k → u ≤ 4611686018427387904 → valUp 0 (Lib.decDigits u) = some (u : Int)
  | 0, u, h, _ => by omega
  | k + 1, u, h, hm => by
    by_cases h1 : u < 10
    · rw [dec_small h1, valUp, digit_nat u h1, if_neg (by omega), valUp]
      congr 1
      omega
    · have h2 : u % 10 < 10 := Nat.mod_lt _ (by omega)
      rw [dec_step (by omega), valUp_append, dec_val k (u / 10) (by omega) (by omega)]
      simp only [Option.bind_some]
      rw [valUp, digit_nat _ h2, if_neg (by omega), valUp]
      congr 1
      omega
/-- What is read behind a number that is not 0 is that number's further digits. -/
theorem val_dec : ∀ (l : List UInt8) (n : Nat) (m : Int), 1 ≤ n → allDig l = true → valUp (n : Int) l = some m → Lib.decDigits m.toNat = Lib.decDigits n ++ l
  | [], n, m, _, _, h => by
    simp only [valUp, Option.some.injEq] at h
    subst h
    simp
  | c :: r, n, m, h0, ha, h => by
    rw [allDig, Bool.and_eq_true] at ha
    have hc := isDig_iff.1 ha.1
    rw [valUp] at h
    split at h
    · cases h
    · have e : (n : Int) * 10 + ((c.toNat : Int) - 48) = ((n * 10 + (c.toNat - 48) : Nat) : Int) := by omega
      rw [e] at h
      rw [val_dec r _ m (by omega) ha.2 h, dec_step (by omega)]
      have e1 : (n * 10 + (c.toNat - 48)) / 10 = n := by omega
      have e2 : (n * 10 + (c.toNat - 48)) % 10 = c.toNat - 48 := by omega
      rw [e1, e2, digit_back hc.1]
      simp
theorem plain_dec {l : List UInt8} {m : Int} (hp : plainB l = true) (h : valUp 0 l = some m) : Lib.decDigits m.toNat = l := by
  have ha := plainB_dig hp
  cases l with
  | nil => simp [plainB] at hp
  | cons c r =>
    have ha2 := ha
    rw [allDig, Bool.and_eq_true] at ha2
    have hc := isDig_iff.1 ha2.1
    rw [valUp, if_neg (by omega)] at h
    by_cases h48 : c.toNat = 48
    · cases r with
      | nil =>
        simp only [valUp, Option.some.injEq] at h
        have : c = 48 := UInt8.toNat_inj.1 h48
        subst this
        subst h
        exact dec_zero
      | cons x r =>
        rw [plainB_zero (c := c) (by simp) rfl h48] at hp
        cases hp
    · have e : (0 : Int) * 10 + ((c.toNat : Int) - 48) = ((c.toNat - 48 : Nat) : Int) := by omega
      rw [e] at h
      rw [val_dec r _ m (by omega) ha2.2 h, dec_small (by omega), digit_back hc.1]
      rfl

theorem numP_back {n : Int} (h0 : -4611686018427387904 ≤ n) (h1 : n ≤ 4611686018427387904) : numP (Lib.itoa n) = (n, 0) := by
  by_cases h : n < 0
  · rw [Lib.itoa, if_pos h, numP_neg (c := 45) rfl rfl]
    show numQ true (Lib.decDigits n.natAbs) = _
    rw [numQ_yes (dec_plain _) (.inr (dec_not_zero (by omega))) (dec_val (n.natAbs + 1) n.natAbs (by omega) (by omega))]
    simp only [if_true]
    congr 1
    omega
  · rw [Lib.itoa, if_neg h, numP_pos (fun c hc => by
      have := allDig_at (dec_dig (n.toNat + 1) n.toNat (by omega)) 0 c hc
      omega)]
    show numQ false (Lib.decDigits n.toNat) = _
    rw [numQ_yes (dec_plain _) (.inl rfl) (dec_val (n.toNat + 1) n.toNat (by omega) (by omega))]
    simp only [Bool.false_eq_true, if_false]
    congr 1
    omega
theorem numQ_cases (neg : Bool) (sz : List UInt8) : (∃ f, numQ neg sz = (0, f) ∧ f ≠ 0) ∨ (∃ n, plainB sz = true ∧ (neg = false ∨ sz ≠ [48]) ∧ valUp 0 sz = some n ∧ numQ neg sz = (if neg then -n else n, 0)) := by
  cases hp : plainB sz with
  | false => exact .inl ⟨7, numQ_no hp, by omega⟩
  | true =>
    by_cases hz : neg = true ∧ sz = [48]
    · obtain ⟨rfl, hz⟩ := hz
      exact .inl ⟨7, numQ_zero hz, by omega⟩
    · have hk : neg = false ∨ sz ≠ [48] := by
        cases neg
        · exact .inl rfl
        · exact .inr fun e => hz ⟨rfl, e⟩
      cases hv : valUp 0 sz with
      | none => exact .inl ⟨11, numQ_far hp hk hv, by omega⟩
      | some n => exact .inr ⟨n, rfl, hk, rfl, numQ_yes hp hk hv⟩
theorem numQ_ok {sz : List UInt8} {neg : Bool} {n : Int} (hp : plainB sz = true) (hk : neg = false ∨ sz ≠ [48]) (hv : valUp 0 sz = some n) : Lib.itoa (if neg then -n else n) = if neg then 45 :: sz else sz := by
  have hd := plain_dec hp hv
  have hr := valUp_range (by omega) (by omega) (plainB_dig hp) hv
  cases neg with
  | false =>
    simp only [Bool.false_eq_true, if_false]
    rw [Lib.itoa, if_neg (by omega)]
    exact hd
  | true =>
    simp only [if_true]
    have hz : sz ≠ [48] := by
      rcases hk with hk | hk
      · cases hk
      · exact hk
    have hn : n ≠ 0 := by
      intro e
      subst e
      exact hz (hd.symm.trans dec_zero)
    rw [Lib.itoa, if_pos (by omega), show (-n).natAbs = n.toNat from by omega, hd]
/-- What is read as a number is its digits; of what isn't, 0 is told. -/
theorem numP_cases (l : List UInt8) : (∃ f, numP l = (0, f) ∧ f ≠ 0) ∨ (∃ k, numP l = (k, 0) ∧ Lib.itoa k = l ∧ -4611686018427387904 ≤ k ∧ k ≤ 4611686018427387904) := by
  cases hl : l with
  | nil => exact .inl ⟨7, rfl, by omega⟩
  | cons c r =>
    by_cases h45 : c.toNat = 45
    · rw [numP_neg (c := c) rfl h45]
      have : c = 45 := UInt8.toNat_inj.1 h45
      subst this
      show _ ∨ _
      rcases numQ_cases true r with h | ⟨n, hp, hk, hv, e⟩
      · exact .inl h
      · have hr := valUp_range (by omega) (by omega) (plainB_dig hp) hv
        refine .inr ⟨-n, e, ?_, by omega, by omega⟩
        have := numQ_ok hp hk hv
        simpa using this
    · rw [numP_pos (l := c :: r) (fun x hx => by simp at hx; subst hx; exact h45)]
      show _ ∨ _
      rcases numQ_cases false (c :: r) with h | ⟨n, hp, hk, hv, e⟩
      · exact .inl h
      · have hr := valUp_range (by omega) (by omega) (plainB_dig hp) hv
        refine .inr ⟨n, e, ?_, by omega, by omega⟩
        have := numQ_ok hp hk hv
        simpa using this
end NumP
end Go.Proofs.YtcdinaoenhonbaaDoor
