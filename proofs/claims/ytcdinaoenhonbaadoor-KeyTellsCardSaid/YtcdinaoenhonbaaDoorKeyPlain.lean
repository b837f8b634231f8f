/-
  Plain facts of key: fit keys, their texts, what is read of them, their order; numbers and octets alone, nothing of the program.
-/
import Derived.Test.YtcdinaoenhonbaaDoorStepPlain
set_option linter.unusedVariables false
namespace Go.Proofs.YtcdinaoenhonbaaDoor
open NumP
namespace KeyP
open StP (parts cutAt)

/-- A key. -/
structure Ky where
  saga : Int
  step : Int
  back : Bool
def ky0 : Ky := ⟨0, 0, false⟩
def fitK (k : Ky) : Bool := decide (1 ≤ k.saga) && (decide (k.saga ≤ 1099511627776) && (decide (0 ≤ k.step) && decide (k.step < 6)))
structure FitK (k : Ky) : Prop where
  saga0 : 1 ≤ k.saga
  saga1 : k.saga ≤ 1099511627776
  step0 : 0 ≤ k.step
  step1 : k.step < 6
theorem fitK_iff {k : Ky} : fitK k = true ↔ FitK k := by
  unfold fitK
  simp only [Bool.and_eq_true, decide_eq_true_eq]
  exact ⟨fun ⟨a, b, c, d⟩ => ⟨a, b, c, d⟩, fun ⟨a, b, c, d⟩ => ⟨a, b, c, d⟩⟩
def tailK (k : Ky) : List UInt8 := if k.back then [45] else []
def coreK (k : Ky) : List UInt8 := Lib.itoa k.saga ++ 46 :: Lib.itoa k.step
def textK (k : Ky) : List UInt8 := if fitK k = true then coreK k ++ tailK k else []
theorem text_no {k : Ky} (h : fitK k = false) : textK k = [] := by unfold textK; rw [h]; rfl
theorem text_yes {k : Ky} (h : fitK k = true) : textK k = coreK k ++ tailK k := by unfold textK; rw [if_pos h]
theorem core_ne (k : Ky) : coreK k ≠ [] := by unfold coreK; simp
theorem text_ne {k : Ky} (h : fitK k = true) : textK k ≠ [] := by rw [text_yes h]; unfold coreK; simp
/-! ### digits -/
theorem itoa_nat {n : Int} (h : 0 ≤ n) : Lib.itoa n = Lib.decDigits n.toNat := by unfold Lib.itoa; rw [if_neg (by omega)]
theorem itoa_dig {n : Int} (h : 0 ≤ n) : allDig (Lib.itoa n) = true := by rw [itoa_nat h]; exact dec_dig (n.toNat + 1) n.toNat (by omega)
theorem itoa_not {n : Int} (h : 0 ≤ n) (c : UInt8) (hc : c.toNat < 48 ∨ 57 < c.toNat) : c ∉ Lib.itoa n := StP.not_dig (itoa_dig h) hc
theorem itoa_ne {n : Int} (h : 0 ≤ n) : Lib.itoa n ≠ [] := by
  intro e
  have hd := itoa_nat h
  rw [e] at hd
  by_cases h0 : n.toNat = 0
  · rw [h0, dec_zero] at hd; cases hd
  · obtain ⟨c, r, hc, _⟩ := dec_head (n.toNat + 1) n.toNat (by omega) (by omega)
    rw [hc] at hd; cases hd
theorem core_parts {k : Ky} (h : FitK k) : parts 46 (coreK k) = [Lib.itoa k.saga, Lib.itoa k.step] := by
  unfold coreK
  rw [StP.parts_more (StP.cut_mk _ _ (itoa_not (by have := h.saga0; omega) 46 (.inl (by decide)))), StP.parts_one (StP.cut_none (itoa_not h.step0 46 (.inl (by decide))))]
/-! ### the last octet -/
def stripK (s : List UInt8) : Bool × List UInt8 := if s.getLast? = some 45 then (true, s.dropLast) else (false, s)
theorem strip_minus (l : List UInt8) : stripK (l ++ [45]) = (true, l) := by unfold stripK; simp
theorem strip_plain {l : List UInt8} (h : (45 : UInt8) ∉ l) : stripK l = (false, l) := by
  unfold stripK
  rw [if_neg fun e => h (List.mem_of_getLast? e)]
theorem core_no {k : Ky} (h : FitK k) : (45 : UInt8) ∉ coreK k := by
  unfold coreK
  intro hm
  rcases List.mem_append.1 hm with hm | hm
  · exact itoa_not (by have := h.saga0; omega) 45 (.inl (by decide)) hm
  · rcases List.mem_cons.1 hm with hm | hm
    · cases hm
    · exact itoa_not h.step0 45 (.inl (by decide)) hm
theorem strip_text {k : Ky} (h : fitK k = true) : stripK (textK k) = (k.back, coreK k) := by
  rw [text_yes h]
  unfold tailK
  cases hb : k.back with
  | true => simp only [if_true]; exact strip_minus _
  | false => simp only [Bool.false_eq_true, if_false, List.append_nil]; exact strip_plain (core_no (fitK_iff.1 h))
/-! ### what is read -/
/-- The document's way: what is told must be written so. -/
def readK (s : List UInt8) : Option Ky := match parts 46 (stripK s).2 with
  | [a, b] => if textK ⟨(numP a).1, (numP b).1, (stripK s).1⟩ = s then some ⟨(numP a).1, (numP b).1, (stripK s).1⟩ else none
  | _ => none
theorem readK_nil : readK [] = none := rfl
theorem read_some {s : List UInt8} {k : Ky} (h : readK s = some k) : fitK k = true ∧ textK k = s := by
  have hs : s ≠ [] := fun e => by rw [e, readK_nil] at h; cases h
  unfold readK at h
  split at h
  case h_1 a b hp =>
    split at h
    case isTrue ht =>
      cases h
      refine ⟨?_, ht⟩
      cases hf : fitK ⟨(numP a).1, (numP b).1, (stripK s).1⟩ with
      | true => rfl
      | false => rw [text_no hf] at ht; exact absurd ht.symm hs
    case isFalse => cases h
  case h_2 => cases h
theorem read_back {k : Ky} (h : fitK k = true) : readK (textK k) = some k := by
  have f := fitK_iff.1 h
  have h0 := f.saga0; have h1 := f.saga1; have h2 := f.step0; have h3 := f.step1
  unfold readK
  rw [strip_text h]
  simp only
  rw [core_parts f]
  simp only
  rw [numP_back (by omega) (by omega), numP_back (by omega) (by omega)]
  simp only
  rw [if_pos trivial]
theorem text_inj {x y : Ky} (hx : fitK x = true) (hy : fitK y = true) (e : textK x = textK y) : x = y := by
  have a := read_back hx
  rw [e, read_back hy] at a
  exact (Option.some.inj a).symm
/-- Whatever answers the fit key whose text it is, or none, answers this. -/
theorem read_unique {s : List UInt8} {r : Option Ky} (h1 : ∀ k, r = some k → fitK k = true ∧ textK k = s) (h2 : r = none → ∀ k, fitK k = true → textK k ≠ s) : r = readK s := by
  cases r with
  | none =>
    cases hr : readK s with
    | none => rfl
    | some k => exact absurd (read_some hr).2 (h2 rfl k (read_some hr).1)
  | some k =>
    obtain ⟨a, b⟩ := h1 k rfl
    rw [← b, read_back a]
theorem read_none {s : List UInt8} (h : readK s = none) : ∀ k, fitK k = true → textK k ≠ s := fun k hk e => by
  rw [← e, read_back hk] at h; cases h
def gotK (o : Option Ky) : Ky := o.getD ky0
def errK (o : Option Ky) : Int := if o.isSome then 0 else 7
/-! ### the order -/
def belowK (a b : Ky) : Bool := if a.saga ≠ b.saga then decide (a.saga < b.saga) else if a.step ≠ b.step then decide (a.step < b.step) else (!a.back && b.back)
def eqK (a b : Ky) : Bool := a.saga == b.saga && (a.step == b.step && a.back == b.back)
theorem eqK_iff {a b : Ky} : eqK a b = true ↔ a = b := by
  obtain ⟨a0, a1, a2⟩ := a
  obtain ⟨b0, b1, b2⟩ := b
  unfold eqK
  simp only [Bool.and_eq_true, beq_iff_eq, Ky.mk.injEq]
theorem below_iff {a b : Ky} : belowK a b = true ↔ a.saga < b.saga ∨ (a.saga = b.saga ∧ (a.step < b.step ∨ (a.step = b.step ∧ a.back = false ∧ b.back = true))) := by
  unfold belowK
  by_cases h1 : a.saga = b.saga
  · by_cases h2 : a.step = b.step
    · rw [if_neg (by simp [h1]), if_neg (by simp [h2])]
      cases a.back <;> cases b.back <;> simp [h1, h2]
    · rw [if_neg (by simp [h1]), if_pos h2, decide_eq_true_eq]
      constructor
      · intro h; exact .inr ⟨h1, .inl h⟩
      · rintro (h | ⟨_, h | ⟨h, _⟩⟩)
        · omega
        · exact h
        · exact absurd h h2
  · rw [if_pos h1, decide_eq_true_eq]
    constructor
    · intro h; exact .inl h
    · rintro (h | ⟨h, _⟩)
      · exact h
      · exact absurd h h1
/-- Of any two keys one comes ahead, or they are one. -/
theorem below_one (a b : Ky) : (belowK a b = true ∧ belowK b a = false ∧ eqK a b = false) ∨ (belowK a b = false ∧ belowK b a = true ∧ eqK a b = false) ∨ (belowK a b = false ∧ belowK b a = false ∧ eqK a b = true) := by
  have f : ∀ {x : Bool}, x ≠ true → x = false := fun {x} h => by cases x <;> simp_all
  have e : ∀ {x y : Ky}, belowK x y = true → eqK x y = false := fun {x y} h => f fun he => by
    rw [eqK_iff] at he; subst he
    rcases below_iff.1 h with h | ⟨_, h | ⟨_, h, h2⟩⟩
    · omega
    · omega
    · rw [h] at h2; cases h2
  have s : ∀ {x y : Ky}, belowK x y = true → belowK y x = false := fun {x y} h => f fun h' => by
    rcases below_iff.1 h with h | ⟨h0, h | ⟨h1, h, h2⟩⟩ <;> rcases below_iff.1 h' with g | ⟨g0, g | ⟨g1, g, g2⟩⟩ <;> first | omega | (rw [h] at g2; cases g2)
  have eqs : ∀ {x y : Ky}, eqK x y = eqK y x := fun {x y} => by
    unfold eqK; rw [Bool.beq_comm (a := x.saga), Bool.beq_comm (a := x.step), Bool.beq_comm (a := x.back)]
  cases h1 : belowK a b with
  | true => exact .inl ⟨rfl, s h1, e h1⟩
  | false =>
    cases h2 : belowK b a with
    | true => exact .inr (.inl ⟨rfl, rfl, by rw [eqs]; exact e h2⟩)
    | false =>
      refine .inr (.inr ⟨rfl, rfl, eqK_iff.2 ?_⟩)
      have n1 : ¬ belowK a b = true := by rw [h1]; simp
      have n2 : ¬ belowK b a = true := by rw [h2]; simp
      rw [below_iff] at n1 n2
      have q0 : a.saga = b.saga := by omega
      have q1 : a.step = b.step := by omega
      have q2 : a.back = b.back := by
        cases ha : a.back <;> cases hb : b.back
        · rfl
        · exact absurd (.inr ⟨q0, .inr ⟨q1, ha, hb⟩⟩) n1
        · exact absurd (.inr ⟨q0.symm, .inr ⟨q1.symm, hb, ha⟩⟩) n2
        · rfl
      obtain ⟨a0, a1, a2⟩ := a
      obtain ⟨b0, b1, b2⟩ := b
      simp only at q0 q1 q2
      subst q0 q1 q2
      rfl
theorem below_trans {a b c : Ky} (h : belowK a b = true) (g : belowK b c = true) : belowK a c = true := by
  rw [below_iff] at h g ⊢
  rcases h with h | ⟨h0, h | ⟨h1, h2, h3⟩⟩ <;> rcases g with g | ⟨g0, g | ⟨g1, g2, g3⟩⟩
  · left; omega
  · left; omega
  · left; omega
  · left; omega
  · right; exact ⟨by omega, .inl (by omega)⟩
  · right; exact ⟨by omega, .inl (by omega)⟩
  · left; omega
  · right; exact ⟨by omega, .inl (by omega)⟩
  · rw [h3] at g2; cases g2
theorem e0 : Lib.itoa 0 = [48] := StP.num_some (p := [48]) rfl
theorem e1 : Lib.itoa 1 = [49] := StP.num_some (p := [49]) rfl
theorem e3 : Lib.itoa 3 = [51] := StP.num_some (p := [51]) rfl
theorem ex_text : textK ⟨3, 1, true⟩ = [51, 46, 49, 45] := by
  rw [text_yes (by decide)]
  unfold coreK tailK
  simp only
  rw [e3, e1]
  rfl
theorem ex_read : readK [51, 46, 49, 45] = some ⟨3, 1, true⟩ := by rw [← ex_text]; exact read_back (by decide)
theorem ex_none : readK [51, 46, 48, 54] = none := by
  unfold readK
  rw [show parts 46 (stripK [51, 46, 48, 54]).2 = [[51], [48, 54]] from rfl]
  simp only
  rw [if_neg]
  rw [show (⟨(numP [51]).1, (numP [48, 54]).1, (stripK [51, 46, 48, 54]).1⟩ : Ky) = ⟨3, 0, false⟩ from rfl, text_yes (by decide)]
  unfold coreK tailK
  simp only
  rw [e3, e0]
  decide
end KeyP
end Go.Proofs.YtcdinaoenhonbaaDoor
