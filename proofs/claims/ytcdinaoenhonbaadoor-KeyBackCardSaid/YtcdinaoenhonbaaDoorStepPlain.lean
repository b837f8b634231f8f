/-
  Plain facts of step: fit steps, their texts, a text's parts, what is read of them; lists, numbers and octets alone, nothing of the program.
-/
import Derived.Test.YtcdinaoenhonbaaDoorChecked
import Derived.Test.YtcdinaoenhonbaaDoorNumBackP
import Derived.Test.YtcdinaoenhonbaaDoorBackPlain
import Derived.Lib.SplitLaws
import Derived.Lib.ItoaLen
import Derived.Lib.Join
set_option linter.unusedVariables false
set_option maxRecDepth 4000
namespace Go.Proofs.YtcdinaoenhonbaaDoor
open NumP
namespace StP

/-- A step. -/
structure St where
  op : Int
  cls : Int
  tries : Int
  base : Int
  cap : Int
  wait : Int
def st0 : St := ⟨0, 0, 0, 0, 0, 0⟩
def suitS (x : St) : Bool := if x.cls = 3 ∧ x.wait ≠ 0 then false else if x.op = 1 ∨ x.op = 3 then decide (x.cls = 1) else if x.op = 5 then !decide (x.cls = 1) else true
def fitS (x : St) : Bool := decide (1 ≤ x.op) && (decide (x.op ≤ 6) && (decide (1 ≤ x.cls) && (decide (x.cls ≤ 3) && (BackP.fitV x.tries x.base x.cap && (decide (0 ≤ x.wait) && (decide (x.wait ≤ 100) && suitS x))))))
structure FitS (x : St) : Prop where
  op0 : 1 ≤ x.op
  op1 : x.op ≤ 6
  cls0 : 1 ≤ x.cls
  cls1 : x.cls ≤ 3
  tries0 : 0 ≤ x.tries
  tries1 : x.tries ≤ 5
  base0 : 1 ≤ x.base
  base1 : x.base ≤ 32
  cap0 : 1 ≤ x.cap
  cap1 : x.cap ≤ 32
  wait0 : 0 ≤ x.wait
  wait1 : x.wait ≤ 100
theorem fitS_of {x : St} (h : fitS x = true) : FitS x := by
  unfold fitS at h
  simp only [Bool.and_eq_true, decide_eq_true_eq] at h
  obtain ⟨a, b, c, d, e, f, g, _⟩ := h
  obtain ⟨t0, t1, t2, t3, t4, t5⟩ := BackP.fitV_iff.1 e
  exact ⟨a, b, c, d, t0, t1, t4, by omega, t2, t3, f, g⟩
def eqS (x y : St) : Bool := x.op == y.op && (x.cls == y.cls && (x.tries == y.tries && (x.base == y.base && (x.cap == y.cap && x.wait == y.wait))))
theorem eqS_refl (x : St) : eqS x x = true := by unfold eqS; simp
/-! ### words and texts -/
def opL (n : Int) : List UInt8 := if n = 1 then [104, 111, 108, 100] else if n = 2 then [97, 117, 116, 104] else if n = 3 then [107, 101, 101, 112] else if n = 4 then [98, 111, 111, 107] else if n = 5 then [115, 101, 110, 100] else [116, 97, 107, 101]
def clL (n : Int) : List UInt8 := if n = 1 then [115, 111, 102, 116] else if n = 2 then [112, 105, 118, 111, 116] else [102, 105, 114, 109]
def partsS (x : St) : List (List UInt8) := [opL x.op, clL x.cls, Lib.itoa x.tries, Lib.itoa x.base, Lib.itoa x.cap, Lib.itoa x.wait]
def textS (x : St) : List UInt8 := if fitS x = true then Lib.join (partsS x) [47] else []
/-- The first place of a text among some, -1 if there is none. -/
def ixUp (p : List UInt8) : Nat → List (List UInt8) → Int
  | _, [] => -1
  | k, x :: r => if p = x then (k : Int) else ixUp p (k + 1) r
def opsL : List (List UInt8) := [[], [104, 111, 108, 100], [97, 117, 116, 104], [107, 101, 101, 112], [98, 111, 111, 107], [115, 101, 110, 100], [116, 97, 107, 101]]
def clsL : List (List UInt8) := [[], [115, 111, 102, 116], [112, 105, 118, 111, 116], [102, 105, 114, 109]]
theorem ix_op {p : List UInt8} {o : Int} (h : ixUp p 0 opsL = o) (h1 : 1 ≤ o) : p = opL o := by
  subst h
  unfold opsL at h1 ⊢
  simp only [ixUp] at h1 ⊢
  by_cases e0 : p = []
  · rw [if_pos e0] at h1; exact absurd h1 (by decide)
  rw [if_neg e0] at h1 ⊢
  by_cases e1 : p = [104, 111, 108, 100]
  · rw [if_pos e1]; exact e1
  rw [if_neg e1] at h1 ⊢
  by_cases e2 : p = [97, 117, 116, 104]
  · rw [if_pos e2]; exact e2
  rw [if_neg e2] at h1 ⊢
  by_cases e3 : p = [107, 101, 101, 112]
  · rw [if_pos e3]; exact e3
  rw [if_neg e3] at h1 ⊢
  by_cases e4 : p = [98, 111, 111, 107]
  · rw [if_pos e4]; exact e4
  rw [if_neg e4] at h1 ⊢
  by_cases e5 : p = [115, 101, 110, 100]
  · rw [if_pos e5]; exact e5
  rw [if_neg e5] at h1 ⊢
  by_cases e6 : p = [116, 97, 107, 101]
  · rw [if_pos e6]; exact e6
  rw [if_neg e6] at h1
  exact absurd h1 (by decide)
theorem ix_cl {p : List UInt8} {o : Int} (h : ixUp p 0 clsL = o) (h1 : 1 ≤ o) : p = clL o := by
  subst h
  unfold clsL at h1 ⊢
  simp only [ixUp] at h1 ⊢
  by_cases e0 : p = []
  · rw [if_pos e0] at h1; exact absurd h1 (by decide)
  rw [if_neg e0] at h1 ⊢
  by_cases e1 : p = [115, 111, 102, 116]
  · rw [if_pos e1]; exact e1
  rw [if_neg e1] at h1 ⊢
  by_cases e2 : p = [112, 105, 118, 111, 116]
  · rw [if_pos e2]; exact e2
  rw [if_neg e2] at h1 ⊢
  by_cases e3 : p = [102, 105, 114, 109]
  · rw [if_pos e3]; exact e3
  rw [if_neg e3] at h1
  exact absurd h1 (by decide)
theorem op_cases {n : Int} (h0 : 1 ≤ n) (h1 : n ≤ 6) : n = 1 ∨ n = 2 ∨ n = 3 ∨ n = 4 ∨ n = 5 ∨ n = 6 := by omega
theorem cl_cases {n : Int} (h0 : 1 ≤ n) (h1 : n ≤ 3) : n = 1 ∨ n = 2 ∨ n = 3 := by omega
theorem ix_opL {n : Int} (h0 : 1 ≤ n) (h1 : n ≤ 6) : ixUp (opL n) 0 opsL = n := by
  rcases op_cases h0 h1 with rfl | rfl | rfl | rfl | rfl | rfl <;> decide
theorem ix_clL {n : Int} (h0 : 1 ≤ n) (h1 : n ≤ 3) : ixUp (clL n) 0 clsL = n := by
  rcases cl_cases h0 h1 with rfl | rfl | rfl <;> decide
theorem opL_no (n : Int) : (47 : UInt8) ∉ opL n := by
  unfold opL
  split
  · decide
  split
  · decide
  split
  · decide
  split
  · decide
  split <;> decide
theorem clL_no (n : Int) : (47 : UInt8) ∉ clL n := by
  unfold clL
  split
  · decide
  split <;> decide
theorem opL_len (n : Int) : (opL n).length = 4 := by
  unfold opL
  split
  · rfl
  split
  · rfl
  split
  · rfl
  split
  · rfl
  split <;> rfl
theorem clL_len (n : Int) : (clL n).length ≤ 5 := by
  unfold clL
  split
  · decide
  split <;> decide
/-- The last of the first numbers whose word a text is, 0 if there is none. -/
def upO (L : Int → List UInt8) (p : List UInt8) : Nat → Int
  | 0 => 0
  | n + 1 => if p = L ((n : Int) + 1) then (n : Int) + 1 else upO L p n
theorem up_op {n : Int} (h0 : 1 ≤ n) (h1 : n ≤ 6) : upO opL (opL n) 6 = n := by
  rcases op_cases h0 h1 with rfl | rfl | rfl | rfl | rfl | rfl <;> decide
theorem up_cl {n : Int} (h0 : 1 ≤ n) (h1 : n ≤ 3) : upO clL (clL n) 3 = n := by
  rcases cl_cases h0 h1 with rfl | rfl | rfl <;> decide

/-! ### a text's parts -/
def cutAt (c : UInt8) : List UInt8 → Option (List UInt8 × List UInt8)
  | [] => none
  | b :: l => if b = c then some ([], l) else (cutAt c l).map fun p => (b :: p.1, p.2)
theorem cut_cases (c : UInt8) : ∀ l, (cutAt c l = none ∧ c ∉ l ∧ Lib.indexByte l c = -1) ∨ ∃ a b, cutAt c l = some (a, b) ∧ l = a ++ c :: b ∧ c ∉ a ∧ Lib.indexByte l c = a.length
  | [] => .inl ⟨rfl, by simp, rfl⟩
  | x :: l => by
    by_cases hx : x = c
    · subst hx
      exact .inr ⟨[], l, by simp [cutAt], rfl, by simp, by simp [Lib.indexByte]⟩
    · have hb : (x == c) = false := beq_eq_false_iff_ne.2 hx
      rcases cut_cases c l with ⟨h1, h2, h3⟩ | ⟨a, b, h1, h2, h3, h4⟩
      · exact .inl ⟨by simp [cutAt, hx, h1], by simp [h2]; exact fun e => hx e.symm, by simp [Lib.indexByte, hb, h3]⟩
      · refine .inr ⟨x :: a, b, by simp [cutAt, hx, h1], by rw [h2]; rfl, by simp [h3]; exact fun e => hx e.symm, ?_⟩
        rw [Lib.indexByte, hb, h4]
        have : (((a.length : Nat) : Int) == -1) = false := by rw [beq_eq_false_iff_ne]; omega
        simp [this]
theorem cut_none {c : UInt8} {l : List UInt8} (h : c ∉ l) : cutAt c l = none := by
  rcases cut_cases c l with ⟨h1, _⟩ | ⟨a, b, _, h2, _⟩
  · exact h1
  · exact absurd (by rw [h2]; simp) h
theorem cut_mk {c : UInt8} (a b : List UInt8) (h : c ∉ a) : cutAt c (a ++ c :: b) = some (a, b) := by
  induction a with
  | nil => simp [cutAt]
  | cons x a ih =>
    have h1 : x ≠ c := fun e => h (by simp [e])
    have h2 : c ∉ a := fun e => h (by simp [e])
    rw [List.cons_append, cutAt, if_neg h1, ih h2]; rfl
theorem cut_some {c : UInt8} {l a b : List UInt8} (h : cutAt c l = some (a, b)) : l = a ++ c :: b ∧ c ∉ a := by
  rcases cut_cases c l with ⟨h1, _⟩ | ⟨a', b', h1, h2, h3, _⟩
  · rw [h] at h1; cases h1
  · rw [h] at h1; cases h1; exact ⟨h2, h3⟩
theorem cut_not {c : UInt8} {l : List UInt8} (h : cutAt c l = none) : c ∉ l := by
  rcases cut_cases c l with ⟨_, h2, _⟩ | ⟨a, b, h1, _⟩
  · exact h2
  · rw [h] at h1; cases h1
theorem cut_lib (c : UInt8) (l : List UInt8) : Lib.cut l [c] = match cutAt c l with | none => (l, [], false) | some (a, b) => (a, b, true) := by
  unfold Lib.cut
  rw [Lib.index_one]
  rcases cut_cases c l with ⟨h1, _, h3⟩ | ⟨a, b, h1, h2, _, h4⟩
  · rw [h1, h3]; simp
  · rw [h1, h4, if_pos (by omega), Int.toNat_natCast, h2]
    simp
def partsF (c : UInt8) : Nat → List UInt8 → List (List UInt8)
  | 0, l => [l]
  | k + 1, l => match cutAt c l with
    | none => [l]
    | some (a, b) => a :: partsF c k b
theorem partsF_fuel (c : UInt8) : ∀ (n m : Nat) (l : List UInt8), l.length ≤ n → l.length ≤ m → partsF c n l = partsF c m l := by
  intro n
  induction n with
  | zero =>
    intro m l h _
    have : l = [] := List.eq_nil_of_length_eq_zero (by omega)
    subst this
    cases m <;> rfl
  | succ n ih =>
    intro m l h1 h2
    cases m with
    | zero =>
      have : l = [] := List.eq_nil_of_length_eq_zero (by omega)
      subst this; rfl
    | succ m =>
      unfold partsF
      cases hc : cutAt c l with
      | none => rfl
      | some p =>
        obtain ⟨a, b⟩ := p
        have hl := congrArg List.length (cut_some hc).1
        simp only [List.length_append, List.length_cons] at hl
        show a :: _ = a :: _
        rw [ih m b (by omega) (by omega)]
def parts (c : UInt8) (l : List UInt8) : List (List UInt8) := partsF c l.length l
theorem parts_one {c : UInt8} {l : List UInt8} (h : cutAt c l = none) : parts c l = [l] := by
  unfold parts
  cases hl : l.length with
  | zero => rfl
  | succ n => rw [partsF, h]
theorem parts_more {c : UInt8} {l a b : List UInt8} (h : cutAt c l = some (a, b)) : parts c l = a :: parts c b := by
  have hl := congrArg List.length (cut_some h).1
  simp only [List.length_append, List.length_cons] at hl
  unfold parts
  obtain ⟨n, hn⟩ : ∃ n, l.length = n + 1 := ⟨l.length - 1, by omega⟩
  rw [hn, partsF, h]
  show a :: _ = a :: _
  rw [partsF_fuel c n b.length b (by omega) (Nat.le_refl _)]
theorem parts_ne (c : UInt8) (l : List UInt8) : parts c l ≠ [] := by
  cases h : cutAt c l with
  | none => rw [parts_one h]; simp
  | some p => rw [parts_more (a := p.1) (b := p.2) h]; simp
theorem partsF_or (c : UInt8) : ∀ (k : Nat) (l : List UInt8), partsF c k l = parts c l ∨ ((partsF c k l).length = k + 1 ∧ k + 1 ≤ (parts c l).length)
  | 0, l => .inr ⟨rfl, by have := parts_ne c l; have := List.length_pos_iff.2 this; omega⟩
  | k + 1, l => by
    cases h : cutAt c l with
    | none => left; rw [partsF, h, parts_one h]
    | some p =>
      obtain ⟨a, b⟩ := p
      rw [partsF, h, parts_more h]
      rcases partsF_or c k b with e | ⟨e1, e2⟩
      · left; show a :: _ = _; rw [e]
      · right; exact ⟨by show (a :: _).length = _; rw [List.length_cons, e1], by rw [List.length_cons]; omega⟩
theorem splitK_parts (c : UInt8) : ∀ (k : Nat) (l : List UInt8), Lib.splitK [c] 0 k l = partsF c k l
  | 0, _ => rfl
  | k + 1, l => by
    unfold Lib.splitK partsF
    rw [Lib.index_one]
    rcases cut_cases c l with ⟨h1, _, h3⟩ | ⟨a, b, h1, h2, _, h4⟩
    · rw [h1, h3]; rfl
    · have hne : ((a.length : Int) == -1) = false := by rw [beq_eq_false_iff_ne]; omega
      rw [h1, h4, hne]
      simp only [Bool.false_eq_true, if_false, Int.toNat_natCast]
      rw [splitK_parts c k, h2]
      simp
theorem join_cons2 (c : UInt8) (x y : List UInt8) (r : List (List UInt8)) : Lib.join (x :: y :: r) [c] = x ++ c :: Lib.join (y :: r) [c] := by
  rw [Lib.join_cons, Lib.join_cons]; simp [Lib.joinTail]
theorem join_parts (c : UInt8) : ∀ (n : Nat) (l : List UInt8), l.length ≤ n → Lib.join (parts c l) [c] = l
  | 0, l, h => by
    have : l = [] := List.eq_nil_of_length_eq_zero (by omega)
    subst this; exact Lib.join_one _ _
  | n + 1, l, h => by
    cases hc : cutAt c l with
    | none => rw [parts_one hc, Lib.join_one]
    | some p =>
      obtain ⟨a, b⟩ := p
      have hl := (cut_some hc).1
      have hlen := congrArg List.length hl
      simp only [List.length_append, List.length_cons] at hlen
      have ih := join_parts c n b (by omega)
      rw [parts_more hc]
      cases hp : parts c b with
      | nil => exact absurd hp (parts_ne c b)
      | cons y r => rw [join_cons2, ← hp, ih]; exact hl.symm
theorem parts_join (c : UInt8) : ∀ (xs : List (List UInt8)), xs ≠ [] → (∀ x ∈ xs, c ∉ x) → parts c (Lib.join xs [c]) = xs
  | [], h, _ => absurd rfl h
  | [x], _, h => by rw [Lib.join_one]; exact parts_one (cut_none (h x (by simp)))
  | x :: y :: r, _, h => by
    rw [join_cons2, parts_more (cut_mk _ _ (h x (by simp))), parts_join c (y :: r) (by simp) fun z hz => h z (List.mem_cons_of_mem _ hz)]

theorem not_dig {l : List UInt8} {c : UInt8} (h : allDig l = true) (hc : c.toNat < 48 ∨ 57 < c.toNat) : c ∉ l := by
  intro hm
  obtain ⟨k, hk, hkc⟩ := List.mem_iff_getElem.1 hm
  have := allDig_at h k c (by rw [List.getElem?_eq_getElem hk, hkc])
  omega
theorem not_itoa (n : Int) (c : UInt8) (hc : (c.toNat < 48 ∨ 57 < c.toNat)) (h45 : c ≠ 45) : c ∉ Lib.itoa n := by
  unfold Lib.itoa
  split
  · rw [List.mem_cons]
    rintro (h | h)
    · exact h45 h
    · exact not_dig (dec_dig _ _ (Nat.lt_succ_self _)) hc h
  · exact not_dig (dec_dig _ _ (Nat.lt_succ_self _)) hc

theorem partsF_len (c : UInt8) : ∀ (k : Nat) (l : List UInt8), (partsF c k l).length ≤ k + 1
  | 0, l => Nat.le_refl _
  | k + 1, l => by
    unfold partsF
    cases h : cutAt c l with
    | none => simp
    | some p => exact Nat.succ_le_succ (partsF_len c k p.2)
theorem partsF_small (c : UInt8) : ∀ (k : Nat) (l : List UInt8), ∀ p ∈ partsF c k l, p.length ≤ l.length
  | 0, l, p, h => by rw [partsF, List.mem_singleton] at h; subst h; exact Nat.le_refl _
  | k + 1, l, p, h => by
    unfold partsF at h
    cases hc : cutAt c l with
    | none => rw [hc] at h; rw [List.mem_singleton] at h; subst h; exact Nat.le_refl _
    | some q =>
      obtain ⟨a, b⟩ := q
      have hl := congrArg List.length (cut_some hc).1
      simp only [List.length_append, List.length_cons] at hl
      rw [hc] at h
      rcases List.mem_cons.1 h with e | e
      · subst e; omega
      · have := partsF_small c k b p e; omega

/-! ### what is read -/
def readQ : List (List UInt8) → Option St
  | [p0, p1, p2, p3, p4, p5] =>
    if (numP p2).2 = 0 ∧ (numP p3).2 = 0 ∧ (numP p4).2 = 0 ∧ (numP p5).2 = 0 then
      (if fitS ⟨ixUp p0 0 opsL, ixUp p1 0 clsL, (numP p2).1, (numP p3).1, (numP p4).1, (numP p5).1⟩ = true then some ⟨ixUp p0 0 opsL, ixUp p1 0 clsL, (numP p2).1, (numP p3).1, (numP p4).1, (numP p5).1⟩ else none)
    else none
  | _ => none
def readS (s : List UInt8) : Option St := readQ (parts 47 s)
def readD (s : List UInt8) : List (List UInt8) → Option St
  | [p0, p1, p2, p3, p4, p5] =>
    if fitS ⟨upO opL p0 6, upO clL p1 3, (numP p2).1, (numP p3).1, (numP p4).1, (numP p5).1⟩ = true ∧ textS ⟨upO opL p0 6, upO clL p1 3, (numP p2).1, (numP p3).1, (numP p4).1, (numP p5).1⟩ = s then
      some ⟨upO opL p0 6, upO clL p1 3, (numP p2).1, (numP p3).1, (numP p4).1, (numP p5).1⟩ else none
  | _ => none
theorem num_some {p : List UInt8} (h : (numP p).2 = 0) : Lib.itoa (numP p).1 = p := by
  rcases numP_cases p with ⟨f, e, hf⟩ | ⟨k, e, hk, _⟩
  · rw [e] at h; exact absurd h hf
  · rw [e]; exact hk
theorem readQ_long {ps : List (List UInt8)} (h : ps.length ≠ 6) : readQ ps = none := by
  unfold readQ
  split
  · exact absurd rfl h
  · rfl
theorem readD_long {s : List UInt8} {ps : List (List UInt8)} (h : ps.length ≠ 6) : readD s ps = none := by
  unfold readD
  split
  · exact absurd rfl h
  · rfl
theorem readQ_some {ps : List (List UInt8)} {x : St} (h : readQ ps = some x) : fitS x = true ∧ ps = partsS x := by
  unfold readQ at h
  split at h
  case h_2 => cases h
  case h_1 p0 p1 p2 p3 p4 p5 =>
    by_cases hn : (numP p2).2 = 0 ∧ (numP p3).2 = 0 ∧ (numP p4).2 = 0 ∧ (numP p5).2 = 0
    · rw [if_pos hn] at h
      split at h
      case isFalse => cases h
      case isTrue hf =>
        cases h
        refine ⟨hf, ?_⟩
        have hF := fitS_of hf
        unfold partsS
        simp only
        rw [num_some hn.1, num_some hn.2.1, num_some hn.2.2.1, num_some hn.2.2.2, ← ix_op rfl hF.op0, ← ix_cl rfl hF.cls0]
    · rw [if_neg hn] at h; cases h
theorem num_fit {n : Int} (h0 : 0 ≤ n) (h1 : n ≤ 100) : numP (Lib.itoa n) = (n, 0) := numP_back (by omega) (by omega)
theorem readQ_back {x : St} (h : fitS x = true) : readQ (partsS x) = some x := by
  have hF := fitS_of h
  obtain ⟨o, c, t, b, m, w⟩ := x
  have h0 := hF.op0; have h1 := hF.op1; have h2 := hF.cls0; have h3 := hF.cls1; have h4 := hF.tries0; have h5 := hF.tries1; have h6 := hF.base0; have h7 := hF.base1; have h8 := hF.cap0; have h9 := hF.cap1; have h10 := hF.wait0; have h11 := hF.wait1
  simp only at h0 h1 h2 h3 h4 h5 h6 h7 h8 h9 h10 h11
  unfold partsS readQ
  simp only
  rw [num_fit h4 (by omega), num_fit (n := b) (by omega) (by omega), num_fit (n := m) (by omega) (by omega), num_fit h10 h11, ix_opL h0 h1, ix_clL h2 h3]
  rw [if_pos ⟨rfl, rfl, rfl, rfl⟩, if_pos h]
theorem readD_back {x : St} (h : fitS x = true) : readD (textS x) (partsS x) = some x := by
  have hF := fitS_of h
  obtain ⟨o, c, t, b, m, w⟩ := x
  have h0 := hF.op0; have h1 := hF.op1; have h2 := hF.cls0; have h3 := hF.cls1; have h4 := hF.tries0; have h5 := hF.tries1; have h6 := hF.base0; have h7 := hF.base1; have h8 := hF.cap0; have h9 := hF.cap1; have h10 := hF.wait0; have h11 := hF.wait1
  simp only at h0 h1 h2 h3 h4 h5 h6 h7 h8 h9 h10 h11
  unfold partsS readD
  simp only
  rw [num_fit h4 (by omega), num_fit (n := b) (by omega) (by omega), num_fit (n := m) (by omega) (by omega), num_fit h10 h11, up_op h0 h1, up_cl h2 h3]
  rw [if_pos ⟨h, rfl⟩]
theorem partsS_no {x : St} : ∀ p ∈ partsS x, (47 : UInt8) ∉ p := by
  intro p hp
  unfold partsS at hp
  simp only [List.mem_cons, List.mem_nil_iff, or_false] at hp
  rcases hp with rfl | rfl | rfl | rfl | rfl | rfl
  · exact opL_no _
  · exact clL_no _
  · exact not_itoa _ 47 (by decide) (by decide)
  · exact not_itoa _ 47 (by decide) (by decide)
  · exact not_itoa _ 47 (by decide) (by decide)
  · exact not_itoa _ 47 (by decide) (by decide)
theorem text_parts {x : St} (h : fitS x = true) : parts 47 (textS x) = partsS x := by
  unfold textS
  rw [if_pos h]
  exact parts_join 47 _ (by unfold partsS; simp) partsS_no
theorem readS_some {s : List UInt8} {x : St} (h : readS s = some x) : fitS x = true ∧ textS x = s := by
  obtain ⟨hf, hp⟩ := readQ_some h
  refine ⟨hf, ?_⟩
  unfold textS
  rw [if_pos hf, ← hp]
  exact join_parts 47 _ s (Nat.le_refl _)
theorem readS_back {x : St} (h : fitS x = true) : readS (textS x) = some x := by
  unfold readS
  rw [text_parts h]
  exact readQ_back h
theorem readD_some {s : List UInt8} {ps : List (List UInt8)} {x : St} (h : readD s ps = some x) : fitS x = true ∧ textS x = s := by
  unfold readD at h
  split at h
  case h_2 => cases h
  case h_1 p0 p1 p2 p3 p4 p5 =>
    split at h
    case isFalse => cases h
    case isTrue hf => cases h; exact hf
theorem readD_eq (s : List UInt8) : readD s (parts 47 s) = readS s := by
  cases h : readS s with
  | some x =>
    obtain ⟨hf, ht⟩ := readS_some h
    have := readD_back hf
    rw [← text_parts hf, ht] at this
    exact this
  | none =>
    cases hd : readD s (parts 47 s) with
    | none => rfl
    | some x =>
      obtain ⟨hf, ht⟩ := readD_some hd
      have := readS_back hf
      rw [ht, h] at this
      cases this
/-- Seven parts are enough: what has more is none. -/
theorem read_few (n : Nat) (s : List UInt8) (hn : n = min 7 (s.length + 1) - 1) : readQ (partsF 47 n s) = readS s := by
  unfold readS
  by_cases h : s.length ≤ 6
  · have : n = s.length := by omega
    rw [this]; rfl
  · have : n = 6 := by omega
    rw [this]
    rcases partsF_or 47 6 s with e | ⟨e1, e2⟩
    · rw [e]
    · rw [readQ_long (by omega), readQ_long (by omega)]
theorem text_no {x : St} (h : fitS x = false) : textS x = [] := by unfold textS; rw [h]; rfl
theorem text_yes {x : St} (h : fitS x = true) : textS x ≠ [] := by
  unfold textS
  rw [if_pos h]
  unfold partsS
  rw [join_cons2]
  simp
theorem text_nil (x : St) : (textS x = []) = (fitS x = false) := by
  cases h : fitS x with
  | false => simp [text_no h]
  | true => simp [text_yes h]
theorem read_nil : readS [] = none := by decide
/-- What Read tells: the step, zeros if there is none; the error. -/
def gotS (r : Option St) : St := r.getD st0
def errS (r : Option St) : Int := if r.isSome then 0 else 7
theorem itoa_fit_len {n : Int} (h0 : 0 ≤ n) (h1 : n ≤ 100) : (Lib.itoa n).length ≤ 21 := Lib.itoa_length_le n (by omega) (by omega)
def nums (x : St) : List Int := [x.tries, x.base, x.cap, x.wait]
end StP
end Go.Proofs.YtcdinaoenhonbaaDoor
