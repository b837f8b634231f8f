/-
  Plain facts on name runes, lowercase runes, and what a name is: numbers and lists alone, nothing of the program. No conditions.
-/
import Derived.Test.YtdpgfnnhbfkacaaDoorNamePlain
set_option linter.unusedVariables false
set_option maxRecDepth 4000
namespace Go.Proofs.YtdpgfnnhbfkacaaDoor
open Go.Lib
namespace NameP

/-- Is a number a name rune's? -/
def nr (c : Int) : Bool := (decide (97 ≤ c) && decide (c ≤ 122)) || (decide (48 ≤ c) && decide (c ≤ 57)) || c == 45 || (decide (223 ≤ c) && decide (c ≤ 255) && c != 247)
theorem nr_yes {c : Int} (h : (97 ≤ c ∧ c ≤ 122) ∨ (48 ≤ c ∧ c ≤ 57) ∨ c = 45 ∨ (223 ≤ c ∧ c ≤ 246) ∨ (248 ≤ c ∧ c ≤ 255)) : nr c = true := by
  unfold nr
  simp only [Bool.or_eq_true, Bool.and_eq_true, decide_eq_true_eq, beq_iff_eq, bne_iff_ne]
  omega
theorem nr_iff {c : Int} : nr c = true ↔ ((97 ≤ c ∧ c ≤ 122) ∨ (48 ≤ c ∧ c ≤ 57) ∨ c = 45 ∨ (223 ≤ c ∧ c ≤ 246) ∨ (248 ≤ c ∧ c ≤ 255)) := by
  unfold nr
  simp only [Bool.or_eq_true, Bool.and_eq_true, decide_eq_true_eq, beq_iff_eq, bne_iff_ne]
  omega
theorem nr_no {c : Int} (h : c < 45 ∨ (46 ≤ c ∧ c ≤ 47) ∨ (58 ≤ c ∧ c ≤ 96) ∨ (123 ≤ c ∧ c ≤ 222) ∨ c = 247 ∨ 255 < c) : nr c = false := by
  cases hn : nr c with
  | false => rfl
  | true => rw [nr_iff] at hn; omega
theorem nr_cases (c : Int) :
    (nr c = true ∧ 97 ≤ c ∧ c ≤ 122) ∨ (nr c = true ∧ 48 ≤ c ∧ c ≤ 57) ∨ (nr c = true ∧ c = 45) ∨ (nr c = true ∧ 223 ≤ c ∧ c ≤ 246) ∨ (nr c = true ∧ 248 ≤ c ∧ c ≤ 255) ∨
    (nr c = false ∧ c < 45) ∨ (nr c = false ∧ 46 ≤ c ∧ c ≤ 47) ∨ (nr c = false ∧ 58 ≤ c ∧ c ≤ 96) ∨ (nr c = false ∧ 123 ≤ c ∧ c ≤ 222) ∨ (nr c = false ∧ c = 247) ∨ (nr c = false ∧ 255 < c) := by
  by_cases h1 : 97 ≤ c ∧ c ≤ 122
  · exact .inl ⟨nr_yes (by omega), h1⟩
  by_cases h2 : 48 ≤ c ∧ c ≤ 57
  · exact .inr (.inl ⟨nr_yes (by omega), h2⟩)
  by_cases h3 : c = 45
  · exact .inr (.inr (.inl ⟨nr_yes (by omega), h3⟩))
  by_cases h4 : 223 ≤ c ∧ c ≤ 246
  · exact .inr (.inr (.inr (.inl ⟨nr_yes (by omega), h4⟩)))
  by_cases h5 : 248 ≤ c ∧ c ≤ 255
  · exact .inr (.inr (.inr (.inr (.inl ⟨nr_yes (by omega), h5⟩))))
  by_cases h6 : c < 45
  · exact .inr (.inr (.inr (.inr (.inr (.inl ⟨nr_no (by omega), h6⟩)))))
  by_cases h7 : 46 ≤ c ∧ c ≤ 47
  · exact .inr (.inr (.inr (.inr (.inr (.inr (.inl ⟨nr_no (by omega), h7⟩))))))
  by_cases h8 : 58 ≤ c ∧ c ≤ 96
  · exact .inr (.inr (.inr (.inr (.inr (.inr (.inr (.inl ⟨nr_no (by omega), h8⟩)))))))
  by_cases h9 : 123 ≤ c ∧ c ≤ 222
  · exact .inr (.inr (.inr (.inr (.inr (.inr (.inr (.inr (.inl ⟨nr_no (by omega), h9⟩))))))))
  by_cases h10 : c = 247
  · exact .inr (.inr (.inr (.inr (.inr (.inr (.inr (.inr (.inr (.inl ⟨nr_no (by omega), h10⟩)))))))))
  · exact .inr (.inr (.inr (.inr (.inr (.inr (.inr (.inr (.inr (.inr ⟨nr_no (by omega), by omega⟩)))))))))

/-- A great letter's small one; any other number is itself. -/
def isUp (c : Nat) : Bool := (decide (65 ≤ c) && decide (c ≤ 90)) || (decide (192 ≤ c) && decide (c ≤ 222) && c != 215)
def low (c : Nat) : Nat := if isUp c then c + 32 else c
theorem isUp_iff {c : Nat} : isUp c = true ↔ ((65 ≤ c ∧ c ≤ 90) ∨ (192 ≤ c ∧ c ≤ 214) ∨ (216 ≤ c ∧ c ≤ 222)) := by
  unfold isUp
  simp only [Bool.or_eq_true, Bool.and_eq_true, decide_eq_true_eq, bne_iff_ne]
  omega
theorem low_up {c : Nat} (h : (65 ≤ c ∧ c ≤ 90) ∨ (192 ≤ c ∧ c ≤ 214) ∨ (216 ≤ c ∧ c ≤ 222)) : low c = c + 32 := by
  unfold low; rw [isUp_iff.2 h]; rfl
theorem low_id {c : Nat} (h : c < 65 ∨ (91 ≤ c ∧ c ≤ 191) ∨ c = 215 ∨ 222 < c) : low c = c := by
  unfold low
  cases hu : isUp c with
  | false => rfl
  | true => rw [isUp_iff] at hu; omega
theorem low_cases (c : Nat) : (low c = c + 32 ∧ 65 ≤ c ∧ c ≤ 90) ∨ (low c = c + 32 ∧ 192 ≤ c ∧ c ≤ 214) ∨ (low c = c + 32 ∧ 216 ≤ c ∧ c ≤ 222) ∨
    (low c = c ∧ c < 65) ∨ (low c = c ∧ 91 ≤ c ∧ c ≤ 191) ∨ (low c = c ∧ c = 215) ∨ (low c = c ∧ 222 < c) := by
  by_cases h1 : 65 ≤ c ∧ c ≤ 90
  · exact .inl ⟨low_up (by omega), h1⟩
  by_cases h2 : 192 ≤ c ∧ c ≤ 214
  · exact .inr (.inl ⟨low_up (by omega), h2⟩)
  by_cases h3 : 216 ≤ c ∧ c ≤ 222
  · exact .inr (.inr (.inl ⟨low_up (by omega), h3⟩))
  by_cases h4 : c < 65
  · exact .inr (.inr (.inr (.inl ⟨low_id (by omega), h4⟩)))
  by_cases h5 : 91 ≤ c ∧ c ≤ 191
  · exact .inr (.inr (.inr (.inr (.inl ⟨low_id (by omega), h5⟩))))
  by_cases h6 : c = 215
  · exact .inr (.inr (.inr (.inr (.inr (.inl ⟨low_id (by omega), h6⟩)))))
  · exact .inr (.inr (.inr (.inr (.inr (.inr ⟨low_id (by omega), by omega⟩)))))
theorem low_ok {c : Nat} (h : okRune c) : okRune (low c) := by
  unfold okRune at *
  rcases low_cases c with ⟨e, _⟩ | ⟨e, _⟩ | ⟨e, _⟩ | ⟨e, _⟩ | ⟨e, _⟩ | ⟨e, _⟩ | ⟨e, _⟩ <;> rw [e] <;> omega
theorem low_le {c : Nat} (h : c ≤ 1114111) : low c ≤ 1114111 := by
  rcases low_cases c with ⟨e, _⟩ | ⟨e, _⟩ | ⟨e, _⟩ | ⟨e, _⟩ | ⟨e, _⟩ | ⟨e, _⟩ | ⟨e, _⟩ <;> rw [e] <;> omega
theorem low_nr {c : Nat} (h : nr (c : Int) = true) : low c = c := by
  rw [nr_iff] at h
  exact low_id (by omega)

/-- Are the numbers name runes', at most 12 with n that were, and no '-' ahead of all? -/
def fitUp (n : Nat) : List Nat → Bool
  | [] => decide (0 < n)
  | c :: r => if !nr (c : Int) || (n == 0 && c == 45) || n == 12 then false else fitUp (n + 1) r
def fitV (l : List Nat) : Bool := fitUp 0 l
def allNr (l : List Nat) : Bool := l.all fun (c : Nat) => nr (c : Int)
theorem fitUp_no {n c : Nat} {r : List Nat} (h : nr (c : Int) = false ∨ (n = 0 ∧ c = 45) ∨ n = 12) : fitUp n (c :: r) = false := by
  unfold fitUp
  rcases h with h | ⟨h, k⟩ | h
  · simp [h]
  · simp [h, k]
  · simp [h]
theorem fitUp_go {n c : Nat} {r : List Nat} (h : nr (c : Int) = true) (k : n ≠ 0 ∨ c ≠ 45) (k2 : n ≠ 12) : fitUp n (c :: r) = fitUp (n + 1) r := by
  rw [fitUp]
  rcases k with k | k
  · simp [h, k, k2]
  · simp [h, k, k2]
theorem fitUp_iff : ∀ {l : List Nat} {n : Nat}, n ≤ 12 → (fitUp n l = true ↔ allNr l = true ∧ 0 < n + l.length ∧ n + l.length ≤ 12 ∧ (n = 0 → l.headD 0 ≠ 45))
  | [], n, hn => by simp [fitUp, allNr]; omega
  | c :: r, n, hn => by
    by_cases h1 : nr (c : Int) = true
    · by_cases h2 : n = 12
      · rw [fitUp_no (.inr (.inr h2))]
        simp
        intro _ h; omega
      · by_cases h3 : n = 0 ∧ c = 45
        · rw [fitUp_no (.inr (.inl h3))]
          simp
          intro _ _ h; omega
        · rw [fitUp_go h1 (by omega) h2, fitUp_iff (by omega)]
          simp [allNr, h1]
          intro _
          constructor
          · rintro ⟨h4, h5⟩; exact ⟨by omega, by omega, fun h6 h7 => h3 ⟨h6, h7⟩⟩
          · rintro ⟨h4, h5⟩; exact ⟨by omega, by omega⟩
    · have h2 : nr (c : Int) = false := by simpa using h1
      rw [fitUp_no (.inl h2)]
      simp [allNr, h2]
theorem fitV_iff {l : List Nat} : fitV l = true ↔ allNr l = true ∧ 0 < l.length ∧ l.length ≤ 12 ∧ l.headD 0 ≠ 45 := by
  unfold fitV
  rw [fitUp_iff (by omega)]
  simp
theorem fitV_no {l : List Nat} (h : allNr l = false ∨ l.length = 0 ∨ 12 < l.length ∨ l.headD 0 = 45) : fitV l = false := by
  cases hf : fitV l with
  | false => rfl
  | true =>
    rw [fitV_iff] at hf
    obtain ⟨h1, h2, h3, h4⟩ := hf
    rcases h with h | h | h | h
    · rw [h1] at h; cases h
    · omega
    · omega
    · exact absurd h h4
theorem allNr_drop_step {l : List Nat} {k : Nat} (h : k < l.length) (hx : nr ((l.getD k 0 : Nat) : Int) = true) : allNr (l.drop k) = allNr (l.drop (k + 1)) := by
  rw [List.drop_eq_getElem_cons h, allNr, List.all_cons]
  have : l.getD k 0 = l[k] := by simp [List.getD, h]
  rw [this] at hx
  rw [hx]; rfl
theorem allNr_drop_no {l : List Nat} {k : Nat} (h : k < l.length) (hx : nr ((l.getD k 0 : Nat) : Int) = false) : allNr (l.drop k) = false := by
  rw [List.drop_eq_getElem_cons h, allNr, List.all_cons]
  have : l.getD k 0 = l[k] := by simp [List.getD, h]
  rw [this] at hx
  rw [hx]; rfl
theorem allNr_drop_done {l : List Nat} {k : Nat} (h : ¬ k < l.length) : allNr (l.drop k) = true := by
  rw [List.drop_eq_nil_of_le (by omega)]; rfl
/-- Where all are name runes, no octet was wrong. -/
theorem allNr_good (l : List UInt8) : allNr (vals l) = true → (rn l).all good = true := by
  induction l using rn_induct with
  | h0 => intro _; rfl
  | h1 l hne ih =>
    intro h
    rw [vals_step l hne, allNr, List.all_cons, Bool.and_eq_true] at h
    rw [rn_step l hne, List.all_cons, Bool.and_eq_true]
    refine ⟨?_, ih h.2⟩
    cases hg : good (decodeL l) with
    | true => rfl
    | false =>
      have := h.1
      rw [good_no hg] at this
      revert this
      decide

/-- A text as a name: its octets and why there is none. -/
def foldV (l : List Nat) : List UInt8 × Int := if fitV (l.map low) then (encs (l.map low), 0) else ([], 7)
theorem foldV_yes {l : List Nat} (h : fitV (l.map low) = true) : foldV l = (encs (l.map low), 0) := by unfold foldV; rw [h]; rfl
theorem foldV_no {l : List Nat} (h : fitV (l.map low) = false) : foldV l = ([], 7) := by unfold foldV; rw [h]; rfl
theorem map_low_ok {l : List Nat} (h : ∀ c ∈ l, okRune c) : ∀ c ∈ l.map low, okRune c := by
  intro c hc
  obtain ⟨d, hd, rfl⟩ := List.mem_map.1 hc
  exact low_ok (h d hd)
theorem map_low_nr : ∀ {l : List Nat}, allNr l = true → l.map low = l
  | [], _ => rfl
  | c :: r, h => by
    rw [allNr, List.all_cons, Bool.and_eq_true] at h
    rw [List.map_cons, low_nr h.1, map_low_nr h.2]
theorem map_low_bad : ∀ {l : List Nat}, allNr (l.map low) = true → ∀ c ∈ l, c ≠ 65533
  | [], _, c, h => by simp at h
  | d :: r, h, c, hc => by
    rw [List.map_cons, allNr, List.all_cons, Bool.and_eq_true] at h
    rcases List.mem_cons.1 hc with rfl | hc
    · intro e; subst e; have := h.1; revert this; decide
    · exact map_low_bad h.2 c hc
/-- How many runes a text has, or -1. -/
def countUp (n : Int) : List (Nat × Nat) → Int
  | [] => n
  | p :: r => if good p then countUp (n + 1) r else -1
def countV (l : List UInt8) : Int := countUp 0 (rn l)
theorem countUp_yes : ∀ {l : List (Nat × Nat)} {n : Int}, l.all good = true → countUp n l = n + l.length
  | [], n, _ => by simp [countUp]
  | p :: r, n, h => by
    rw [List.all_cons, Bool.and_eq_true] at h
    rw [countUp, h.1, if_pos rfl, countUp_yes h.2, List.length_cons]
    omega
theorem countUp_no : ∀ {l : List (Nat × Nat)} {n : Int}, l.all good = false → countUp n l = -1
  | [], n, h => by simp at h
  | p :: r, n, h => by
    rw [countUp]
    cases hp : good p with
    | false => rfl
    | true =>
      rw [List.all_cons, hp, Bool.true_and] at h
      simpa using countUp_no h
theorem countV_yes {l : List UInt8} (h : (rn l).all good = true) : countV l = (vals l).length := by
  unfold countV vals; rw [countUp_yes h]; simp
theorem countV_no {l : List UInt8} (h : (rn l).all good = false) : countV l = -1 := countUp_no h
theorem good_of_vals (l : List UInt8) : (∀ c ∈ vals l, c ≠ 65533) → (rn l).all good = true := by
  intro h
  rw [List.all_eq_true]
  intro p hp
  cases hg : good p with
  | true => rfl
  | false =>
    have := good_no hg
    subst this
    exact absurd rfl (h 65533 (List.mem_map.2 ⟨_, hp, rfl⟩))

/-! ### what is folded, folded again -/
theorem fold_again {l : List UInt8} (h : fitV ((vals l).map low) = true) :
    vals (encs ((vals l).map low)) = (vals l).map low ∧ ((vals l).map low).map low = (vals l).map low ∧
    countV (encs ((vals l).map low)) = countV l := by
  have hv := vals_encs _ (map_low_ok (vals_ok l))
  have hn := (fitV_iff.1 h).1
  refine ⟨hv, map_low_nr hn, ?_⟩
  rw [countV_yes (good_encs _ (map_low_ok (vals_ok l))), hv, countV_yes (good_of_vals l (map_low_bad hn))]
  simp
theorem fold_fit {l : List UInt8} (h : fitV (vals l) = true) : fitV ((vals l).map low) = true ∧ encs ((vals l).map low) = l := by
  have hn := (fitV_iff.1 h).1
  rw [map_low_nr hn]
  exact ⟨h, encs_vals l (allNr_good l hn)⟩

/-! ### the order by octets is that by runes -/
def lessV : List Nat → List Nat → Bool
  | _, [] => false
  | [], _ :: _ => true
  | a :: x, b :: y => decide (a < b) || (a == b && lessV x y)
theorem bytesLess_pre (p x y : List UInt8) : Op.bytesLess (p ++ x) (p ++ y) = Op.bytesLess x y := by
  induction p with
  | nil => rfl
  | cons a p ih => simp [Op.bytesLess, ih, UInt8.lt_irrefl]
theorem less_cons {a b : UInt8} {x y : List UInt8} (h : a.toNat < b.toNat) : Op.bytesLess (a :: x) (b :: y) = true ∧ Op.bytesLess (b :: y) (a :: x) = false := by
  have h1 : a < b := UInt8.lt_iff_toNat_lt.2 h
  have h2 : ¬ b < a := fun k => by have := UInt8.lt_iff_toNat_lt.1 k; omega
  have h3 : (b == a) = false := by rw [beq_eq_false_iff_ne]; intro e; subst e; omega
  simp [Op.bytesLess, h1, h2, h3]
theorem less_same {a b : UInt8} {x y : List UInt8} (h : a.toNat = b.toNat) : Op.bytesLess (a :: x) (b :: y) = Op.bytesLess x y := by
  obtain rfl := UInt8.toNat_inj.1 h
  simp [Op.bytesLess, UInt8.lt_irrefl]
/-- The octets' numbers of two runes, compared. -/
theorem less_nums {x y : List Int} (hx : ∀ n ∈ x, 0 ≤ n ∧ n < 256) (hy : ∀ n ∈ y, 0 ≤ n ∧ n < 256) (s t : List UInt8) (k : Nat) (hk : k < x.length) (hk2 : k < y.length) (hp : ∀ i, i < k → x.getD i 0 = y.getD i 0) (hl : x.getD k 0 < y.getD k 0) :
    Op.bytesLess (x.map (fun n => n.toNat.toUInt8) ++ s) (y.map (fun n => n.toNat.toUInt8) ++ t) = true ∧
    Op.bytesLess (y.map (fun n => n.toNat.toUInt8) ++ t) (x.map (fun n => n.toNat.toUInt8) ++ s) = false := by
  induction x generalizing y k with
  | nil => simp at hk
  | cons a x ih =>
    cases y with
    | nil => simp at hk2
    | cons b y =>
      have ha := hx a (by simp)
      have hb := hy b (by simp)
      rw [List.map_cons, List.map_cons, List.cons_append, List.cons_append]
      cases k with
      | zero =>
        simp at hl
        exact less_cons (by rw [toByte_nat _ ha.1 ha.2, toByte_nat _ hb.1 hb.2]; omega)
      | succ k =>
        have h0 := hp 0 (by omega)
        simp at h0
        subst h0
        rw [less_same rfl, less_same rfl]
        exact ih (fun n hn => hx n (by simp [hn])) (fun n hn => hy n (by simp [hn])) k (by simpa using hk) (by simpa using hk2) (fun i hi => by simpa using hp (i + 1) (by omega)) (by simpa using hl)
/-- The first octet at which two runes part tells their order. -/
theorem less_rune {c d : Nat} (hc : okRune c) (hd : okRune d) (h : c < d) (s t : List UInt8) :
    Op.bytesLess (encodeRune (c : Int) ++ s) (encodeRune (d : Int) ++ t) = true ∧ Op.bytesLess (encodeRune (d : Int) ++ t) (encodeRune (c : Int) ++ s) = false := by
  unfold okRune at hc hd
  have bx := encodeRuneZ_byte (c : Int)
  have by' := encodeRuneZ_byte (d : Int)
  unfold encodeRune
  have one : ∀ n : Nat, n ≤ 127 → encodeRuneZ (n : Int) = [(n : Int)] := fun n hn => encodeRuneZ_one (by omega) (by omega)
  have two : ∀ n : Nat, 128 ≤ n → n ≤ 2047 → encodeRuneZ (n : Int) = [192 + (n : Int) / 64, 128 + (n : Int) % 64] := fun n hn hm => encodeRuneZ_two (by omega) (by omega)
  have three : ∀ n : Nat, 2048 ≤ n → n ≤ 65535 → (n < 55296 ∨ 57344 ≤ n) → encodeRuneZ (n : Int) = [224 + (n : Int) / 4096, 128 + (n : Int) / 64 % 64, 128 + (n : Int) % 64] := fun n hn hm hs => encodeRuneZ_three (by omega)
  have four : ∀ n : Nat, 65536 ≤ n → n ≤ 1114111 → encodeRuneZ (n : Int) = [240 + (n : Int) / 262144, 128 + (n : Int) / 4096 % 64, 128 + (n : Int) / 64 % 64, 128 + (n : Int) % 64] := fun n hn hm => encodeRuneZ_four (by omega) (by omega)
  have first : ∀ n m : Nat, (encodeRuneZ (n : Int)).getD 0 0 < (encodeRuneZ (m : Int)).getD 0 0 → Op.bytesLess ((encodeRuneZ (n : Int)).map (fun n => n.toNat.toUInt8) ++ s) ((encodeRuneZ (m : Int)).map (fun n => n.toNat.toUInt8) ++ t) = true ∧
    Op.bytesLess ((encodeRuneZ (m : Int)).map (fun n => n.toNat.toUInt8) ++ t) ((encodeRuneZ (n : Int)).map (fun n => n.toNat.toUInt8) ++ s) = false := fun n m hnm =>
      less_nums (encodeRuneZ_byte _) (encodeRuneZ_byte _) s t 0 (encodeRuneZ_length _).1 (encodeRuneZ_length _).1 (fun i hi => by omega) hnm
  by_cases c1 : c ≤ 127
  · apply first
    rw [one c c1]
    by_cases d1 : d ≤ 127
    · rw [one d d1]; simp; omega
    · by_cases d2 : d ≤ 2047
      · rw [two d (by omega) d2]; simp; omega
      · by_cases d3 : d ≤ 65535
        · rw [three d (by omega) d3 (by omega)]; simp; omega
        · rw [four d (by omega) (by omega)]; simp; omega
  · by_cases c2 : c ≤ 2047
    · by_cases d2 : d ≤ 2047
      · rw [two c (by omega) c2, two d (by omega) d2] at *
        by_cases e0 : (c : Int) / 64 = d / 64
        · exact less_nums bx by' s t 1 (by simp) (by simp) (fun i hi => by obtain rfl : i = 0 := by omega
                                                                           simp; omega) (by simp; omega)
        · exact less_nums bx by' s t 0 (by simp) (by simp) (fun i hi => by omega) (by simp; omega)
      · apply first
        rw [two c (by omega) c2]
        by_cases d3 : d ≤ 65535
        · rw [three d (by omega) d3 (by omega)]; simp; omega
        · rw [four d (by omega) (by omega)]; simp; omega
    · by_cases c3 : c ≤ 65535
      · by_cases d3 : d ≤ 65535
        · rw [three c (by omega) c3 (by omega), three d (by omega) d3 (by omega)] at *
          by_cases e0 : (c : Int) / 4096 = d / 4096
          · by_cases e1 : (c : Int) / 64 % 64 = d / 64 % 64
            · refine less_nums bx by' s t 2 (by simp) (by simp) (fun i hi => ?_) (by simp; omega)
              obtain rfl | rfl : i = 0 ∨ i = 1 := by omega
              · simp; omega
              · simp; omega
            · refine less_nums bx by' s t 1 (by simp) (by simp) (fun i hi => ?_) (by simp; omega)
              obtain rfl : i = 0 := by omega
              simp; omega
          · exact less_nums bx by' s t 0 (by simp) (by simp) (fun i hi => by omega) (by simp; omega)
        · apply first
          rw [three c (by omega) c3 (by omega), four d (by omega) (by omega)]; simp; omega
      · rw [four c (by omega) (by omega), four d (by omega) (by omega)] at *
        by_cases e0 : (c : Int) / 262144 = d / 262144
        · by_cases e1 : (c : Int) / 4096 % 64 = d / 4096 % 64
          · by_cases e2 : (c : Int) / 64 % 64 = d / 64 % 64
            · refine less_nums bx by' s t 3 (by simp) (by simp) (fun i hi => ?_) (by simp; omega)
              obtain rfl | rfl | rfl : i = 0 ∨ i = 1 ∨ i = 2 := by omega
              · simp; omega
              · simp; omega
              · simp; omega
            · refine less_nums bx by' s t 2 (by simp) (by simp) (fun i hi => ?_) (by simp; omega)
              obtain rfl | rfl : i = 0 ∨ i = 1 := by omega
              · simp; omega
              · simp; omega
          · refine less_nums bx by' s t 1 (by simp) (by simp) (fun i hi => ?_) (by simp; omega)
            obtain rfl : i = 0 := by omega
            simp; omega
        · exact less_nums bx by' s t 0 (by simp) (by simp) (fun i hi => by omega) (by simp; omega)
theorem less_encs : ∀ (x y : List Nat), (∀ c ∈ x, okRune c) → (∀ c ∈ y, okRune c) → Op.bytesLess (encs x) (encs y) = lessV x y
  | [], [], _, _ => rfl
  | c :: x, [], _, _ => by
    rw [lessV]
    unfold Op.bytesLess
    cases encs (c :: x) <;> rfl
  | [], d :: y, _, _ => by
    rw [lessV, encs_cons]
    have h := encodeRune_ne (d : Int) (encs y)
    cases he : encodeRune (d : Int) ++ encs y with
    | nil => exact absurd he h
    | cons a r => rfl
  | c :: x, d :: y, hx, hy => by
    have hc := hx c (by simp)
    have hd := hy d (by simp)
    have ih := less_encs x y (fun c h => hx c (by simp [h])) (fun c h => hy c (by simp [h]))
    rw [encs_cons, encs_cons, lessV]
    by_cases h1 : c < d
    · rw [(less_rune hc hd h1 _ _).1]; simp [h1]
    · by_cases h2 : c = d
      · subst h2
        rw [bytesLess_pre, ih]; simp
      · rw [(less_rune hd hc (by omega) _ _).2]; simp [h1, h2]
theorem less_text (a b : List UInt8) (ha : (rn a).all good = true) (hb : (rn b).all good = true) : lessV (vals a) (vals b) = Op.bytesLess a b := by
  rw [← less_encs _ _ (vals_ok a) (vals_ok b), encs_vals a ha, encs_vals b hb]
end NameP
end Go.Proofs.YtdpgfnnhbfkacaaDoor
