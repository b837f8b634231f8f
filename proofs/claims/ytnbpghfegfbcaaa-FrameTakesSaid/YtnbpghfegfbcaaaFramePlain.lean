/-
  Frames without a program: what records' frames are, how octets are taken apart, there and back.
-/
import Derived.Test.YtnbpghfegfbcaaaCrcPlain
set_option linter.unusedVariables false
namespace Go.Proofs.Ytnbpghfegfbcaaa.FrameP
open CrcP

def hd (n : Nat) : List UInt8 := [UInt8.ofNat (n / 256), UInt8.ofNat n]
def cs (r : List UInt8) : List UInt8 := oc (more 0#32 r).toNat
def fr (r : List UInt8) : List UInt8 := hd r.length ++ cs r ++ r
def frs : List (List UInt8) → List UInt8
  | [] => []
  | r :: l => fr r ++ frs l
def sz : List (List UInt8) → Nat
  | [] => 0
  | r :: l => 6 + r.length + sz l
def Rec (r : List UInt8) : Prop := 1 ≤ r.length ∧ r.length ≤ 4096
theorem oc_length (n : Nat) : (oc n).length = 4 := rfl
theorem cs_length (r : List UInt8) : (cs r).length = 4 := rfl
theorem fr_length (r : List UInt8) : (fr r).length = 6 + r.length := by
  unfold fr hd
  simp only [List.length_append, List.length_cons, List.length_nil, cs_length]
theorem frs_length (l : List (List UInt8)) : (frs l).length = sz l := by
  induction l with
  | nil => rfl
  | cons r l ih => rw [frs, sz, List.length_append, fr_length, ih]
theorem frs_append (a b : List (List UInt8)) : frs (a ++ b) = frs a ++ frs b := by
  induction a with
  | nil => rfl
  | cons r l ih => rw [List.cons_append, frs, frs, ih, List.append_assoc]
theorem sz_append (a b : List (List UInt8)) : sz (a ++ b) = sz a + sz b := by
  induction a with
  | nil => rw [List.nil_append, sz, Nat.zero_add]
  | cons r l ih => rw [List.cons_append, sz, sz, ih]; omega
theorem sz_one (r : List UInt8) : sz [r] = 6 + r.length := rfl
theorem frs_one (r : List UInt8) : frs [r] = fr r := by rw [frs, frs, List.append_nil]
theorem take_snoc {α} (l : List α) (j : Nat) (d : α) (h : j < l.length) : l.take (j + 1) = l.take j ++ [l.getD j d] := by
  rw [List.take_succ_eq_append_getElem h]
  simp [List.getD, h]
theorem sz_take (l : List (List UInt8)) (j : Nat) (h : j < l.length) : sz (l.take (j + 1)) = sz (l.take j) + (6 + (l.getD j []).length) := by
  rw [take_snoc l j [] h, sz_append, sz_one]
theorem frs_take (l : List (List UInt8)) (j : Nat) (h : j < l.length) : frs (l.take (j + 1)) = frs (l.take j) ++ fr (l.getD j []) := by
  rw [take_snoc l j [] h, frs_append, frs_one]
theorem sz_le (l : List (List UInt8)) (m : Nat) (h : ∀ r ∈ l, r.length ≤ m) : sz l ≤ l.length * (6 + m) := by
  induction l with
  | nil => exact Nat.zero_le _
  | cons r l ih =>
    have h1 := h r (List.mem_cons_self)
    have h2 := ih fun x hx => h x (List.mem_cons_of_mem _ hx)
    rw [sz, List.length_cons, Nat.succ_mul]
    omega
theorem sz_take_le (l : List (List UInt8)) (j : Nat) : sz (l.take j) ≤ sz l := by
  have h : sz (l.take j ++ l.drop j) = sz l := by rw [List.take_append_drop]
  rw [sz_append] at h
  omega

/-- The length that the first two octets bear. -/
def len2 (s : List UInt8) : Nat := 256 * (s.getD 0 0).toNat + (s.getD 1 0).toNat
/-- The first frame: why there is none, its record, what is left. -/
def nx (s : List UInt8) : Int × List UInt8 × List UInt8 :=
  if s.length < 2 then (8, [], [])
  else if ¬ (1 ≤ len2 s ∧ len2 s ≤ 4096) then (7, [], [])
  else if s.length < 6 + len2 s then (8, [], [])
  else if (s.drop 2).take 4 ≠ cs ((s.drop 6).take (len2 s)) then (12, [], [])
  else (0, (s.drop 6).take (len2 s), s.drop (6 + len2 s))
theorem nx_short {s : List UInt8} (h : s.length < 2) : nx s = (8, [], []) := by unfold nx; rw [if_pos h]
theorem nx_form {s : List UInt8} (h : 2 ≤ s.length) (h2 : ¬ (1 ≤ len2 s ∧ len2 s ≤ 4096)) : nx s = (7, [], []) := by unfold nx; rw [if_neg (by omega), if_pos h2]
theorem nx_less {s : List UInt8} (h : 2 ≤ s.length) (h2 : 1 ≤ len2 s ∧ len2 s ≤ 4096) (h3 : s.length < 6 + len2 s) : nx s = (8, [], []) := by
  unfold nx; rw [if_neg (by omega), if_neg (by simp only [h2, not_true, not_false_eq_true, and_self]), if_pos h3]
theorem nx_bad {s : List UInt8} (h2 : 1 ≤ len2 s ∧ len2 s ≤ 4096) (h3 : 6 + len2 s ≤ s.length) (h4 : (s.drop 2).take 4 ≠ cs ((s.drop 6).take (len2 s))) : nx s = (12, [], []) := by
  unfold nx; rw [if_neg (by omega), if_neg (by simp only [h2, not_true, not_false_eq_true, and_self]), if_neg (by omega), if_pos h4]
theorem nx_yes {s : List UInt8} (h2 : 1 ≤ len2 s ∧ len2 s ≤ 4096) (h3 : 6 + len2 s ≤ s.length) (h4 : (s.drop 2).take 4 = cs ((s.drop 6).take (len2 s))) : nx s = (0, (s.drop 6).take (len2 s), s.drop (6 + len2 s)) := by
  unfold nx; rw [if_neg (by omega), if_neg (by simp only [h2, not_true, not_false_eq_true, and_self]), if_neg (by omega), if_neg (by simp [h4])]
theorem nx_zero {s : List UInt8} (h : (nx s).1 = 0) : (1 ≤ len2 s ∧ len2 s ≤ 4096) ∧ 6 + len2 s ≤ s.length ∧ (s.drop 2).take 4 = cs ((s.drop 6).take (len2 s)) ∧ nx s = (0, (s.drop 6).take (len2 s), s.drop (6 + len2 s)) := by
  by_cases h1 : s.length < 2
  · rw [nx_short h1] at h; exact absurd h (by decide)
  · by_cases h2 : 1 ≤ len2 s ∧ len2 s ≤ 4096
    · by_cases h3 : s.length < 6 + len2 s
      · rw [nx_less (by omega) h2 h3] at h; exact absurd h (by decide)
      · by_cases h4 : (s.drop 2).take 4 = cs ((s.drop 6).take (len2 s))
        · exact ⟨h2, by omega, h4, nx_yes h2 (by omega) h4⟩
        · rw [nx_bad h2 (by omega) h4] at h; exact absurd h (by decide)
    · rw [nx_form (by omega) h2] at h; exact absurd h (by decide)
def tkf : Nat → List UInt8 → List (List UInt8) × Int
  | 0, _ => ([], 0)
  | k + 1, s => if s = [] then ([], 0) else if (nx s).1 = 0 then (if (tkf k (nx s).2.2).2 = 0 then ((nx s).2.1 :: (tkf k (nx s).2.2).1, 0) else ([], (tkf k (nx s).2.2).2)) else ([], (nx s).1)
theorem nx_rest {s : List UInt8} (h : (nx s).1 = 0) : (nx s).2.2.length + 7 ≤ s.length := by
  obtain ⟨h1, h2, _, h4⟩ := nx_zero h
  rw [h4, List.length_drop]
  omega
theorem tkf_more : ∀ (k m : Nat) (s : List UInt8), s.length ≤ k → s.length ≤ m → tkf k s = tkf m s
  | 0, 0, _, _, _ => rfl
  | 0, m + 1, s, h, _ => by
    have hs : s = [] := List.eq_nil_of_length_eq_zero (by omega)
    subst hs
    rw [tkf, tkf, if_pos rfl]
  | k + 1, 0, s, _, h => by
    have hs : s = [] := List.eq_nil_of_length_eq_zero (by omega)
    subst hs
    rw [tkf, tkf, if_pos rfl]
  | k + 1, m + 1, s, h, h2 => by
    rw [tkf, tkf]
    by_cases hs : s = []
    · rw [if_pos hs, if_pos hs]
    · rw [if_neg hs, if_neg hs]
      by_cases hn : (nx s).1 = 0
      · have hr := nx_rest hn
        rw [if_pos hn, if_pos hn, tkf_more k m _ (by omega) (by omega)]
      · rw [if_neg hn, if_neg hn]
/-- The records of octets, or why there are none. -/
def tk (s : List UInt8) : List (List UInt8) × Int := tkf s.length s
theorem tk_nil : tk [] = ([], 0) := rfl
theorem tk_err {s : List UInt8} (h : s ≠ []) (hn : (nx s).1 ≠ 0) : tk s = ([], (nx s).1) := by
  unfold tk
  obtain ⟨k, hk⟩ : ∃ k, s.length = k + 1 := ⟨s.length - 1, by have := List.length_pos_iff.2 h; omega⟩
  rw [hk, tkf, if_neg h, if_neg hn]
/-- What is told when these records were taken already. -/
def fin (D : List (List UInt8)) (x : List (List UInt8) × Int) : List (List UInt8) × Int := if x.2 = 0 then (D ++ x.1, 0) else ([], x.2)
theorem fin_nil (x : List (List UInt8) × Int) (h : x.2 ≠ 0 → x.1 = []) : fin [] x = x := by
  unfold fin
  by_cases h0 : x.2 = 0
  · rw [if_pos h0, List.nil_append]; ext <;> simp [h0]
  · rw [if_neg h0]; ext <;> simp [h h0]
theorem tk_more {s : List UInt8} (h : s ≠ []) (hn : (nx s).1 = 0) : tk s = fin [(nx s).2.1] (tk (nx s).2.2) := by
  unfold tk
  have hp := List.length_pos_iff.2 h
  obtain ⟨k, hk⟩ : ∃ k, s.length = k + 1 := ⟨s.length - 1, by omega⟩
  have hr := nx_rest hn
  rw [hk, tkf, if_neg h, if_pos hn, tkf_more k (nx s).2.2.length _ (by omega) (Nat.le_refl _)]
  unfold fin
  rfl
theorem tk_none (s : List UInt8) (h : (tk s).2 ≠ 0) : (tk s).1 = [] := by
  by_cases hs : s = []
  · subst hs; rfl
  · by_cases hn : (nx s).1 = 0
    · rw [tk_more hs hn] at h ⊢
      unfold fin at h ⊢
      by_cases h0 : (tk (nx s).2.2).2 = 0
      · rw [if_pos h0] at h; exact absurd rfl h
      · rw [if_neg h0]
    · rw [tk_err hs hn]
theorem fin_tk_nil (s : List UInt8) : fin [] (tk s) = tk s := fin_nil _ (tk_none s)
theorem fin_fin (A B : List (List UInt8)) (x : List (List UInt8) × Int) : fin A (fin B x) = fin (A ++ B) x := by
  unfold fin
  by_cases h : x.2 = 0
  · simp [h]
  · simp [h]
theorem fin_end (D : List (List UInt8)) : fin D (tk []) = (D, 0) := by rw [tk_nil]; unfold fin; simp
theorem fin_err {D : List (List UInt8)} {s : List UInt8} (h : s ≠ []) (hn : (nx s).1 ≠ 0) : fin D (tk s) = ([], (nx s).1) := by
  rw [tk_err h hn]; unfold fin; rw [if_neg hn]
theorem fin_step {D : List (List UInt8)} {s : List UInt8} (h : s ≠ []) (hn : (nx s).1 = 0) : fin D (tk s) = fin (D ++ [(nx s).2.1]) (tk (nx s).2.2) := by
  rw [tk_more h hn, fin_fin]

/-- What is taken is made of these frames, of records. -/
theorem byte_ofNat (c : UInt8) : UInt8.ofNat c.toNat = c := by simp
theorem hd_len2 {s : List UInt8} (h : 2 ≤ s.length) : hd (len2 s) = s.take 2 := by
  match s, h with
  | a :: b :: r, _ =>
    have ha := a.toNat_lt
    have hb := b.toNat_lt
    have h1 : len2 (a :: b :: r) = 256 * a.toNat + b.toNat := rfl
    unfold hd
    rw [h1, show (256 * a.toNat + b.toNat) / 256 = a.toNat by omega, byte_ofNat]
    have h2 : UInt8.ofNat (256 * a.toNat + b.toNat) = b := by
      apply UInt8.toNat_inj.1
      rw [UInt8.toNat_ofNat']
      omega
    rw [h2]
    rfl
theorem len2_hd {n : Nat} (h : n < 65536) (t : List UInt8) : len2 (hd n ++ t) = n := by
  have h1 : len2 (hd n ++ t) = 256 * (UInt8.ofNat (n / 256)).toNat + (UInt8.ofNat n).toNat := rfl
  rw [h1, UInt8.toNat_ofNat', UInt8.toNat_ofNat']
  omega
theorem nx_fr {s : List UInt8} (h : (nx s).1 = 0) : s = fr (nx s).2.1 ++ (nx s).2.2 ∧ Rec (nx s).2.1 := by
  obtain ⟨h1, h2, h3, h4⟩ := nx_zero h
  rw [h4]
  have hl : ((s.drop 6).take (len2 s)).length = len2 s := by rw [List.length_take, List.length_drop]; omega
  refine ⟨?_, by unfold Rec; rw [hl]; exact h1⟩
  show s = fr ((s.drop 6).take (len2 s)) ++ s.drop (6 + len2 s)
  unfold fr
  rw [hl, hd_len2 (by omega), ← h3]
  have e1 : s.drop (6 + len2 s) = (s.drop 6).drop (len2 s) := by rw [List.drop_drop]
  have e2 : s.drop 6 = (s.drop 2).drop 4 := by rw [List.drop_drop]
  rw [List.append_assoc, e1, List.take_append_drop, e2, List.append_assoc, List.take_append_drop, List.take_append_drop]
theorem tk_frs : ∀ (n : Nat) (s : List UInt8), s.length ≤ n → (tk s).2 = 0 → frs (tk s).1 = s ∧ ∀ r ∈ (tk s).1, Rec r
  | 0, s, h, _ => by
    have hs : s = [] := List.eq_nil_of_length_eq_zero (by omega)
    subst hs
    exact ⟨rfl, by rw [tk_nil]; simp⟩
  | n + 1, s, h, h0 => by
    by_cases hs : s = []
    · subst hs
      exact ⟨rfl, by rw [tk_nil]; simp⟩
    · by_cases hn : (nx s).1 = 0
      · have hr := nx_rest hn
        have hf := nx_fr hn
        rw [tk_more hs hn] at h0 ⊢
        by_cases hz : (tk (nx s).2.2).2 = 0
        · obtain ⟨h1, h2⟩ := tk_frs n (nx s).2.2 (by omega) hz
          have e : fin [(nx s).2.1] (tk (nx s).2.2) = ((nx s).2.1 :: (tk (nx s).2.2).1, 0) := by unfold fin; rw [if_pos hz]; rfl
          rw [e]
          refine ⟨by rw [frs, h1]; exact hf.1.symm, fun r hr => ?_⟩
          rcases List.mem_cons.1 hr with rfl | hr
          · exact hf.2
          · exact h2 r hr
        · have e : fin [(nx s).2.1] (tk (nx s).2.2) = ([], (tk (nx s).2.2).2) := by unfold fin; rw [if_neg hz]
          rw [e] at h0
          exact absurd h0 hz
      · rw [tk_err hs hn] at h0
        exact absurd h0 hn
/-- Frames are taken apart again. -/
theorem nx_of {r t : List UInt8} (h : Rec r) : nx (fr r ++ t) = (0, r, t) := by
  have hl : len2 (fr r ++ t) = r.length := by
    unfold fr
    rw [List.append_assoc, List.append_assoc]
    exact len2_hd (by have := h.2; omega) _
  have hlen : (fr r ++ t).length = 6 + r.length + t.length := by rw [List.length_append, fr_length]
  have d2 : (fr r ++ t).drop 2 = cs r ++ (r ++ t) := by unfold fr hd; simp
  have d6 : (fr r ++ t).drop 6 = r ++ t := by
    have : (fr r ++ t).drop 6 = ((fr r ++ t).drop 2).drop 4 := by rw [List.drop_drop]
    rw [this, d2]
    exact List.drop_left' (cs_length r)
  have dl : (fr r ++ t).drop (6 + r.length) = t := by
    rw [← List.drop_drop, d6]
    exact List.drop_left
  have t6 : ((fr r ++ t).drop 6).take (len2 (fr r ++ t)) = r := by rw [d6, hl]; exact List.take_left
  rw [nx_yes (by rw [hl]; exact h) (by rw [hl, hlen]; omega) (by rw [t6, d2]; exact List.take_left' (cs_length r)), t6, hl, dl]
theorem tk_app : ∀ (l : List (List UInt8)) (t : List UInt8), (∀ r ∈ l, Rec r) → tk (frs l ++ t) = fin l (tk t)
  | [], t, _ => by rw [frs, List.nil_append, fin_tk_nil]
  | r :: l, t, h => by
    have hR := h r List.mem_cons_self
    have ih := tk_app l t fun x hx => h x (List.mem_cons_of_mem _ hx)
    rw [frs, List.append_assoc]
    have hne : fr r ++ (frs l ++ t) ≠ [] := by
      intro e
      have := congrArg List.length e
      rw [List.length_append, fr_length] at this
      simp at this
    have hn := nx_of (t := frs l ++ t) hR
    rw [tk_more hne (by rw [hn]), hn, ih, fin_fin]
    rfl
theorem tk_all (l : List (List UInt8)) (h : ∀ r ∈ l, Rec r) : tk (frs l) = (l, 0) := by
  have := tk_app l [] h
  rw [List.append_nil, fin_end] at this
  exact this
/-- A beginning of a frame is too short. -/
theorem nx_part {r : List UInt8} (h : Rec r) (j : Nat) (hj : j < 6 + r.length) : nx ((fr r).take j) = (8, [], []) := by
  have hl : ((fr r).take j).length = j := by rw [List.length_take, fr_length]; omega
  by_cases h2 : j < 2
  · exact nx_short (by rw [hl]; exact h2)
  · have hlen : len2 ((fr r).take j) = r.length := by
      have e : (fr r).take j = hd r.length ++ (cs r ++ r).take (j - 2) := by
        unfold fr
        rw [List.append_assoc, List.take_append, List.take_of_length_le (by show 2 ≤ j; omega)]
        rfl
      rw [e]
      exact len2_hd (by have := h.2; omega) _
    exact nx_less (by rw [hl]; omega) (by rw [hlen]; exact h) (by rw [hlen, hl]; exact hj)
theorem frs_split (l : List (List UInt8)) (n : Nat) : frs l = frs (l.take n) ++ frs (l.drop n) := by
  rw [← frs_append, List.take_append_drop]
/-- A beginning that ends with a frame. -/
theorem part_end (l : List (List UInt8)) (n : Nat) : (frs l).take (sz (l.take n)) = frs (l.take n) := by
  rw [frs_split l n, ← frs_length]
  exact List.take_left
/-- A beginning that ends within a frame. -/
theorem part_mid (l : List (List UInt8)) (h : ∀ r ∈ l, Rec r) (n k : Nat) (hn : n < l.length) (h1 : sz (l.take n) < k) (h2 : k < sz (l.take (n + 1))) : tk ((frs l).take k) = ([], 8) := by
  have hd : l.drop n = l.getD n [] :: l.drop (n + 1) := by
    rw [List.drop_eq_getElem_cons hn]; simp [List.getD, hn]
  have hR : Rec (l.getD n []) := by
    apply h
    rw [List.getD, List.getElem?_eq_getElem hn, Option.getD_some]
    exact List.getElem_mem hn
  rw [sz_take l n hn] at h2
  have e : (frs l).take k = frs (l.take n) ++ (fr (l.getD n [])).take (k - sz (l.take n)) := by
    rw [frs_split l n, hd, frs, List.take_append, frs_length, List.take_of_length_le (by rw [frs_length]; omega), List.take_append, fr_length, show k - sz (l.take n) - (6 + (l.getD n []).length) = 0 by omega, List.take_zero, List.append_nil]
  have hne : (fr (l.getD n [])).take (k - sz (l.take n)) ≠ [] := by
    intro e
    have := congrArg List.length e
    rw [List.length_take, fr_length, List.length_nil] at this
    omega
  have hx := nx_part hR (k - sz (l.take n)) (by omega)
  rw [e, tk_app _ _ (fun r hr => h r (List.mem_of_mem_take hr)), tk_err hne (by rw [hx]; decide), hx]
  rfl
theorem tk_count : ∀ (n : Nat) (s : List UInt8), s.length ≤ n → 7 * (tk s).1.length ≤ s.length
  | 0, s, h => by
    have hs : s = [] := List.eq_nil_of_length_eq_zero (by omega)
    subst hs
    exact Nat.le_refl _
  | n + 1, s, h => by
    by_cases hs : s = []
    · subst hs; exact Nat.le_refl _
    · by_cases hn : (nx s).1 = 0
      · have hr := nx_rest hn
        have ih := tk_count n (nx s).2.2 (by omega)
        rw [tk_more hs hn]
        unfold fin
        split
        · simp only [List.length_append, List.length_cons, List.length_nil]; omega
        · simp
      · rw [tk_err hs hn]; simp
end Go.Proofs.Ytnbpghfegfbcaaa.FrameP
