/-
  Plain facts on runes, names and their order: lists of bytes and numbers alone, nothing of the program. No conditions.
-/
import Derived.Lib.MapLaws
import Derived.Lib.Hide
import Derived.Laws.Cover4
set_option linter.unusedVariables false
set_option maxRecDepth 4000
namespace Go.Proofs.YtdpgfnnhbfkacaaDoor
open Go.Lib
namespace NameP

/-! ### a text's runes with their widths -/
def rnF : Nat → List UInt8 → List (Nat × Nat)
  | 0, _ => []
  | f + 1, l => if l = [] then [] else decodeL l :: rnF f (l.drop (decodeL l).2)
def rn (l : List UInt8) : List (Nat × Nat) := rnF l.length l
theorem rnF_nil : ∀ f, rnF f [] = []
  | 0 => rfl
  | _ + 1 => by simp [rnF]
theorem rnF_fuel : ∀ (n m : Nat) (l : List UInt8), l.length ≤ n → l.length ≤ m → rnF n l = rnF m l
  | 0, m, l, hn, _ => by
    have : l = [] := List.eq_nil_of_length_eq_zero (by omega)
    subst this
    rw [rnF_nil, rnF_nil]
  | n + 1, 0, l, _, hm => by
    have : l = [] := List.eq_nil_of_length_eq_zero (by omega)
    subst this
    rw [rnF_nil, rnF_nil]
  | n + 1, m + 1, l, hn, hm => by
    by_cases hne : l = []
    · subst hne
      rw [rnF_nil, rnF_nil]
    · have hw := decodeL_width l
      have hl : 0 < l.length := List.length_pos_iff.2 hne
      simp only [rnF, if_neg hne]
      rw [rnF_fuel n m _ (by rw [List.length_drop]; omega) (by rw [List.length_drop]; omega)]
theorem rn_nil : rn [] = [] := rfl
theorem rn_step (l : List UInt8) (hne : l ≠ []) : rn l = decodeL l :: rn (l.drop (decodeL l).2) := by
  have hw := decodeL_width l
  have hl : 0 < l.length := List.length_pos_iff.2 hne
  unfold rn
  obtain ⟨n, hn⟩ : ∃ n, l.length = n + 1 := ⟨l.length - 1, by omega⟩
  rw [hn]
  simp only [rnF, if_neg hne]
  rw [rnF_fuel n _ _ (by rw [List.length_drop]; omega) (Nat.le_refl _)]
/-- Induction along a text's runes. -/
theorem rn_induct {p : List UInt8 → Prop} (h0 : p []) (h1 : ∀ l, l ≠ [] → p (l.drop (decodeL l).2) → p l) : ∀ l, p l := by
  intro l
  induction hn : l.length using Nat.strongRecOn generalizing l with
  | ind n ih =>
    by_cases hne : l = []
    · subst hne; exact h0
    · have hw := decodeL_width l
      have hl : 0 < l.length := List.length_pos_iff.2 hne
      exact h1 l hne (ih (l.drop (decodeL l).2).length (by rw [List.length_drop]; omega) _ rfl)
theorem rn_drop_step (l : List UInt8) (k : Nat) (h : k < l.length) : rn (l.drop k) = decodeL (l.drop k) :: rn (l.drop (k + (decodeL (l.drop k)).2)) := by
  rw [rn_step _ (by intro e; have := congrArg List.length e; simp at this; omega), List.drop_drop]
theorem rn_drop_done (l : List UInt8) (k : Nat) (h : ¬ k < l.length) : rn (l.drop k) = [] := by
  rw [List.drop_eq_nil_of_le (by omega)]; rfl

def good (p : Nat × Nat) : Bool := !(p.1 == 65533 && p.2 == 1)
theorem good_no {p : Nat × Nat} (h : good p = false) : p = (65533, 1) := by
  obtain ⟨a, b⟩ := p
  simp [good] at h
  rw [h.1, h.2]
theorem good_yes {p : Nat × Nat} (h : good p = true) : ¬ (p.1 = 65533 ∧ p.2 = 1) := by
  rintro ⟨h1, h2⟩
  simp [good, h1, h2] at h
def vals (l : List UInt8) : List Nat := (rn l).map (·.1)
theorem vals_nil : vals [] = [] := rfl
theorem vals_step (l : List UInt8) (hne : l ≠ []) : vals l = (decodeL l).1 :: vals (l.drop (decodeL l).2) := by
  unfold vals; rw [rn_step l hne]; rfl
theorem vals_drop_step (l : List UInt8) (k : Nat) (h : k < l.length) : vals (l.drop k) = (decodeL (l.drop k)).1 :: vals (l.drop (k + (decodeL (l.drop k)).2)) := by
  unfold vals; rw [rn_drop_step l k h]; rfl
theorem vals_drop_done (l : List UInt8) (k : Nat) (h : ¬ k < l.length) : vals (l.drop k) = [] := by
  unfold vals; rw [rn_drop_done l k h]; rfl
/-- A text has at most as many runes as bytes, and at most four times as many bytes as runes. -/
theorem vals_len (l : List UInt8) : (vals l).length ≤ l.length := by
  induction l using rn_induct with
  | h0 => simp [vals_nil]
  | h1 l hne ih =>
    have hw := decodeL_width l
    have hl : 0 < l.length := List.length_pos_iff.2 hne
    rw [vals_step l hne, List.length_cons]
    rw [List.length_drop] at ih
    omega
theorem decodeL_four (l : List UInt8) : (decodeL l).2 ≤ 4 := by
  rw [decodeL_N]
  rcases decodeN_shape l.length (l.getD 0 0).toNat (l.getD 1 0).toNat (l.getD 2 0).toNat (l.getD 3 0).toNat with ⟨c, e⟩ | ⟨c1, c2, c3, cv, e⟩ | ⟨c1, c2, c3, c4, cv, cs, e⟩ | ⟨c1, c2, c3, c4, c5, cv, cw, e⟩ | e
  all_goals (rw [e]; simp)
theorem vals_four (l : List UInt8) : l.length ≤ 4 * (vals l).length := by
  induction l using rn_induct with
  | h0 => simp
  | h1 l hne ih =>
    have hw := decodeL_four l
    rw [vals_step l hne, List.length_cons]
    rw [List.length_drop] at ih
    omega
/-- What a rune's number may be. -/
def okRune (c : Nat) : Prop := c < 55296 ∨ (57344 ≤ c ∧ c ≤ 1114111)
theorem decodeL_ok (l : List UInt8) : okRune (decodeL l).1 := by
  have k0 := (l.getD 0 0).toNat_lt
  unfold okRune
  rw [decodeL_N]
  rcases decodeN_shape l.length (l.getD 0 0).toNat (l.getD 1 0).toNat (l.getD 2 0).toNat (l.getD 3 0).toNat with ⟨c, e⟩ | ⟨c1, c2, c3, cv, e⟩ | ⟨c1, c2, c3, c4, cv, cs, e⟩ | ⟨c1, c2, c3, c4, c5, cv, cw, e⟩ | e
  all_goals (rw [e]; simp only; omega)
theorem vals_ok (l : List UInt8) : ∀ c ∈ vals l, okRune c := by
  induction l using rn_induct with
  | h0 => simp [vals_nil]
  | h1 l hne ih =>
    rw [vals_step l hne]
    intro c hc
    rcases List.mem_cons.1 hc with rfl | hc
    · exact decodeL_ok l
    · exact ih c hc

/-! ### octets of runes, there and back -/
def encs (ns : List Nat) : List UInt8 := ns.flatMap fun (c : Nat) => encodeRune (c : Int)
theorem encs_cons (c : Nat) (ns : List Nat) : encs (c :: ns) = encodeRune (c : Int) ++ encs ns := by simp [encs]
theorem toByte_nat (x : Int) (_h0 : 0 ≤ x) (h1 : x < 256) : (x.toNat.toUInt8).toNat = x.toNat := by
  simp; omega
theorem decode_encode (c : Nat) (h : okRune c) (t : List UInt8) : decodeL (encodeRune (c : Int) ++ t) = (c, (encodeRune (c : Int)).length) := by
  unfold okRune at h
  rw [decodeL_N]
  unfold encodeRune
  by_cases h1 : c ≤ 127
  · rw [encodeRuneZ_one (by omega) (by omega)]
    simp only [List.map_cons, List.map_nil, List.cons_append, List.nil_append, List.getD_cons_zero, List.length_cons, List.length_nil]
    rw [toByte_nat _ (by omega) (by omega), decodeN_ascii _ _ _ _ _ (by omega)]
    simp
  · by_cases h2 : c ≤ 2047
    · rw [encodeRuneZ_two (by omega) (by omega)]
      simp only [List.map_cons, List.map_nil, List.cons_append, List.nil_append, List.getD_cons_zero, List.getD_cons_succ, List.length_cons, List.length_nil]
      rw [toByte_nat _ (by omega) (by omega), toByte_nat _ (by omega) (by omega)]
      unfold decodeN
      rw [if_neg (by omega), if_pos (by omega), if_pos (by omega)]
      congr 1
      omega
    · by_cases h3 : c ≤ 65535
      · rw [encodeRuneZ_three (by omega)]
        simp only [List.map_cons, List.map_nil, List.cons_append, List.nil_append, List.getD_cons_zero, List.getD_cons_succ, List.length_cons, List.length_nil]
        rw [toByte_nat _ (by omega) (by omega), toByte_nat _ (by omega) (by omega), toByte_nat _ (by omega) (by omega)]
        unfold decodeN
        rw [if_neg (by omega), if_neg (by omega), if_pos (by omega), if_pos (by omega)]
        congr 1
        omega
      · rw [encodeRuneZ_four (by omega) (by omega)]
        simp only [List.map_cons, List.map_nil, List.cons_append, List.nil_append, List.getD_cons_zero, List.getD_cons_succ, List.length_cons, List.length_nil]
        rw [toByte_nat _ (by omega) (by omega), toByte_nat _ (by omega) (by omega), toByte_nat _ (by omega) (by omega), toByte_nat _ (by omega) (by omega)]
        unfold decodeN
        rw [if_neg (by omega), if_neg (by omega), if_neg (by omega), if_pos (by omega), if_pos (by omega)]
        congr 1
        omega
theorem encodeRune_len (c : Int) : 1 ≤ (encodeRune c).length ∧ (encodeRune c).length ≤ 4 := by
  have := encodeRuneZ_length c
  simpa [encodeRune] using this
theorem encodeRune_ne (c : Int) (t : List UInt8) : encodeRune c ++ t ≠ [] := by
  intro e
  have h1 := congrArg List.length e
  have h2 := encodeRune_len c
  simp at h1
  simp [h1] at h2
theorem encode_good (c : Nat) : good (c, (encodeRune (c : Int)).length) = true := by
  cases h : good (c, (encodeRune (c : Int)).length) with
  | true => rfl
  | false =>
    have h2 := good_no h
    simp only [Prod.mk.injEq] at h2
    obtain ⟨rfl, h3⟩ := h2
    revert h3
    decide
theorem rn_encs (ns : List Nat) (h : ∀ c ∈ ns, okRune c) : rn (encs ns) = ns.map fun (c : Nat) => (c, (encodeRune (c : Int)).length) := by
  induction ns with
  | nil => rfl
  | cons c ns ih =>
    rw [encs_cons, rn_step _ (encodeRune_ne _ _), decode_encode c (h c (by simp)), List.drop_left, ih (fun d hd => h d (by simp [hd]))]
    simp
theorem vals_encs (ns : List Nat) (h : ∀ c ∈ ns, okRune c) : vals (encs ns) = ns := by
  unfold vals; rw [rn_encs ns h, List.map_map]; exact List.map_id ns
theorem good_encs (ns : List Nat) (h : ∀ c ∈ ns, okRune c) : (rn (encs ns)).all good = true := by
  rw [rn_encs ns h, List.all_map, List.all_eq_true]
  intro c _
  exact encode_good c
theorem encs_vals (l : List UInt8) : (rn l).all good = true → encs (vals l) = l := by
  induction l using rn_induct with
  | h0 => intro _; rfl
  | h1 l hne ih =>
    intro h
    rw [rn_step l hne, List.all_cons, Bool.and_eq_true] at h
    rw [vals_step l hne, encs_cons, ih h.2, encode_decode l hne (good_yes h.1), List.take_append_drop]
theorem encode_bytes (c : Nat) (h : okRune c) : (Utf8.encode (c : Int)).data.toList = encodeRune (c : Int) := by
  unfold okRune at h
  have hv : Utf8.valid (c : Int) = true := by
    unfold Utf8.valid; simp; omega
  unfold Utf8.encode encodeRune
  simp only [hv, if_true, Int.toNat_natCast]
  by_cases h1 : c ≤ 127
  · rw [if_pos (by omega), encodeRuneZ_one (by omega) (by omega)]; rfl
  · by_cases h2 : c ≤ 2047
    · rw [if_neg (by omega), if_pos (by omega), encodeRuneZ_two (by omega) (by omega)]; rfl
    · by_cases h3 : c ≤ 65535
      · rw [if_neg (by omega), if_neg (by omega), if_pos (by omega), encodeRuneZ_three (by omega)]; rfl
      · rw [if_neg (by omega), if_neg (by omega), if_neg (by omega), encodeRuneZ_four (by omega) (by omega)]; rfl
theorem runes_foldl (ns : List Nat) (h : ∀ c ∈ ns, okRune c) : ∀ s : ByteArray, ((ns.map fun (c : Nat) => (c : Int)).foldl (fun r n => r ++ Utf8.encode n) s).data.toList = s.data.toList ++ encs ns := by
  induction ns with
  | nil => intro s; simp [encs]
  | cons c ns ih =>
    intro s
    rw [List.map_cons, List.foldl_cons, ih (fun d hd => h d (by simp [hd])), encs_cons]
    rw [ByteArray.data_append, Array.toList_append, encode_bytes c (h c (by simp)), List.append_assoc]
theorem runesBytes_encs (ns : List Nat) (h : ∀ c ∈ ns, okRune c) : (runesBytes (ns.map fun (c : Nat) => (c : Int))).data.toList = encs ns := by
  unfold runesBytes; rw [runes_foldl ns h]; rfl
end NameP
end Go.Proofs.YtdpgfnnhbfkacaaDoor
