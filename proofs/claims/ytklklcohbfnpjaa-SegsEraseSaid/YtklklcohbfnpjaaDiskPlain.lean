/-
  Plain facts on disks of sectors: what is read, written, flushed, kept behind a crash; the shape of a disk; no program in it.
-/
set_option linter.unusedVariables false
set_option maxRecDepth 4000
namespace Go.Proofs.Ytklklcohbfnpjaa
namespace DiskP

abbrev Wr := Nat × ByteArray
structure St where
  S : List ByteArray
  W : List Wr
  left : Nat
  ops : Nat
  dead : Bool

/-- The shape of a disk: at most n operations so far, and as many pending writes at most. -/
structure Ok (n : Nat) (st : St) : Prop where
  lo : 2 ≤ st.S.length
  hi : st.S.length ≤ 512
  sec : ∀ s ∈ st.S, s.size = 128
  wat : ∀ x ∈ st.W, x.1 < st.S.length
  wsz : ∀ x ∈ st.W, x.2.size = 128
  ops : st.ops ≤ n
  wn : st.W.length ≤ n
  left : st.left ≤ 9223372036854775807
theorem Ok.mono {n m : Nat} {st : St} (h : Ok n st) (hm : n ≤ m) : Ok m st := { h with ops := Nat.le_trans h.ops hm, wn := Nat.le_trans h.wn hm }

/-- Is there no such sector? -/
def out (n : Nat) (at_ : Int) : Bool := decide (at_ < 0 ∨ (n : Int) ≤ at_)
theorem out_yes {n : Nat} {at_ : Int} (h : at_ < 0 ∨ (n : Int) ≤ at_) : out n at_ = true := decide_eq_true h
theorem out_no {n : Nat} {at_ : Int} (h : ¬ (at_ < 0 ∨ (n : Int) ≤ at_)) : out n at_ = false := decide_eq_false h
theorem of_out {n : Nat} {at_ : Int} (h : out n at_ = false) : 0 ≤ at_ ∧ at_ < (n : Int) := by
  have := of_decide_eq_false h
  omega

/-- What the last of pending writes to a sector left, over what it had. -/
def over (s : ByteArray) (W : List Wr) (k : Nat) : ByteArray := W.foldl (fun s x => if x.1 = k then x.2 else s) s
theorem over_snoc (s : ByteArray) (W : List Wr) (x : Wr) (k : Nat) : over s (W ++ [x]) k = if x.1 = k then x.2 else over s W k := by simp [over]
theorem over_append (s : ByteArray) (W V : List Wr) (k : Nat) : over s (W ++ V) k = over (over s W k) V k := by simp [over]
theorem over_none (s : ByteArray) : ∀ (W : List Wr) (k : Nat), (∀ x ∈ W, x.1 ≠ k) → over s W k = s
  | [], _, _ => rfl
  | x :: W, k, h => by
    show over (if x.1 = k then x.2 else s) W k = s
    rw [if_neg (h x (by simp))]
    exact over_none s W k (fun y hy => h y (by simp [hy]))
theorem over_take {s : ByteArray} {W : List Wr} {j : Nat} (hj : j < W.length) (k : Nat) : over s (W.take (j + 1)) k = if W[j].1 = k then W[j].2 else over s (W.take j) k := by
  rw [List.take_succ_eq_append_getElem hj, over_snoc]
theorem over_found {s : ByteArray} {W ini rest : List Wr} {x : Wr} {k : Nat} (h : W.reverse = ini ++ x :: rest) (hx : x.1 = k) (hi : ∀ y ∈ ini, y.1 ≠ k) : over s W k = x.2 := by
  have hW : W = rest.reverse ++ [x] ++ ini.reverse := by
    have := congrArg List.reverse h
    simpa using this
  rw [hW, over_append, over_snoc, if_pos hx, over_none]
  intro y hy
  exact hi y (by simpa using hy)
theorem over_size {s : ByteArray} {W : List Wr} {k : Nat} (hs : s.size = 128) (h : ∀ x ∈ W, x.2.size = 128) : (over s W k).size = 128 := by
  induction W generalizing s with
  | nil => exact hs
  | cons x W ih =>
    show (over (if x.1 = k then x.2 else s) W k).size = 128
    refine ih ?_ (fun y hy => h y (by simp [hy]))
    split
    · exact h x (by simp)
    · exact hs

/-- What Read tells. -/
def rd (st : St) (at_ : Int) : ByteArray × Int :=
  if st.dead then (ByteArray.empty, 13)
  else if out st.S.length at_ then (ByteArray.empty, 11)
  else (over (st.S.getD at_.toNat ByteArray.empty) st.W at_.toNat, 0)
/-- One operation more: is it done? -/
def opd (st : St) : Bool := if 0 < st.left then (if st.left = 1 then true else false) else st.dead
def op (st : St) : St := { st with ops := st.ops + 1, left := st.left - 1, dead := opd st }
/-- What Write does. -/
def wr (st : St) (at_ : Int) (s : ByteArray) : Int × St :=
  if st.dead then (13, st)
  else if out st.S.length at_ then (11, st)
  else if s.size ≠ 128 then (9, st)
  else if opd st then (13, op st)
  else (0, { op st with W := st.W ++ [(at_.toNat, s)] })
/-- Writes done in their order. -/
def play (S : List ByteArray) (W : List Wr) : List ByteArray := W.foldl (fun S x => S.set x.1 x.2) S
theorem play_snoc (S : List ByteArray) (W : List Wr) (x : Wr) : play S (W ++ [x]) = (play S W).set x.1 x.2 := by simp [play]
theorem play_length (S : List ByteArray) : ∀ (W : List Wr), (play S W).length = S.length := by
  intro W
  induction W generalizing S with
  | nil => rfl
  | cons x W ih => show (play (S.set x.1 x.2) W).length = _; rw [ih, List.length_set]
theorem play_take {S : List ByteArray} {W : List Wr} {j : Nat} (hj : j < W.length) : play S (W.take (j + 1)) = (play S (W.take j)).set W[j].1 W[j].2 := by
  rw [List.take_succ_eq_append_getElem hj, play_snoc]
theorem mem_set {S : List ByteArray} {k : Nat} {x s : ByteArray} (h : s ∈ S.set k x) : s ∈ S ∨ s = x := by
  rcases List.mem_or_eq_of_mem_set h with h | h
  · exact .inl h
  · exact .inr h
theorem play_size {S : List ByteArray} {W : List Wr} (hs : ∀ s ∈ S, s.size = 128) (hw : ∀ x ∈ W, x.2.size = 128) : ∀ s ∈ play S W, s.size = 128 := by
  induction W generalizing S with
  | nil => exact hs
  | cons x W ih =>
    show ∀ s ∈ play (S.set x.1 x.2) W, s.size = 128
    refine ih (fun s h => ?_) (fun y hy => hw y (by simp [hy]))
    rcases mem_set h with h | rfl
    · exact hs s h
    · exact hw x (by simp)
/-- What Flush does. -/
def fl (st : St) : Int × St :=
  if st.dead then (13, st)
  else if opd st then (13, op st)
  else (0, { op st with S := play st.S st.W, W := [] })
def fu (st : St) (n : Int) : St := { st with left := n.toNat }
/-- What a sector has behind a write that may be torn. -/
def torn (fresh old : ByteArray) (t : Int) : ByteArray := if t < 1 ∨ 128 ≤ t then fresh else fresh.extract 0 t.toNat ++ old.extract t.toNat old.size
theorem torn_size {a b : ByteArray} (ha : a.size = 128) (hb : b.size = 128) (t : Int) : (torn a b t).size = 128 := by
  unfold torn
  split
  · exact ha
  · rw [ByteArray.size_append, ByteArray.size_extract, ByteArray.size_extract]; omega
/-- The writes that are kept. -/
def kept : List Wr → List Bool → List Wr
  | x :: W, true :: k => x :: kept W k
  | _ :: W, false :: k => kept W k
  | _, _ => []
theorem kept_nil (k : List Bool) : kept [] k = [] := by cases k with | nil => rfl | cons b k => cases b <;> rfl
theorem kept_none (W : List Wr) : kept W [] = [] := by cases W <;> rfl
theorem kept_sub : ∀ (W : List Wr) (k : List Bool), ∀ x ∈ kept W k, x ∈ W
  | [], k, x, h => by rw [kept_nil] at h; exact h
  | y :: W, [], x, h => by rw [kept_none] at h; cases h
  | y :: W, true :: k, x, h => by
    rcases List.mem_cons.1 h with rfl | h
    · simp
    · exact List.mem_cons_of_mem _ (kept_sub W k x h)
  | y :: W, false :: k, x, h => List.mem_cons_of_mem _ (kept_sub W k x h)
/-- Is number i kept? -/
def keeps (k : List Bool) (i : Nat) : Bool := k.getD i false
theorem kept_drop {W : List Wr} {k : List Bool} {i : Nat} (hi : i < W.length) : kept (W.drop i) (k.drop i) = if keeps k i then W[i] :: kept (W.drop (i + 1)) (k.drop (i + 1)) else kept (W.drop (i + 1)) (k.drop (i + 1)) := by
  rw [List.drop_eq_getElem_cons hi]
  by_cases hk : i < k.length
  · rw [List.drop_eq_getElem_cons hk]
    have e : keeps k i = k[i] := by simp [keeps, List.getD, hk]
    rw [e]
    cases k[i] <;> rfl
  · rw [List.drop_eq_nil_of_le (by omega : k.length ≤ i), List.drop_eq_nil_of_le (by omega : k.length ≤ i + 1), kept_none, kept_none]
    have e : keeps k i = false := by simp [keeps, List.getD, List.getElem?_eq_none (by omega : k.length ≤ i)]
    rw [e]; rfl
theorem kept_end {W : List Wr} {k : List Bool} {i : Nat} (hi : ¬ (i < W.length ∧ i < k.length)) : kept (W.drop i) (k.drop i) = [] := by
  by_cases h : i < W.length
  · rw [List.drop_eq_nil_of_le (by omega : k.length ≤ i), kept_none]
  · rw [List.drop_eq_nil_of_le (by omega : W.length ≤ i), kept_nil]
theorem kept_all_false {k : List Bool} : ∀ (d i : Nat) (W : List Wr), W.length - i ≤ d → (∀ j, i ≤ j → j < W.length → j < k.length → keeps k j = false) → kept (W.drop i) (k.drop i) = [] := by
  intro d
  induction d with
  | zero => intro i W hd h; rw [List.drop_eq_nil_of_le (by omega : W.length ≤ i), kept_nil]
  | succ d ih =>
    intro i W hd h
    by_cases hi : i < W.length ∧ i < k.length
    · rw [kept_drop hi.1, h i (Nat.le_refl _) hi.1 hi.2, if_neg (by decide)]
      exact ih (i + 1) W (by omega) (fun j hj h1 h2 => h j (by omega) h1 h2)
    · exact kept_end hi
theorem kept_some {k : List Bool} {W : List Wr} {j : Nat} (hj : j < W.length) (hk : keeps k j = true) : ∀ (d i : Nat), j - i ≤ d → i ≤ j → kept (W.drop i) (k.drop i) ≠ [] := by
  intro d
  induction d with
  | zero => intro i hd hi; obtain rfl : i = j := by omega
            rw [kept_drop hj, hk, if_pos rfl]; simp
  | succ d ih =>
    intro i hd hi
    by_cases e : i = j
    · subst e; rw [kept_drop hj, hk, if_pos rfl]; simp
    · rw [kept_drop (by omega)]
      split
      · simp
      · exact ih (i + 1) (by omega) (by omega)
/-- The kept writes done in their order, the last one torn. -/
def crS (S : List ByteArray) (t : Int) : List Wr → List ByteArray
  | [] => S
  | [x] => S.set x.1 (torn x.2 (S.getD x.1 ByteArray.empty) t)
  | x :: y :: r => crS (S.set x.1 x.2) t (y :: r)
theorem crS_last (S : List ByteArray) (t : Int) (x : Wr) {r : List Wr} (h : r = []) : crS S t (x :: r) = S.set x.1 (torn x.2 (S.getD x.1 ByteArray.empty) t) := by subst h; rfl
theorem crS_more (S : List ByteArray) (t : Int) (x : Wr) {r : List Wr} (h : r ≠ []) : crS S t (x :: r) = crS (S.set x.1 x.2) t r := by
  cases r with
  | nil => exact absurd rfl h
  | cons y r => rfl
theorem crS_length (t : Int) : ∀ (l : List Wr) (S : List ByteArray), (crS S t l).length = S.length
  | [], _ => rfl
  | [x], S => by simp [crS]
  | x :: y :: r, S => by show (crS _ t (y :: r)).length = _; rw [crS_length t (y :: r), List.length_set]
theorem getD_mem {S : List ByteArray} {k : Nat} (h : k < S.length) : S.getD k ByteArray.empty ∈ S := by simp [List.getD, h]
theorem crS_size (t : Int) : ∀ (l : List Wr) (S : List ByteArray), (∀ s ∈ S, s.size = 128) → (∀ x ∈ l, x.1 < S.length ∧ x.2.size = 128) → ∀ s ∈ crS S t l, s.size = 128
  | [], _, hs, _ => hs
  | [x], S, hs, hx => fun s h => by
    rcases mem_set h with h | rfl
    · exact hs s h
    · exact torn_size (hx x (by simp)).2 (hs _ (getD_mem (hx x (by simp)).1)) t
  | x :: y :: r, S, hs, hx => by
    refine crS_size t (y :: r) _ (fun s h => ?_) (fun z hz => by rw [List.length_set]; exact hx z (List.mem_cons_of_mem _ hz))
    rcases mem_set h with h | rfl
    · exact hs s h
    · exact (hx x (by simp)).2
/-- What Crash does. -/
def cr (st : St) (k : List Bool) (t : Int) : St := { S := crS st.S t (kept st.W k), W := [], left := 0, ops := st.ops, dead := false }

/-! What keeps the shape. -/
theorem opd_false {st : St} (h : opd st = false) (hd : st.dead = false) : st.left = 0 ∨ 2 ≤ st.left := by
  unfold opd at h
  split at h
  · split at h
    · cases h
    · right; omega
  · left; omega
theorem op_ok {n : Nat} {st : St} (h : Ok n st) : Ok (n + 1) (op st) :=
  ⟨h.lo, h.hi, h.sec, h.wat, h.wsz, by have := h.ops; show st.ops + 1 ≤ _; omega, by have := h.wn; show st.W.length ≤ _; omega, by have := h.left; show st.left - 1 ≤ _; omega⟩
theorem wr_ok {n : Nat} {st : St} (h : Ok n st) (at_ : Int) (s : ByteArray) : Ok (n + 1) (wr st at_ s).2 := by
  have hm : Ok (n + 1) st := h.mono (by omega)
  unfold wr
  by_cases hd : st.dead = true
  · rw [if_pos hd]; exact hm
  rw [if_neg hd]
  by_cases ho : out st.S.length at_ = true
  · rw [if_pos ho]; exact hm
  rw [if_neg ho]
  by_cases hs : s.size ≠ 128
  · rw [if_pos hs]; exact hm
  rw [if_neg hs]
  have ho2 := op_ok h
  by_cases hp : opd st = true
  · rw [if_pos hp]; exact ho2
  · rw [if_neg hp]
    refine ⟨h.lo, h.hi, h.sec, ?_, ?_, ho2.ops, ?_, ho2.left⟩
    · intro x hx
      rcases List.mem_append.1 hx with hx | hx
      · exact h.wat x hx
      · obtain rfl := List.mem_singleton.1 hx
        show at_.toNat < st.S.length
        have := of_out (Bool.eq_false_iff.2 ho); omega
    · intro x hx
      rcases List.mem_append.1 hx with hx | hx
      · exact h.wsz x hx
      · obtain rfl := List.mem_singleton.1 hx
        exact Classical.not_not.1 hs
    · show (st.W ++ [(at_.toNat, s)]).length ≤ n + 1
      rw [List.length_append]
      have := h.wn
      simp; omega
theorem fl_ok {n : Nat} {st : St} (h : Ok n st) : Ok (n + 1) (fl st).2 := by
  unfold fl
  by_cases hd : st.dead = true
  · rw [if_pos hd]; exact h.mono (by omega)
  rw [if_neg hd]
  have ho2 := op_ok h
  by_cases hp : opd st = true
  · rw [if_pos hp]; exact ho2
  · rw [if_neg hp]
    refine ⟨?_, ?_, play_size h.sec h.wsz, ?_, ?_, ho2.ops, Nat.zero_le _, ho2.left⟩
    · show 2 ≤ (play st.S st.W).length; rw [play_length]; exact h.lo
    · show (play st.S st.W).length ≤ 512; rw [play_length]; exact h.hi
    · intro x hx; cases hx
    · intro x hx; cases hx
theorem fu_ok {n : Nat} {st : St} (h : Ok n st) {k : Int} (hk : k ≤ 9223372036854775807) : Ok n (fu st k) := { h with left := by show k.toNat ≤ _; omega }
theorem cr_ok {n : Nat} {st : St} (h : Ok n st) (k : List Bool) (t : Int) : Ok n (cr st k t) := by
  refine ⟨?_, ?_, crS_size t _ _ h.sec (fun x hx => ⟨h.wat x (kept_sub _ _ x hx), h.wsz x (kept_sub _ _ x hx)⟩), ?_, ?_, h.ops, Nat.zero_le _, Nat.zero_le _⟩
  · show 2 ≤ (crS _ _ _).length; rw [crS_length]; exact h.lo
  · show (crS _ _ _).length ≤ 512; rw [crS_length]; exact h.hi
  · intro x hx; cases hx
  · intro x hx; cases hx

/-! What a crash leaves of a sector. -/
theorem crS_other (t : Int) (k : Nat) : ∀ (l : List Wr) (S : List ByteArray), (∀ x ∈ l, x.1 ≠ k) → (crS S t l).getD k ByteArray.empty = S.getD k ByteArray.empty
  | [], _, _ => rfl
  | [x], S, h => by
    show (S.set x.1 _).getD k _ = _
    simp [List.getD, h x (by simp)]
  | x :: y :: r, S, h => by
    show (crS (S.set x.1 x.2) t (y :: r)).getD k _ = _
    rw [crS_other t k (y :: r) _ (fun z hz => h z (List.mem_cons_of_mem _ hz))]
    simp [List.getD, h x (by simp)]
/-- Whole: what it was, or what one of the writes to it brought. -/
def Whole (was : ByteArray) (W : List Wr) (k : Nat) (now : ByteArray) : Prop := now = was ∨ ∃ x ∈ W, x.1 = k ∧ now = x.2
/-- Begun: the first t octets are those of one of the writes to it. -/
def Begun (W : List Wr) (k : Nat) (t : Int) (now : ByteArray) : Prop := 1 ≤ t ∧ t < 128 ∧ ∃ x ∈ W, x.1 = k ∧ now.extract 0 t.toNat = x.2.extract 0 t.toNat
theorem torn_begun {a b : ByteArray} {t : Int} (ha : a.size = 128) (h : ¬ (t < 1 ∨ 128 ≤ t)) : (torn a b t).extract 0 t.toNat = a.extract 0 t.toNat := by
  unfold torn
  rw [if_neg h]
  have hz : (a.extract 0 t.toNat).size = t.toNat := by rw [ByteArray.size_extract]; omega
  apply ByteArray.ext
  rw [ByteArray.data_extract, ByteArray.data_append]
  apply Array.toList_inj.1
  rw [Array.toList_extract, Array.toList_append, List.extract_eq_take_drop, List.drop_zero, Nat.sub_zero]
  have hl : (a.extract 0 t.toNat).data.toList.length = t.toNat := by rw [Array.length_toList]; exact hz
  rw [List.take_append_of_le_length (by omega), List.take_of_length_le (by omega)]
/-- Behind a crash each sector but one is whole, and that one is whole or begun. -/
theorem crS_torn (t : Int) : ∀ (l : List Wr) (S : List ByteArray), (∀ x ∈ l, x.1 < S.length ∧ x.2.size = 128) →
    ∃ z : Nat, ∀ k, k < S.length → Whole (S.getD k ByteArray.empty) l k ((crS S t l).getD k ByteArray.empty) ∨ (k = z ∧ Begun l k t ((crS S t l).getD k ByteArray.empty))
  | [], S, _ => ⟨0, fun k hk => .inl (.inl rfl)⟩
  | [x], S, h => by
    refine ⟨x.1, fun k hk => ?_⟩
    have hx := h x (by simp)
    show Whole _ _ _ ((S.set x.1 _).getD k _) ∨ _ ∧ Begun _ _ _ ((S.set x.1 _).getD k _)
    by_cases e : x.1 = k
    · subst e
      have e2 : (S.set x.1 (torn x.2 (S.getD x.1 ByteArray.empty) t)).getD x.1 ByteArray.empty = torn x.2 (S.getD x.1 ByteArray.empty) t := by simp [List.getD, hx.1]
      rw [e2]
      by_cases ht : t < 1 ∨ 128 ≤ t
      · left; right
        exact ⟨x, by simp, rfl, by unfold torn; rw [if_pos ht]⟩
      · right
        exact ⟨rfl, by omega, by omega, x, by simp, rfl, torn_begun hx.2 ht⟩
    · left; left
      simp [List.getD, e]
  | x :: y :: r, S, h => by
    have hx := h x (by simp)
    obtain ⟨z, hz⟩ := crS_torn t (y :: r) (S.set x.1 x.2) (fun w hw => by rw [List.length_set]; exact h w (List.mem_cons_of_mem _ hw))
    refine ⟨z, fun k hk => ?_⟩
    rcases hz k (by rw [List.length_set]; exact hk) with hw | ⟨e, h1, h2, w, hw, hwk, hwe⟩
    · left
      rcases hw with hw | ⟨w, hw, hwk, hwe⟩
      · by_cases e : x.1 = k
        · right
          refine ⟨x, by simp, e, ?_⟩
          show (crS (S.set x.1 x.2) t (y :: r)).getD k _ = _
          rw [hw]
          subst e
          simp [List.getD, hx.1]
        · left
          show (crS (S.set x.1 x.2) t (y :: r)).getD k _ = _
          rw [hw]
          simp [List.getD, e]
      · right
        exact ⟨w, List.mem_cons_of_mem _ hw, hwk, hwe⟩
    · right
      exact ⟨e, h1, h2, w, List.mem_cons_of_mem _ hw, hwk, hwe⟩
theorem kept_torn {W : List Wr} {k : List Bool} {j : Nat} {was now : ByteArray} (h : Whole was (kept W k) j now) : Whole was W j now := by
  rcases h with h | ⟨x, hx, h⟩
  · exact .inl h
  · exact .inr ⟨x, kept_sub _ _ x hx, h⟩
theorem kept_begun {W : List Wr} {k : List Bool} {j : Nat} {t : Int} {now : ByteArray} (h : Begun (kept W k) j t now) : Begun W j t now := by
  obtain ⟨h1, h2, x, hx, h⟩ := h
  exact ⟨h1, h2, x, kept_sub _ _ x hx, h⟩

/-! New disks; octets. -/
def fill (c : UInt8) (n : Nat) : ByteArray := ⟨(List.replicate n c).toArray⟩
theorem fill_size (c : UInt8) (n : Nat) : (fill c n).size = n := by simp [fill, ByteArray.size]
def blank : ByteArray := fill 0 128
def fresh (S : List ByteArray) : St := { S, W := [], left := 0, ops := 0, dead := false }
theorem fresh_ok {S : List ByteArray} (h1 : 2 ≤ S.length) (h2 : S.length ≤ 512) (h3 : ∀ s ∈ S, s.size = 128) : Ok 0 (fresh S) :=
  ⟨h1, h2, h3, fun x hx => (by cases hx), fun x hx => (by cases hx), Nat.le_refl _, Nat.le_refl _, Nat.zero_le _⟩
end DiskP
end Go.Proofs.Ytklklcohbfnpjaa
