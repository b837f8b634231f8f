/-
  Sectors erased, without a program: what Erase does to a disk; what is erased is blank, nothing else is turned.
-/
import Derived.Test.YtklklcohbfnpjaaDiskPlain
set_option linter.unusedVariables false
namespace Go.Proofs.Ytklklcohbfnpjaa
namespace SegsP
open DiskP

/-- What Erase does, once some sector was found (or not yet). -/
def er (st : St) (found : Bool) : List Int → Int × St
  | [] => if found then fl st else (0, st)
  | k :: l => if (rd st k).2 ≠ 0 then ((rd st k).2, st)
      else if (rd st k).1 = blank then er st found l
      else if (wr st k blank).1 ≠ 0 then ((wr st k blank).1, (wr st k blank).2)
      else er (wr st k blank).2 true l
theorem er_bad {st : St} {f : Bool} {k : Int} {l : List Int} (h : (rd st k).2 ≠ 0) : er st f (k :: l) = ((rd st k).2, st) := by unfold er; rw [if_pos h]
theorem er_skip {st : St} {f : Bool} {k : Int} {l : List Int} (h : (rd st k).2 = 0) (h2 : (rd st k).1 = blank) : er st f (k :: l) = er st f l := by
  rw [er, if_neg (by omega), if_pos h2]
theorem er_stop {st : St} {f : Bool} {k : Int} {l : List Int} (h : (rd st k).2 = 0) (h2 : (rd st k).1 ≠ blank) (h3 : (wr st k blank).1 ≠ 0) : er st f (k :: l) = wr st k blank := by
  rw [er, if_neg (by omega), if_neg h2, if_pos h3]
theorem er_step {st : St} {f : Bool} {k : Int} {l : List Int} (h : (rd st k).2 = 0) (h2 : (rd st k).1 ≠ blank) (h3 : (wr st k blank).1 = 0) : er st f (k :: l) = er (wr st k blank).2 true l := by
  rw [er, if_neg (by omega), if_neg h2, if_neg (by omega)]

theorem rd_yes {st : St} {k : Int} (h : (rd st k).2 = 0) : st.dead = false ∧ out st.S.length k = false := by
  unfold rd at h
  cases hd : st.dead with
  | true => rw [hd, if_pos rfl] at h; exact absurd (show (13 : Int) = 0 from h) (by decide)
  | false =>
    rw [hd, if_neg (by decide)] at h
    cases ho : out st.S.length k with
    | true => rw [ho, if_pos rfl] at h; exact absurd (show (11 : Int) = 0 from h) (by decide)
    | false => exact ⟨rfl, rfl⟩
theorem rd_is {st : St} {i : Nat} (hd : st.dead = false) (hi : i < st.S.length) : rd st (i : Int) = (over (st.S.getD i ByteArray.empty) st.W i, 0) := by
  unfold rd
  rw [hd, if_neg (by decide), out_no (by omega), if_neg (by decide)]
  simp
theorem wr_yes {st : St} {k : Int} {s : ByteArray} (hd : st.dead = false) (ho : out st.S.length k = false) (hs : s.size = 128) (h : (wr st k s).1 = 0) :
    opd st = false ∧ (wr st k s).2 = { op st with W := st.W ++ [(k.toNat, s)] } := by
  have hs' : ¬ s.size ≠ 128 := by omega
  unfold wr at h ⊢
  rw [hd, if_neg (by decide), ho, if_neg (by decide), if_neg hs'] at h ⊢
  cases hp : opd st with
  | true => rw [hp, if_pos rfl] at h; exact absurd (show (13 : Int) = 0 from h) (by decide)
  | false => exact ⟨rfl, rfl⟩
theorem fl_yes {st : St} (hd : st.dead = false) (h : (fl st).1 = 0) : opd st = false ∧ (fl st).2 = { op st with S := play st.S st.W, W := [] } := by
  unfold fl at h ⊢
  rw [hd, if_neg (by decide)] at h ⊢
  cases hp : opd st with
  | true => rw [hp, if_pos rfl] at h; exact absurd (show (13 : Int) = 0 from h) (by decide)
  | false => exact ⟨rfl, rfl⟩
theorem play_over (i : Nat) : ∀ (W : List Wr) (S : List ByteArray), i < S.length → (play S W).getD i ByteArray.empty = over (S.getD i ByteArray.empty) W i
  | [], _, _ => rfl
  | x :: W, S, h => by
    show (play (S.set x.1 x.2) W).getD i _ = over (if x.1 = i then x.2 else S.getD i _) W i
    rw [play_over i W _ (by rw [List.length_set]; exact h)]
    congr 1
    by_cases e : x.1 = i
    · subst e; simp [List.getD, h]
    · rw [if_neg e]; simp [List.getD, e]
/-- What is erased is blank, and nothing else is turned. -/
theorem er_sure : ∀ (l : List Int) (st : St) (f : Bool), st.dead = false → (er st f l).1 = 0 →
    (er st f l).2.S.length = st.S.length ∧ ∀ i : Nat, i < st.S.length → rd (er st f l).2 (i : Int) = (if (i : Int) ∈ l then blank else (rd st (i : Int)).1, 0)
  | [], st, f, hd, h => by
    cases f with
    | false =>
      refine ⟨rfl, fun i hi => ?_⟩
      show rd st (i : Int) = _
      rw [rd_is hd hi]; simp
    | true =>
      have e : er st true [] = fl st := rfl
      rw [e] at h ⊢
      obtain ⟨h1, h2⟩ := fl_yes hd h
      rw [h2]
      refine ⟨play_length _ _, fun i hi => ?_⟩
      have hd2 : ({ op st with S := play st.S st.W, W := [] } : St).dead = false := h1
      rw [rd_is hd2 (by show i < (play st.S st.W).length; rw [play_length]; exact hi), rd_is hd hi]
      show (over ((play st.S st.W).getD i _) [] i, (0 : Int)) = _
      rw [play_over i _ _ hi]
      simp [over]
  | k :: l, st, f, hd, h => by
    by_cases h1 : (rd st k).2 = 0
    · obtain ⟨_, ho⟩ := rd_yes h1
      have hk := of_out ho
      by_cases h2 : (rd st k).1 = blank
      · rw [er_skip h1 h2] at h ⊢
        obtain ⟨i1, i2⟩ := er_sure l st f hd h
        refine ⟨i1, fun i hi => ?_⟩
        rw [i2 i hi]
        by_cases e : (i : Int) = k
        · subst e
          by_cases m : (i : Int) ∈ l
          · simp [m]
          · rw [if_neg m, if_pos (by simp), h2]
        · by_cases m : (i : Int) ∈ l
          · simp [m]
          · rw [if_neg m, if_neg (by simp [e, m])]
      · by_cases h3 : (wr st k blank).1 = 0
        · rw [er_step h1 h2 h3] at h ⊢
          obtain ⟨p1, p2⟩ := wr_yes (s := blank) hd ho (fill_size 0 128) h3
          have hd2 : (wr st k blank).2.dead = false := by rw [p2]; exact p1
          have hl2 : (wr st k blank).2.S.length = st.S.length := by rw [p2]; rfl
          obtain ⟨i1, i2⟩ := er_sure l (wr st k blank).2 true hd2 h
          refine ⟨i1.trans hl2, fun i hi => ?_⟩
          rw [i2 i (by rw [hl2]; exact hi), rd_is hd2 (by rw [hl2]; exact hi), rd_is hd hi, p2]
          show (if (i : Int) ∈ l then blank else over (st.S.getD i _) (st.W ++ [(k.toNat, blank)]) i, (0 : Int)) = _
          rw [over_snoc]
          by_cases e : (i : Int) = k
          · subst e; simp
          · have e2 : ¬ k.toNat = i := by omega
            rw [if_neg e2]
            by_cases m : (i : Int) ∈ l
            · simp [m]
            · rw [if_neg m, if_neg (by simp [e, m])]
        · rw [er_stop h1 h2 h3] at h; exact absurd h h3
    · rw [er_bad h1] at h; exact absurd h h1
theorem er_ok : ∀ (l : List Int) (st : St) (f : Bool) (n : Nat), Ok n st → Ok (n + l.length + 1) (er st f l).2
  | [], st, f, n, h => by
    cases f with
    | false => exact h.mono (by simp)
    | true => exact (fl_ok h).mono (by simp)
  | k :: l, st, f, n, h => by
    by_cases h1 : (rd st k).2 = 0
    · by_cases h2 : (rd st k).1 = blank
      · rw [er_skip h1 h2]; exact (er_ok l st f n h).mono (by simp)
      · by_cases h3 : (wr st k blank).1 = 0
        · rw [er_step h1 h2 h3]; exact (er_ok l _ true (n + 1) (wr_ok h _ _)).mono (by simp; omega)
        · rw [er_stop h1 h2 h3]; exact (wr_ok h _ _).mono (by simp)
    · rw [er_bad h1]; exact h.mono (by simp; omega)
/-- A disk that does not stand still, and is not to. -/
def Unfused (st : St) : Prop := st.left = 0 ∧ st.dead = false
theorem calm_opd {st : St} (h : Unfused st) : opd st = false := by unfold opd; rw [h.1, if_neg (by omega)]; exact h.2
theorem calm_op {st : St} (h : Unfused st) : Unfused (op st) := ⟨by show st.left - 1 = 0; rw [h.1], calm_opd h⟩
theorem calm_wr {st : St} (h : Unfused st) (k : Int) (s : ByteArray) : Unfused (wr st k s).2 := by
  unfold wr
  rw [h.2, if_neg (by decide)]
  split
  · exact h
  split
  · exact h
  rw [calm_opd h, if_neg (by decide)]
  exact ⟨(calm_op h).1, (calm_op h).2⟩
theorem calm_fl {st : St} (h : Unfused st) : Unfused (fl st).2 := by
  unfold fl
  rw [h.2, if_neg (by decide), calm_opd h, if_neg (by decide)]
  exact ⟨(calm_op h).1, (calm_op h).2⟩
theorem wr_len (st : St) (k : Int) (s : ByteArray) : (wr st k s).2.S.length = st.S.length := by
  unfold wr
  split
  · rfl
  split
  · rfl
  split
  · rfl
  split <;> rfl
theorem fl_len (st : St) : (fl st).2.S.length = st.S.length := by
  unfold fl
  split
  · rfl
  split
  · rfl
  · exact play_length _ _
theorem rd_fu (st : St) (n k : Int) : rd (fu st n) k = rd st k := rfl
theorem er_len : ∀ (l : List Int) (st : St) (f : Bool), (er st f l).2.S.length = st.S.length
  | [], st, f => by
    cases f with
    | false => rfl
    | true => exact fl_len st
  | k :: l, st, f => by
    by_cases h1 : (rd st k).2 = 0
    · by_cases h2 : (rd st k).1 = blank
      · rw [er_skip h1 h2]; exact er_len l st f
      · by_cases h3 : (wr st k blank).1 = 0
        · rw [er_step h1 h2 h3]; exact (er_len l _ true).trans (wr_len _ _ _)
        · rw [er_stop h1 h2 h3]; exact wr_len _ _ _
    · rw [er_bad h1]
end SegsP
end Go.Proofs.Ytklklcohbfnpjaa
