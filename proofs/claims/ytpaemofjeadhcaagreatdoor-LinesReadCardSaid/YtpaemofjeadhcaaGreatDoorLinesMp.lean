/-
  Plain facts of the map of sums: what it holds of lines, one line more, and what its sorted keys come to.
-/
import Derived.Test.YtpaemofjeadhcaaGreatDoorLinesNp
import Derived.Maps.OwnSet
import Derived.Maps.RangeWalk
import Derived.Sort.KeysCollected
set_option linter.unusedVariables false
namespace Go.Proofs.YtpaemofjeadhcaaGreatDoor
namespace LinesP
open Go.Maps

def lz (n : Int) : DataW Unit := .lit (.int .i64 n)
/-- A map that holds the sums of lines. -/
structure DR (D : DataW Unit) (l : List Ln) : Prop where
  there : ∀ k, Maps.has D (.string k) = true ↔ inK k l
  sum : ∀ k z, inK k l → D.atKey (.string k) z = lz (sumK k l)
theorem dr_start : DR (.map []) [] := ⟨fun k => by simp [Maps.has, inK], fun k z h => by obtain ⟨x, hx, _⟩ := h; cases hx⟩
theorem DR.old {D : DataW Unit} {l : List Ln} (h : DR D l) {k : List UInt8} {c : Int} (hc : D.atKey (.string k) (.lit (.int .i64 0)) = .lit (.int .i64 c)) : c = sumK k l := by
  cases hh : Maps.has D (.string k) with
  | true =>
    rw [h.sum k _ ((h.there k).1 hh)] at hc
    unfold lz at hc
    cases hc; rfl
  | false =>
    have hn : ¬ inK k l := fun hk => by rw [(h.there k).2 hk] at hh; cases hh
    rw [atKey_of_not_has hh] at hc
    rw [sumK_none hn]
    cases hc; rfl
theorem DR.step {D : DataW Unit} {l : List Ln} (h : DR D l) (hm : IsMap D) (x : Ln) {c : Int} (hc : c = sumK (fo x.1) l) : DR (D.put (.string (fo x.1)) (.lit (.int .i64 (c + x.2)))) (l ++ [x]) := by
  refine ⟨fun k => ?_, fun k z hk => ?_⟩
  · rw [inK_snoc]
    by_cases e : fo x.1 = k
    · subst e
      rw [has_put_same hm (show WideAt.IsKeyLit (.string (fo x.1)) from trivial)]
      simp
    · rw [has_put_other (fun e2 => e (by cases e2; rfl)), h.there]
      exact ⟨.inl, fun hh => hh.resolve_right e⟩
  · rw [sumK_snoc]
    by_cases e : fo x.1 = k
    · subst e
      rw [atKey_put_same hm (show WideAt.IsKeyLit (.string (fo x.1)) from trivial), if_pos rfl, hc]; rfl
    · rw [atKey_put_other (fun e2 => e (by cases e2; rfl)), if_neg e, Int.add_zero]
      exact h.sum k z ((inK_snoc.1 hk).resolve_right e)
/-- A map's keys as they are: texts, no two the same. -/
def Texts (D : DataW Unit) : Prop := ∃ es : List (Lit × DataW Unit), D = .map es ∧ es.Pairwise (fun p q => p.1 ≠ q.1) ∧ ∀ p ∈ es, ∃ x, p.1 = .string x
theorem texts_of {P : Program} {k : TypeId} {R : Value → Option (DataW Unit × List MemPlace)} {w : World} {b n : Nat} {D : DataW Unit} (h : w.ownsMap P k R b n D) (K : Keyed P k) (hk : P.underlying k = some .string) : Texts D := by
  obtain ⟨es, e1, h1, _⟩ := h.entries K
  obtain ⟨es', e2, h2⟩ := h.keysOf
  have : es = es' := by rw [e1] at e2; cases e2; rfl
  subst this
  refine ⟨es, e1, h1, fun p hp => ?_⟩
  obtain ⟨v, hv⟩ := h2 p hp
  obtain ⟨x, _, hx, _⟩ := Maps.keyOf_str hk hv
  exact ⟨x, hx⟩
theorem keys_of {D : DataW Unit} {l : List Ln} (h : DR D l) (hT : Texts D) {ss : List (List UInt8)} (hp : ss.Perm (strKeys D)) : ss.Nodup ∧ ∀ k, k ∈ ss ↔ inK k l := by
  obtain ⟨es, rfl, h1, h2⟩ := hT
  have hnd : (strKeys (.map es)).Nodup := by
    show (es.map fun p => strOf p.1).Nodup
    refine List.pairwise_map.2 (h1.imp_of_mem fun {p q} hp' hq' hne e => hne ?_)
    obtain ⟨a, ha⟩ := h2 p hp'
    obtain ⟨b, hb⟩ := h2 q hq'
    rw [ha, hb] at e ⊢
    exact congrArg _ e
  refine ⟨(hp.nodup_iff).2 hnd, fun k => ?_⟩
  rw [hp.mem_iff, ← h.there, has_eq, List.any_eq_true]
  show k ∈ (es.map fun p => strOf p.1) ↔ _
  rw [List.mem_map]
  constructor
  · rintro ⟨p, hp', rfl⟩
    obtain ⟨a, ha⟩ := h2 p hp'
    exact ⟨p, hp', by rw [ha]; simp [Lit.sameKey, strOf]⟩
  · rintro ⟨p, hp', hs⟩
    obtain ⟨a, ha⟩ := h2 p hp'
    rw [ha] at hs
    exact ⟨p, hp', by rw [ha]; simpa [Lit.sameKey, strOf] using hs⟩
theorem lt_of_le_ne {x y : List UInt8} (h : x ≤ y) (hne : x ≠ y) : x < y := by
  rcases Decidable.em (x < y) with k | k
  · exact k
  · exact absurd (List.le_antisymm h (List.not_lt.1 k)) hne
theorem sorted_up {ss : List (List UInt8)} (h : ss.Nodup) : (ss.mergeSort fun x y => decide (x ≤ y)).Pairwise (fun x y => x < y) := by
  have tr : ∀ a b c : List UInt8, decide (a ≤ b) = true → decide (b ≤ c) = true → decide (a ≤ c) = true := fun a b c h1 h2 => by simp only [decide_eq_true_eq] at *; exact List.le_trans h1 h2
  have to : ∀ a b : List UInt8, (decide (a ≤ b) || decide (b ≤ a)) = true := fun a b => by simp only [Bool.or_eq_true, decide_eq_true_eq]; exact List.le_total a b
  have h1 := List.pairwise_mergeSort (le := fun x y : List UInt8 => decide (x ≤ y)) tr to ss
  have h2 : (ss.mergeSort fun x y => decide (x ≤ y)).Nodup := (List.mergeSort_perm ss _).nodup_iff.2 h
  exact h1.imp₂ (fun a b hab hne => lt_of_le_ne (by simpa using hab) hne) h2
/-- What is read off the sorted keys are the lines merged. -/
theorem merged_of {D : DataW Unit} {l : List Ln} (h : DR D l) (hT : Texts D) {ss : List (List UInt8)} (hp : ss.Perm (strKeys D)) : merged l = (ss.mergeSort fun x y => decide (x ≤ y)).map fun k => (bk k, sumK k l) := by
  have hk := keys_of h hT hp
  refine merged_is (sums_of_keys (sorted_up hk.1) (fun k => ?_))
  rw [(List.mergeSort_perm ss _).mem_iff]; exact hk.2 k
theorem size_of {D : DataW Unit} {l : List Ln} (h : DR D l) (hT : Texts D) : Maps.size D = (merged l).length := by
  rw [merged_of h hT (List.Perm.refl _)]
  obtain ⟨es, rfl, _⟩ := hT
  rw [List.length_map, List.length_mergeSort]
  simp [Maps.size, strKeys]
theorem merged_len (l : List Ln) : (merged l).length ≤ l.length := by
  have hl : ∀ (x : Ln) (a : List Ln), (ins x a).length ≤ a.length + 1 := by
    intro x a
    induction a with
    | nil => simp [ins]
    | cons y r ih =>
      rw [ins]
      split
      · simp
      · split
        · simp
        · simp only [List.length_cons]; omega
  have hm : ∀ (r acc : List Ln), (mrg acc r).length ≤ acc.length + r.length := by
    intro r
    induction r with
    | nil => intro acc; simp [mrg]
    | cons x r ih =>
      intro acc
      rw [mrg]
      have h1 := ih (ins (bk (fo x.1), x.2) acc)
      have h2 := hl (bk (fo x.1), x.2) acc
      simp only [List.length_cons]; omega
  have := hm l []
  simpa [merged] using this
/-- No sum is above the limit. -/
theorem over_none {l : List Ln} (h : ∀ k, inK k l → sumK k l ≤ 1048576) : over (merged l) = false := by
  unfold over; rw [List.any_eq_false]
  intro x hx
  have := h (key x) (((merged_sums l).keys _).1 ⟨x, hx, rfl⟩)
  rw [← (merged_sums l).sums x hx] at this
  simp; omega
theorem over_some {l : List Ln} {k : List UInt8} (h : inK k l) (hs : 1048576 < sumK k l) : over (merged l) = true := by
  unfold over; rw [List.any_eq_true]
  obtain ⟨x, hx, e⟩ := ((merged_sums l).keys k).2 h
  refine ⟨x, hx, ?_⟩
  rw [(merged_sums l).sums x hx, e]
  simpa using hs
end LinesP
end Go.Proofs.YtpaemofjeadhcaaGreatDoor
