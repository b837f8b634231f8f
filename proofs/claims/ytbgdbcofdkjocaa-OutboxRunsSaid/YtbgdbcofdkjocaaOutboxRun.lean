/-
  What runs while entries are put with numbers one after another; nothing of the program.
-/
import Derived.Test.YtbgdbcofdkjocaaOutboxPlain
set_option linter.unusedVariables false
namespace Go.Proofs.Ytbgdbcofdkjocaa
namespace OutP

/-- After k turns, m of them done: the entries. -/
structure RunE (k m : Nat) (N : List En) : Prop where
  fit : FitE N
  top : ∀ t ∈ N, t.id ≤ (m : Int)
  le : N.length ≤ k
  few : m ≤ k
theorem runE_zero : RunE 0 0 [] := ⟨⟨by simp, by simp, List.Pairwise.nil, List.Pairwise.nil⟩, by simp, Nat.le_refl _, Nat.le_refl _⟩
theorem RunE.more {k m : Nat} {N : List En} (h : RunE k m N) : RunE (k + 1) m N := ⟨h.fit, h.top, Nat.le_succ_of_le h.le, Nat.le_succ_of_le h.few⟩
theorem RunE.last {k m : Nat} {N : List En} (h : RunE k m N) {x : En} (hx : x.id = (m : Int) + 1) : lastOk N x = true :=
  last_of fun t ht => by have := h.top t ht; omega
theorem RunE.put_not {k m : Nat} {N : List En} (h : RunE k m N) {x : En} (h1 : oneE x = false) : putE N x = ([], 1) := by
  unfold putE; rw [if_pos (fitB_iff.2 h.fit), if_neg (by rw [h1]; simp)]
theorem RunE.put_full {k m : Nat} {N : List En} (h : RunE k m N) {x : En} (hx : x.id = (m : Int) + 1) (h1 : oneE x = true) (h4 : (dropE x.saga N).length = 16) : putE N x = ([], 4) := by
  unfold putE; rw [if_pos (fitB_iff.2 h.fit), if_pos h1, if_pos (h.last hx), if_pos h4]
theorem RunE.put_is {k m : Nat} {N : List En} (h : RunE k m N) {x : En} (hx : x.id = (m : Int) + 1) (h1 : oneE x = true) (h4 : ¬ (dropE x.saga N).length = 16) : putE N x = (dropE x.saga N ++ [x], 0) := by
  unfold putE; rw [if_pos (fitB_iff.2 h.fit), if_pos h1, if_pos (h.last hx), if_neg h4]
theorem RunE.put {k m : Nat} {N : List En} (h : RunE k m N) {x : En} (hx : x.id = (m : Int) + 1) (h1 : oneE x = true) (h4 : ¬ (dropE x.saga N).length = 16) : RunE (k + 1) (m + 1) (dropE x.saga N ++ [x]) := by
  refine ⟨put_fit h.fit h1 (h.last hx) h4, fun t ht => ?_, ?_, by have := h.few; omega⟩
  · rcases List.mem_append.1 ht with ht | ht
    · have := h.top t (List.mem_filter.1 ht).1; omega
    · rw [List.mem_singleton.1 ht, hx]; omega
  · rw [List.length_append]
    have := List.length_filter_le (fun y => !(y.saga == x.saga)) N
    have := h.le
    unfold dropE
    simp
    omega
theorem drop_le (g : Int) (N : List En) : (dropE g N).length ≤ N.length := List.length_filter_le _ _
/-- Where what is let by stands. -/
theorem filt_at {p : En → Bool} {l : List En} {k : Nat} {x : En} (hk : k < l.length) (hx : l.getD k en0 = x) (h : p x = true) :
    ((l.take k).filter p).length < (l.filter p).length ∧ (l.filter p).getD ((l.take k).filter p).length en0 = x := by
  have e : l.filter p = (l.take k).filter p ++ (l.drop k).filter p := by rw [← List.filter_append, List.take_append_drop]
  have d : (l.drop k).filter p = x :: (l.drop (k + 1)).filter p := by
    rw [List.drop_eq_getElem_cons hk, List.filter_cons, show l[k] = x by rw [← hx]; simp [List.getD, hk], if_pos h]
  rw [d] at e
  refine ⟨by rw [e, List.length_append]; simp, ?_⟩
  generalize (l.take k).filter p = q at e ⊢
  rw [e]
  simp [List.getD]
end OutP
end Go.Proofs.Ytbgdbcofdkjocaa
