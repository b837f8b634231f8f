/-
  What runs while timers are set and dropped, and how they come out; nothing of the program.
-/
import Derived.Test.YtcfjnpepbjaacaaTimerFit
set_option linter.unusedVariables false
namespace Go.Proofs.Ytcfjnpepbjaacaa
namespace TimerP

/-- After k turns: the timers, and those beside them in the order in which they were set. -/
structure RunP (k : Nat) (N M : List Tm) : Prop where
  fit : FitT N
  perm : N.Perm M
  le : N.length ≤ k
theorem runP_zero : RunP 0 [] [] := ⟨⟨by simp, by simp, List.Pairwise.nil, List.Pairwise.nil⟩, List.Perm.refl _, Nat.le_refl _⟩
theorem RunP.len {k : Nat} {N M : List Tm} (h : RunP k N M) : N.length = M.length := h.perm.length_eq
theorem RunP.more {k : Nat} {N M : List Tm} (h : RunP k N M) : RunP (k + 1) N M := ⟨h.fit, h.perm, Nat.le_succ_of_le h.le⟩
theorem RunP.drop {k : Nat} {N M : List Tm} (h : RunP k N M) (g q : Int) : RunP (k + 1) (dropT g q N) (dropT g q M) :=
  ⟨drop_fitT g q h.fit, drop_perm g q h.perm, by have := List.length_filter_le (leftB g q) N; have := h.le; unfold dropT; omega⟩
theorem RunP.short {k : Nat} {N M : List Tm} (h : RunP k N M) (hk : k ≤ 40) (g q : Int) : (dropT g q N).length ≠ 64 := by
  have := List.length_filter_le (leftB g q) N; have := h.le; unfold dropT; omega
theorem RunP.set {k : Nat} {N M : List Tm} {t : Tm} (h : RunP k N M) (hk : k ≤ 40) (ht : oneT t = true) : RunP (k + 1) (insT t (dropT t.saga t.kind N)) (dropT t.saga t.kind M ++ [t]) :=
  ⟨set_fitT h.fit ht (h.short hk _ _), set_perm t h.perm, by
    rw [(ins_perm t _).length_eq, List.length_cons]
    have := List.length_filter_le (leftB t.saga t.kind) N; have := h.le; unfold dropT; omega⟩
theorem RunP.set_is {k : Nat} {N M : List Tm} {t : Tm} (h : RunP k N M) (hk : k ≤ 40) (ht : oneT t = true) : setT N t = (insT t (dropT t.saga t.kind N), 0) := by
  unfold setT; rw [if_pos (fitB_iff.2 h.fit), if_pos ht, if_neg (h.short hk _ _)]
theorem RunP.set_not {k : Nat} {N M : List Tm} {t : Tm} (h : RunP k N M) (ht : oneT t = false) : setT N t = ([], 1) := by
  unfold setT; rw [if_pos (fitB_iff.2 h.fit), if_neg (by rw [ht]; simp)]
theorem fit_drop {l : List Tm} (h : FitT l) (k : Nat) : FitT (l.drop k) :=
  ⟨by rw [List.length_drop]; have := h.len; omega, fun t ht => h.one t (List.mem_of_mem_drop ht), h.up.sublist (List.drop_sublist _ _), h.keys.sublist (List.drop_sublist _ _)⟩
/-- The one that comes out. -/
theorem out_split {N : List Tm} {n j : Nat} (hn : N.length = n) (hj : 0 < j) (hjn : j ≤ n) : N.drop (n - j) = N.getD (n - j) tm0 :: N.drop (n - (j - 1)) := by
  have h : n - j < N.length := by omega
  rw [List.drop_eq_getElem_cons h, show n - (j - 1) = n - j + 1 by omega]
  simp [List.getD, h]
theorem out_mem {N : List Tm} {n j : Nat} (hn : N.length = n) (hj : 0 < j) (hjn : j ≤ n) : N.getD (n - j) tm0 ∈ N := by
  have h : n - j < N.length := by omega
  rw [show N.getD (n - j) tm0 = N[n - j] by simp [List.getD, h]]; exact List.getElem_mem h
theorem out_first {t : Tm} {r : List Tm} (h : oneT t = true) : firstT 1099511627776 (t :: r) = some t := by
  rw [firstT, if_neg (by have := one_at h; omega)]
theorem out_found {k : Nat} {N M : List Tm} {t : Tm} (h : RunP k N M) (ht : t ∈ N) : findT t.saga t.kind M = some t :=
  findT_at (keys_perm h.perm h.fit.keys) (h.perm.mem_iff.1 ht)
theorem out_ahead {N : List Tm} {n j : Nat} (h : FitT N) (hn : N.length = n) (hj : 0 < j) (hjn : j < n) : aheadB (N.getD (n - j - 1) tm0) (N.getD (n - j) tm0) = true := by
  have h1 : n - j - 1 < N.length := by omega
  have h2 : n - j < N.length := by omega
  rw [show N.getD (n - j - 1) tm0 = N[n - j - 1] by simp [List.getD, h1], show N.getD (n - j) tm0 = N[n - j] by simp [List.getD, h2], ahead_iff]
  exact List.pairwise_iff_getElem.1 h.up _ _ h1 h2 (by omega)
end TimerP
end Go.Proofs.Ytcfjnpepbjaacaa
