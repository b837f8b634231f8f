/-
  The contract of the document's Fit: any entries; what was there stays as it was.
-/
import Derived.Test.YtamcidlkbhanfaaOutboxB
set_option linter.unusedVariables false
set_option linter.unusedSimpArgs false
set_option maxRecDepth 4000
set_option maxRecDepth 4000
namespace Go.Proofs.Ytamcidlkbhanfaa.Outbox
open Go.RowKit OutP
open Go.Proofs.Ytamcidlkbhanfaa.Kt

theorem getD_at {l : List En} {k : Nat} {x : En} (hk : k < l.length) (hx : l.getD k en0 = x) : l[k] = x := by rw [← hx]; simp [List.getD, hk]
theorem fit_go {l : List En} {k : Nat} {x : En} (hk : k < l.length) (hx : l.getD k en0 = x) : fitUp (l.take k) (l.drop k) = (okE (l.take k) x && fitUp (l.take (k + 1)) (l.drop (k + 1))) := by
  rw [fitUp_step hk, getD_at hk hx]
theorem fit_one {l : List En} {k : Nat} {x : En} (hk : k < l.length) (hx : l.getD k en0 = x) (h : oneE x = false) : fitUp (l.take k) (l.drop k) = false := by
  rw [fit_go hk hx, okE, h]; rfl
theorem fit_last {l : List En} {k : Nat} {x y : En} (hk : k < l.length) (hx : l.getD k en0 = x) (h0 : 0 < k) (hy : l.getD (k - 1) en0 = y) (h : ¬ y.id < x.id) : fitUp (l.take k) (l.drop k) = false := by
  have := lastOk_at hk h0
  rw [getD_at hk hx, getD_at (by omega) hy, decide_eq_false h] at this
  rw [fit_go hk hx, okE, this]; simp
theorem last_yes {l : List En} {k : Nat} {x y : En} (hk : k < l.length) (hx : l.getD k en0 = x) (h0 : 0 < k) (hy : l.getD (k - 1) en0 = y) (h : y.id < x.id) : lastOk (l.take k) x = true := by
  have := lastOk_at hk h0
  rw [getD_at hk hx, getD_at (by omega) hy, decide_eq_true h] at this
  exact this
theorem all_find (g : Int) : ∀ p : List En, (p.all fun y => !(y.saga == g)) = !(findE g p).isSome
  | [] => rfl
  | y :: r => by
    rw [List.all_cons, findE, all_find g r]
    by_cases h : y.saga = g <;> simp [h]
theorem fit_twice {l : List En} {k : Nat} {x : En} (hk : k < l.length) (hx : l.getD k en0 = x) (h : (findE x.saga (l.take k)).isSome = true) : fitUp (l.take k) (l.drop k) = false := by
  rw [fit_go hk hx, okE, all_find, h]; simp
theorem fit_next {l : List En} {k : Nat} {x : En} (hk : k < l.length) (hx : l.getD k en0 = x) (h1 : oneE x = true) (h2 : lastOk (l.take k) x = true) (h3 : (findE x.saga (l.take k)).isSome = false) :
    fitUp (l.take k) (l.drop k) = fitUp (l.take (k + 1)) (l.drop (k + 1)) := by
  rw [fit_go hk hx, okE, all_find, h1, h2, h3]; rfl
theorem fit_done {l : List En} {k : Nat} (hk : ¬ k < l.length) : fitUp (l.take k) (l.drop k) = true := by
  rw [List.drop_eq_nil_of_le (by omega)]; rfl
theorem fitB_long {l : List En} (h : 16 < l.length) : fitB l = false := by unfold fitB; rw [decide_eq_false (by omega)]; rfl
theorem fitB_short {l : List En} (h : ¬ 16 < l.length) : fitB l = fitUp (l.take 0) (l.drop 0) := by unfold fitB; rw [decide_eq_true (by omega : l.length ≤ 16)]; simp
theorem findE_some {g : Int} : ∀ {p : List En} {y : En}, y ∈ p → y.saga = g → (findE g p).isSome = true
  | z :: r, y, hy, hk => by
    rw [findE]
    split
    · rfl
    · rename_i hz
      rcases List.mem_cons.1 hy with rfl | hy
      · exact absurd hk hz
      · exact findE_some hy hk
theorem findE_append {g : Int} : ∀ {p : List En} {y : En}, findE g p = none → ¬ y.saga = g → findE g (p ++ [y]) = none
  | [], y, _, hk => by show findE g [y] = none; rw [findE, if_neg hk]; rfl
  | z :: r, y, h, hk => by
    rw [findE] at h
    split at h
    · cases h
    · rename_i hz
      show findE g (z :: (r ++ [y])) = none
      rw [findE, if_neg hz]
      exact findE_append h hk
theorem twice_at {l : List En} {k m : Nat} {y : En} {g : Int} (hm : m < k) (hk : k < l.length) (hy : l.getD m en0 = y) (h : y.saga = g) : (findE g (l.take k)).isSome = true := by
  refine findE_some (y := y) ?_ h
  rw [← hy, show l.getD m en0 = l[m]'(by omega) by simp [List.getD, (by omega : m < l.length)]]
  exact List.mem_take_iff_getElem.2 ⟨m, by omega, rfl⟩
theorem none_at {l : List En} {m : Nat} {y : En} {g : Int} (hm : m < l.length) (hy : l.getD m en0 = y) (h : findE g (l.take m) = none) (hk : ¬ y.saga = g) : findE g (l.take (m + 1)) = none := by
  rw [Rw.take_snoc hm hy]; exact findE_append h hk

end Go.Proofs.Ytamcidlkbhanfaa.Outbox
