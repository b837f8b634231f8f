/-
  Appending within a region that draws its order: onto a part of a slice whose capacity is its length; some elements onto a row of the call's own.
-/
import Derived.Test.YtbnneibceilcjaaRw
set_option linter.unusedVariables false
namespace Go.Proofs.Ytbnneibceilcjaa.Rw
open Go.RowKit

variable {T : Type} {S : Sh T}
/-- Some elements behind a part of a slice whose capacity is its length: a new row (for go_region_held3). -/
theorem step_append_part (S : Sh T) {ops : Array Oper} {o : Oper} {ac : Act} {w : World} {K : Act → World → Prop} {Q : Exit → Act → World → Prop} {E : Prop} (hg : o.guard = none) (s x : Operand)
    (ho : o.op = .call { callee := .builtin .append, args := #[s, x], argTypes := #[S.ts, S.ts] })
    (a0 : Option Addr) (n : Nat) (xs ys : List T) (a1 : Option Addr) (l1 c1 : Nat) (hs : ac.eval s = .slice a0 n n) (hR : At S w a0 n xs) (hx : ac.eval x = .slice a1 l1 c1)
    (hI : At S w a1 l1 ys) (hpos : 0 < l1) (hn : n + l1 ≤ 4000000)
    (hK : ∀ v' w', w'.ownsRow w.heap.size S.te S.k v' (n + l1) (cells S (xs ++ ys)) → w.grownBy w' none → K (ac.put o.dst v') w') :
    if Region.wanted o (yielded ops ac.tmps) = true then Oper.wp Try.prog o ac w K Q else E := by
  have hw : Region.wanted o (yielded ops ac.tmps) = true := by simp [Region.wanted, hg]
  rw [if_pos hw]
  obtain ⟨i0, hi, hz0, hz1, hz2⟩ := info_parts S.info
  rcases hI.2.2 with h1 | ⟨b, off, rfl, _, hc⟩
  · omega
  have hnone : a0 = none → n = 0 := by
    intro e
    rcases hR.2.2 with h0 | ⟨_, _, e2, _⟩
    · exact h0
    · rw [e] at e2; cases e2
  have hold : ∀ ad, a0 = some ad → ∀ j u, (cells S xs)[j]? = some u → w.cell? (ad.add j) = some u := by
    intro ad e j u hu
    rcases hR.2.2 with h0 | ⟨b2, off2, e2, _, hc2⟩
    · have := (List.getElem?_eq_some_iff.1 hu).1
      rw [cells_len, hR.1, h0] at this
      omega
    · rw [e] at e2; cases e2
      rw [add_at]; exact hc2 j u hu
  have g1 : n + l1 ≤ maxLen := by unfold maxLen; omega
  have g2 : (n + l1) * S.bytes ≤ 140737488355328 := by have := Nat.mul_le_mul (show n + l1 ≤ 4000000 by omega) S.small; omega
  have hnl : (cells S ys).length = l1 * S.k := by rw [cells_len, hI.1]
  have hnc : ∀ j u, (cells S ys)[j]? = some u → w.cell? ((⟨b, off, none⟩ : Addr).add j) = some u := fun j u hu => by rw [add_at]; exact hc j u hu
  cases a0 with
  | some ad =>
    obtain ⟨v', w', hrun, r1, r2⟩ := run_append_arg_grows (P := Try.prog) w S.ts o.type S.te i0 S.zv S.k S.bytes S.und hi hz0 hz1 hz2 S.zcells S.pos ad n n (cells S xs) (by rw [cells_len, hR.1]) (hold ad rfl) ⟨b, off, none⟩ l1 c1 (cells S ys) hnl hnc (by omega) g1 g2
    unfold Oper.wp
    simp [execOp, ho, resolve, invoke, builtin, hs, hx, hrun, Result.andThen]
    exact hK _ _ (by rw [cells_append]; exact r1) r2
  | none =>
    have hn0 := hnone rfl
    subst hn0
    have hx0 : xs = [] := List.eq_nil_of_length_eq_zero hR.1
    subst hx0
    obtain ⟨v', w', hrun, r1, r2, _⟩ := run_append_own (P := Try.prog) w w.heap.size S.ts o.type S.te i0 S.zv S.k S.bytes S.und hi hz0 hz1 hz2 S.zcells S.pos (.slice none 0 0) 0 [] (World.ownsRow_nil w _ S.te S.k) ⟨b, off, none⟩ l1 c1 (cells S ys) hnl hnc (cells_one S ys) g1 g2 (Nat.le_refl _)
    unfold Oper.wp
    simp [execOp, ho, resolve, invoke, builtin, hs, hx, hrun, Result.andThen]
    exact hK _ _ (by simpa using r1) r2
/-- Some elements more behind a row of the call's own (for go_region_held3). -/
theorem step_append_more (S : Sh T) {ops : Array Oper} {o : Oper} {ac : Act} {w : World} {K : Act → World → Prop} {Q : Exit → Act → World → Prop} {E : Prop} (hg : o.guard = none) (s x : Operand)
    (ho : o.op = .call { callee := .builtin .append, args := #[s, x], argTypes := #[S.ts, S.ts] }) (base : Nat)
    (v : Value) (n : Nat) (xs ys : List T) (a1 : Option Addr) (l1 c1 : Nat) (hs : ac.eval s = v) (hown : w.ownsRow base S.te S.k v n (cells S xs)) (hx : ac.eval x = .slice a1 l1 c1)
    (hI : At S w a1 l1 ys) (hn : n + l1 ≤ 4000000) (hbase : base ≤ w.heap.size)
    (hK : ∀ v' w', w'.ownsRow base S.te S.k v' (n + l1) (cells S (xs ++ ys)) → w.grownBy w' v.ownBlock → K (ac.put o.dst v') w') :
    if Region.wanted o (yielded ops ac.tmps) = true then Oper.wp Try.prog o ac w K Q else E := by
  have hw : Region.wanted o (yielded ops ac.tmps) = true := by simp [Region.wanted, hg]
  rw [if_pos hw]
  obtain ⟨i0, hi, hz0, hz1, hz2⟩ := info_parts S.info
  by_cases h0 : l1 = 0
  · subst h0
    have hy : ys = [] := List.eq_nil_of_length_eq_zero hI.1
    subst hy
    obtain ⟨ad, c, rfl, hle⟩ := owns_slice hown
    have hrun := run_append_nothing (P := Try.prog) w S.ts S.ts o.type S.te i0 S.und hi ad n c hle (.slice a1 0 c1) (by
      cases a1 with
      | none => exact Src.ofNil _ S.und c1
      | some ad => exact Src.ofSlice _ S.und ad 0 c1 [] (by simp) (fun j u hu => by simp at hu) (fun u hu => by simp at hu))
    unfold Oper.wp
    simp [execOp, ho, resolve, invoke, builtin, hs, hx, hrun, Result.andThen]
    refine hK _ w ?_ ⟨rfl, rfl, rfl, Nat.le_refl _, fun _ _ _ => rfl⟩
    rw [List.append_nil]
    exact hown
  · rcases hI.2.2 with h1 | ⟨b, off, rfl, _, hc⟩
    · exact absurd h1 h0
    refine wp_append_own w s x S.ts ho base S.te i0 S.zv S.k S.bytes S.und hi hz0 hz1 hz2 S.zcells S.pos v n (cells S xs) hs hown ⟨b, off, none⟩ l1 c1 (cells S ys) hx (by rw [cells_len, hI.1]) (fun j u hu => by rw [add_at]; exact hc j u hu) (cells_one S ys) ?_ ?_ hbase fun v' w' h1 h2 _ => hK v' w' (by rw [cells_append]; exact h1) h2
    · unfold maxLen; omega
    · have := Nat.mul_le_mul (show n + l1 ≤ 4000000 by omega) S.small; omega
end Go.Proofs.Ytbnneibceilcjaa.Rw
