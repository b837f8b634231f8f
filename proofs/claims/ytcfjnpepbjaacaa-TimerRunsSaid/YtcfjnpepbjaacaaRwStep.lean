/-
  Appending one element within a region that draws its order.
-/
import Derived.Test.YtcfjnpepbjaacaaRw
set_option linter.unusedVariables false
namespace Go.Proofs.Ytcfjnpepbjaacaa.Rw
open Go.RowKit

variable {T : Type} {S : Sh T}
/-- One element more behind a row of the call's own, wherever the one stands: for a region that draws its order (go_region_held3). -/
theorem step_append_one (S : Sh T) {ops : Array Oper} {o : Oper} {ac : Act} {w : World} {K : Act → World → Prop} {Q : Exit → Act → World → Prop} {E : Prop} (hg : o.guard = none) (s x : Operand)
    (ho : o.op = .call { callee := .builtin .append, args := #[s, x], argTypes := #[S.ts, S.ts] }) (base : Nat) (v : Value) (n : Nat) (xs : List T) (k : Nat) (y : T) (hs : ac.eval s = v) (hown : w.ownsRow base S.te S.k v n (cells S xs))
    (hx : ac.eval x = .slice (some ⟨k, 0, none⟩) 1 1) (hc : ∀ j u, (S.c y)[j]? = some u → w.cell? ⟨k, j, none⟩ = some u) (hn : n ≤ 4000000) (hbase : base ≤ w.heap.size)
    (hK : ∀ v' w', w'.ownsRow base S.te S.k v' (n + 1) (cells S (xs ++ [y])) → w.grownBy w' v.ownBlock → K (ac.put o.dst v') w') :
    if Region.wanted o (yielded ops ac.tmps) = true then Oper.wp Try.prog o ac w K Q else E := by
  have hw : Region.wanted o (yielded ops ac.tmps) = true := by simp [Region.wanted, hg]
  rw [if_pos hw]
  obtain ⟨i0, hi, hz0, hz1, hz2⟩ := info_parts S.info
  refine wp_append_own w s x S.ts ho base S.te i0 S.zv S.k S.bytes S.und hi hz0 hz1 hz2 S.zcells S.pos v n (cells S xs) hs hown ⟨k, 0, none⟩ 1 1 (S.c y) hx (by rw [S.len, Nat.one_mul]) (fun j u hu => by rw [add_at, Nat.zero_add]; exact hc j u hu) (S.one y) ?_ ?_ hbase fun v' w' h1 h2 _ => hK v' w' (by rw [cells_append, cells_single]; exact h1) h2
  · unfold maxLen; omega
  · have := Nat.mul_le_mul (show n + 1 ≤ 4000001 by omega) S.small; omega
end Go.Proofs.Ytcfjnpepbjaacaa.Rw
