/-
  Appending to a slice of a defined type ('type words []string'): the types of both slices differ, their elements do not; strings as elements.
-/
import Derived.Test.YtcdinaoenhonbaaDoorRw
set_option linter.unusedVariables false
namespace Go.Proofs.YtcdinaoenhonbaaDoor.Rw
open Go.RowKit

variable {T : Type} {S : Sh T}
/-- append asks of its second type only whether it is a number's. -/
theorem append_named {P : Program} {t u ty e e2 : TypeId} (ht : P.underlying t = some (.slice e)) (hu : P.underlying u = some (.slice e2)) (v x : Value) (w : World) :
    (Builtin.append_ #[t, u] ty #[v, x]).run P w = (Builtin.append_ #[t, t] ty #[v, x]).run P w := by
  cases v <;> simp [Builtin.append_, run_underlying ht, run_underlying hu]
/-- Some elements more behind a row of the call's own that is of a defined type. -/
theorem append_moreN (S : Sh T) {ops : Array Oper} {rest : List Oper} {o : Oper} {a : Act} {Q : Exit → Act → World → Prop} {w : World} (hgd : o.guard = none) (s x : Operand) (t u : TypeId) (ht : Tryd.prog.underlying t = some (.slice S.te)) (hu : Tryd.prog.underlying u = some (.slice S.te))
    (ho : o.op = .call { callee := .builtin .append, args := #[s, x], argTypes := #[t, u] }) (base : Nat)
    (v : Value) (n : Nat) (xs ys : List T) (b off l1 c1 : Nat) (hs : a.eval s = v) (hown : w.ownsRow base S.te S.k v n (cells S xs)) (hx : a.eval x = .slice (some ⟨b, off, none⟩) l1 c1)
    (hl : ys.length = l1) (hc : ∀ j w', (cells S ys)[j]? = some w' → w.cell? ⟨b, off + j, none⟩ = some w') (hn : n + l1 ≤ 4000000) (hbase : base ≤ w.heap.size)
    (h : ∀ v' w', w'.ownsRow base S.te S.k v' (n + l1) (cells S (xs ++ ys)) → w.grownBy w' v.ownBlock → wpList Tryd.prog ops Q rest (a.put o.dst v') w') :
    wpList Tryd.prog ops Q (o :: rest) a w := by
  obtain ⟨i0, hi, hz0, hz1, hz2⟩ := info_parts S.info
  refine wpList_plain hgd fun K hK => ?_
  obtain ⟨v', w', hr, h2, h3, _⟩ := run_append_own (P := Tryd.prog) w base t o.type S.te i0 S.zv S.k S.bytes ht hi hz0 hz1 hz2 S.zcells S.pos v n (cells S xs) hown ⟨b, off, none⟩ l1 c1 (cells S ys) (by rw [cells_len, hl]) (fun j u hu => by rw [add_at]; exact hc j u hu) (cells_one S ys)
    (by unfold maxLen; omega) (by have := Nat.mul_le_mul (show n + l1 ≤ 4000000 by omega) S.small; omega) hbase
  rw [← append_named ht hu] at hr
  unfold Oper.wp execOp
  simp only [ho, resolve, invoke, builtin, Sem.run_bind, Sem.run_pure, Result.andThen_ok, List.map_toArray, List.map_cons, List.map_nil, hs, hx, hr]
  exact hK _ _ (h v' w' (by rw [cells_append]; exact h2) h3)
/-- Strings as elements. -/
def strS : Sh ByteArray where
  c := fun s => [.string s]
  z := ⟨#[]⟩
  zv := .string ⟨#[]⟩
  ts := 53
  te := 9
  k := 1
  bytes := 16
  pos := by decide
  small := by decide
  len := fun t => rfl
  one := fun t u hu => by
    rw [List.mem_singleton] at hu
    subst hu
    rfl
  zcells := rfl
  und := Tryd.underlying53
  info := by kernel_rfl
theorem str_get {xs : List ByteArray} {j : Nat} {x : ByteArray} (h : xs[j]? = some x) : (cells strS xs)[j]? = some (.string x) := by
  have := cells_get strS xs j x h 0 (.string x) rfl
  rw [show strS.k = 1 from rfl, Nat.mul_one, Nat.add_zero] at this
  exact this
/-- Strings that stand in a block of their own. -/
theorem strs_block {w : World} {b : Nat} {ys : List ByteArray} {cs : Array Value} {t : TypeId} (h : w.heap[b]? = some (.cells cs t (0, 0))) (hc : cs.toList = cells strS ys) : ∀ j u, (cells strS ys)[j]? = some u → w.cell? ⟨b, 0 + j, none⟩ = some u := by
  intro j u hu
  rw [← hc] at hu
  rw [Nat.zero_add]
  simpa [World.cell?, h] using hu
end Go.Proofs.YtcdinaoenhonbaaDoor.Rw
